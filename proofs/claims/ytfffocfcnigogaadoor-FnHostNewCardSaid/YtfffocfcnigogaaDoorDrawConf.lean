/- Contracts: hosts drawn. -/
import Derived.Test.YtfffocfcnigogaaDoorDraws
import Derived.Test.YtfffocfcnigogaaDoorDrawMail
import Derived.Test.YtfffocfcnigogaaDoorOne
import Derived.Test.YtfffocfcnigogaaDoorConfOk
import Derived.Test.YtfffocfcnigogaaDoorBasis
namespace Go.Proofs.YtfffocfcnigogaaDoor
open Go Go.RowKit

def dNm1 : ByteArray := ⟨#[111, 110, 101, 46, 111, 114, 103]⟩
def dOwn1 : List ByteArray := [⟨#[111, 110, 101, 46, 111, 114, 103]⟩, ⟨#[97, 46, 111, 110, 101, 46, 111, 114, 103]⟩]
def dWays1 : List Pair := [(⟨#[116, 119, 111, 46, 111, 114, 103]⟩, ⟨#[116, 119, 111, 46, 111, 114, 103]⟩), (⟨#[110, 101, 116]⟩, ⟨#[104, 117, 98, 46, 110, 101, 116]⟩), (⟨#[99, 111, 109]⟩, ⟨#[104, 117, 98, 46, 110, 101, 116]⟩)]
def dNm2 : ByteArray := ⟨#[116, 119, 111, 46, 111, 114, 103]⟩
def dOwn2 : List ByteArray := [⟨#[116, 119, 111, 46, 111, 114, 103]⟩]
def dWays2 : List Pair := [(⟨#[111, 114, 103]⟩, ⟨#[111, 110, 101, 46, 111, 114, 103]⟩), (⟨#[104, 117, 98, 46, 110, 101, 116]⟩, ⟨#[104, 117, 98, 46, 110, 101, 116]⟩)]
def dNm3 : ByteArray := ⟨#[104, 117, 98, 46, 110, 101, 116]⟩
def dOwn3 : List ByteArray := [⟨#[104, 117, 98, 46, 110, 101, 116]⟩, ⟨#[111, 116, 104, 101, 114, 46, 99, 111, 109]⟩]
def dWays3 : List Pair := [(⟨#[111, 110, 101, 46, 111, 114, 103]⟩, ⟨#[111, 110, 101, 46, 111, 114, 103]⟩), (⟨#[116, 119, 111, 46, 111, 114, 103]⟩, ⟨#[116, 119, 111, 46, 111, 114, 103]⟩), (⟨#[102, 97, 114, 46, 99, 111, 109]⟩, ⟨#[103, 111, 110, 101, 46, 99, 111, 109]⟩), (⟨#[120, 46, 99, 111, 109]⟩, ⟨#[116, 119, 111, 46, 111, 114, 103]⟩)]
def dWays2b : List Pair := [(⟨#[120, 46, 99, 111, 109]⟩, ⟨#[111, 110, 101, 46, 111, 114, 103]⟩), (⟨#[111, 110, 101, 46, 111, 114, 103]⟩, ⟨#[111, 110, 101, 46, 111, 114, 103]⟩)]
def dWayC : Pair := (⟨#[99, 111, 109]⟩, ⟨#[104, 117, 98, 46, 110, 101, 116]⟩)

theorem infoWay2 : (Tryd.prog.info? 114).map (fun i => (i.zero, i.size, i.bytes)) = some (some (.agg #[.string ByteArray.empty, .string ByteArray.empty]), 2, 32) := by kernel_rfl
theorem lit_own (w : World) (B : Nat) (cs : Array Value) (t : TypeId) (n size : Nat) (xs : List Value) (hB : B ≤ w.heap.size) (hs : cs.toList = xs) (hx : xs.length = n * size) (hn : n ≤ maxLen) :
    (w.alloc (.cells cs t)).ownsRow B t size (.slice (some ⟨w.heap.size, 0, none⟩) n n) n xs := by
  subst hs
  refine ⟨hx, .inr ⟨w.heap.size, n, cs, rfl, hB, heap_alloc_new w _, Nat.le_refl _, hn, by rw [← hx]; simp, ?_⟩⟩
  rw [List.take_of_length_le (by omega)]
theorem own_more {w : World} {B : Nat} {e : TypeId} {size n : Nat} {v : Value} {xs : List Value} (h : w.ownsRow B e size v n xs) (o : Obj) : (w.alloc o).ownsRow B e size v n xs := h.alloc o
theorem own_far {w : World} {B : Nat} {e : TypeId} {size n k j : Nat} {v : Value} {xs : List Value} (h : w.ownsRow B e size v n xs) (u : Value) (hk : v.ownBlock ≠ some k) : (w.setCell ⟨k, j, none⟩ u).ownsRow B e size v n xs := by
  refine h.kept (row := some k) ⟨rfl, rfl, rfl, by simp, fun i _ hi => heap_setCell_other w ⟨k, j, none⟩ i u (fun e => hi (by simp [e]))⟩ (.inr hk)
theorem own_keep2 {w w' : World} {B : Nat} {r : Option Nat} {e : TypeId} {size n : Nat} {v : Value} {xs : List Value} (h : w.ownsRow B e size v n xs) (hg : w.grownBy w' r) (hk : v.ownBlock ≠ r) : w'.ownsRow B e size v n xs :=
  h.kept hg (.inr hk)
/-- Fewer of a row. -/
theorem own_less {w : World} {B : Nat} {e : TypeId} {g n c k : Nat} {ps : List Pair} (h : w.ownsRow B e 2 (.slice (some ⟨g, 0, none⟩) n c) n (pairCells ps)) (hk : k ≤ n) (hn : ps.length = n) : w.ownsRow B e 2 (.slice (some ⟨g, 0, none⟩) k c) k (pairCells (ps.take k)) := by
  rcases h.2 with ⟨h1, _⟩ | ⟨g', c', cur, h1, h2, h3, h4, h5, h6, h7⟩
  · cases h1
  · simp only [Value.slice.injEq, Option.some.injEq, Addr.mk.injEq, and_true, true_and] at h1
    obtain ⟨rfl, rfl⟩ := h1
    have hl : (ps.take k).length = k := by simp; omega
    refine ⟨by rw [pairCells_length, hl], .inr ⟨g, c, cur, rfl, h2, h3, by omega, h5, h6, ?_⟩⟩
    have e1 : pairCells ps = pairCells (ps.take k) ++ pairCells (ps.drop k) := by
      unfold pairCells; rw [← List.flatMap_append, List.take_append_drop]
    have e2 : cur.toList.take (k * 2) = (cur.toList.take (n * 2)).take (k * 2) := by rw [List.take_take]; congr 1; omega
    rw [e2, h7, e1, List.take_append_of_le_length (by rw [pairCells_length, hl]; omega), List.take_of_length_le (by rw [pairCells_length, hl]; omega)]

/-- The three hosts as they are laid, ahead of the draw. -/
def confW (w : World) : World :=
  ((((((((w.alloc (.cells (dOwn1.map Value.string).toArray 9)).alloc (.cells (pairCells dWays1).toArray 114)).alloc (.cells #[.string dNm1, .slice (some ⟨w.heap.size, 0, none⟩) 2 2, .slice (some ⟨w.heap.size + 1, 0, none⟩) 3 3] 53)).alloc
    (.cells (dOwn2.map Value.string).toArray 9)).alloc (.cells (pairCells dWays2).toArray 114)).alloc (.cells #[.string dNm2, .slice (some ⟨w.heap.size + 1 + 1 + 1, 0, none⟩) 1 1, .slice (some ⟨w.heap.size + 1 + 1 + 1 + 1, 0, none⟩) 2 2] 53)).alloc
    (.cells (dOwn3.map Value.string).toArray 9)).alloc (.cells (pairCells dWays3).toArray 114)).alloc (.cells #[.string dNm3, .slice (some ⟨w.heap.size + 1 + 1 + 1 + 1 + 1 + 1, 0, none⟩) 2 2, .slice (some ⟨w.heap.size + 1 + 1 + 1 + 1 + 1 + 1 + 1, 0, none⟩) 4 4] 53)

structure CS (w : World) (B b P : Nat) (x1 x2 x3 : List Value) (W : World) : Prop where
  k1 : CellsM W (w.heap.size + 1 + 1) x1
  k2 : CellsM W (w.heap.size + 1 + 1 + 1 + 1 + 1) x2
  k3 : CellsM W (w.heap.size + 1 + 1 + 1 + 1 + 1 + 1 + 1 + 1) x3
  o1 : Row W w.heap.size (some ⟨w.heap.size, 0, none⟩) 2 dOwn1
  o2 : Row W w.heap.size (some ⟨w.heap.size + 1 + 1 + 1, 0, none⟩) 1 dOwn2
  o3 : Row W w.heap.size (some ⟨w.heap.size + 1 + 1 + 1 + 1 + 1 + 1, 0, none⟩) 2 dOwn3
  p1 : PRow W w.heap.size 114 (some ⟨w.heap.size + 1, 0, none⟩) 3 dWays1
  p3 : PRow W w.heap.size 114 (some ⟨w.heap.size + 1 + 1 + 1 + 1 + 1 + 1 + 1, 0, none⟩) 4 dWays3
  rd : Rd B b P W
  grown : w.grownBy W (some b)
  lt : b < w.heap.size
  sz : w.heap.size + 1 + 1 + 1 + 1 + 1 + 1 + 1 + 1 + 1 ≤ W.heap.size
theorem ne_own {g k n c : Nat} (h : g ≠ k) : (Value.slice (some ⟨g, 0, none⟩) n c).ownBlock ≠ some k := fun e => h (Option.some.inj e)
theorem CS.grow {w : World} {B b P P' : Nat} {x1 x2 x3 : List Value} {W W' : World} {r : Nat} (h : CS w B b P x1 x2 x3 W) (hg : W.grownBy W' (some r)) (hd : Rd B b P' W') (hw : w.grownBy W' (some b)) (hr : r < w.heap.size ∨ r = w.heap.size + 1 + 1 + 1 + 1) : CS w B b P' x1 x2 x3 W' :=
  ⟨h.k1.kept hg (fun e => by have := Option.some.inj e; omega), h.k2.kept hg (fun e => by have := Option.some.inj e; omega), h.k3.kept hg (fun e => by have := Option.some.inj e; omega),
   own_keep2 h.o1 hg (ne_own (by omega)), own_keep2 h.o2 hg (ne_own (by omega)), own_keep2 h.o3 hg (ne_own (by omega)), own_keep2 h.p1 hg (ne_own (by omega)), own_keep2 h.p3 hg (ne_own (by omega)), hd, hw, h.lt, Nat.le_trans h.sz hg.size⟩
theorem CS.step {w : World} {B b P P' : Nat} {x1 x2 x3 : List Value} {W W' : World} (h : CS w B b P x1 x2 x3 W) (hg : W.grownBy W' (some b)) (hd : Rd B b P' W') : CS w B b P' x1 x2 x3 W' := h.grow hg hd (h.grown.trans hg) (.inl h.lt)
theorem CS.more {w : World} {B b P : Nat} {x1 x2 x3 : List Value} {W : World} (h : CS w B b P x1 x2 x3 W) (o : Obj) : CS w B b P x1 x2 x3 (W.alloc o) :=
  h.step (grow_below ((Below.refl _ _).alloc (Nat.le_refl _) o)) (h.rd.later ((Below.refl _ _).alloc (Nat.le_refl _) o))
theorem CS.set1 {w : World} {B b P : Nat} {x1 x2 x3 : List Value} {W : World} (h : CS w B b P x1 x2 x3 W) (v : Value) (hx : 2 < x1.length) : CS w B b P (x1.set 2 v) x2 x3 (W.setCell ⟨w.heap.size + 1 + 1, 2, none⟩ v) :=
  have hl := h.lt
  ⟨h.k1.set 2 v hx, h.k2.far v (by omega), h.k3.far v (by omega), own_far h.o1 v (ne_own (by omega)), own_far h.o2 v (ne_own (by omega)), own_far h.o3 v (ne_own (by omega)), own_far h.p1 v (ne_own (by omega)), own_far h.p3 v (ne_own (by omega)), h.rd.set (by omega) v, grow_set h.grown (by omega) v, hl, by simpa using h.sz⟩
theorem CS.set2 {w : World} {B b P : Nat} {x1 x2 x3 : List Value} {W : World} (h : CS w B b P x1 x2 x3 W) (v : Value) (hx : 2 < x2.length) : CS w B b P x1 (x2.set 2 v) x3 (W.setCell ⟨w.heap.size + 1 + 1 + 1 + 1 + 1, 2, none⟩ v) :=
  have hl := h.lt
  ⟨h.k1.far v (by omega), h.k2.set 2 v hx, h.k3.far v (by omega), own_far h.o1 v (ne_own (by omega)), own_far h.o2 v (ne_own (by omega)), own_far h.o3 v (ne_own (by omega)), own_far h.p1 v (ne_own (by omega)), own_far h.p3 v (ne_own (by omega)), h.rd.set (by omega) v, grow_set h.grown (by omega) v, hl, by simpa using h.sz⟩

def laidC (W : World) (nm : ByteArray) (own : List ByteArray) (no : Nat) (ways : List Pair) (nw : Nat) : World :=
  ((W.alloc (.cells (own.map Value.string).toArray 9)).alloc (.cells (pairCells ways).toArray 114)).alloc (.cells #[.string nm, .slice (some ⟨W.heap.size, 0, none⟩) no no, .slice (some ⟨W.heap.size + 1, 0, none⟩) nw nw] 53)
theorem laidC_size (W : World) (nm : ByteArray) (own : List ByteArray) (no : Nat) (ways : List Pair) (nw : Nat) : (laidC W nm own no ways nw).heap.size = W.heap.size + 1 + 1 + 1 := by simp [laidC]
theorem confW_eq (w : World) : confW w = laidC (laidC (laidC w dNm1 dOwn1 2 dWays1 3) dNm2 dOwn2 1 dWays2 2) dNm3 dOwn3 2 dWays3 4 := by
  unfold confW laidC; simp only [World.size_alloc]
structure LC (B s : Nat) (nm : ByteArray) (own : List ByteArray) (ways : List Pair) (W : World) : Prop where
  k : CellsM W (s + 1 + 1) [.string nm, .slice (some ⟨s, 0, none⟩) own.length own.length, .slice (some ⟨s + 1, 0, none⟩) ways.length ways.length]
  o : Row W B (some ⟨s, 0, none⟩) own.length own
  p : PRow W B 114 (some ⟨s + 1, 0, none⟩) ways.length ways
theorem LC.later {B s : Nat} {nm : ByteArray} {own : List ByteArray} {ways : List Pair} {W W' : World} (h : LC B s nm own ways W) (hb : Below W.heap.size W W') : LC B s nm own ways W' := ⟨h.k.later hb, h.o.later hb, h.p.later hb⟩
theorem laidC_is (B : Nat) (W : World) (nm : ByteArray) (own : List ByteArray) (ways : List Pair) (hB : B ≤ W.heap.size) (h1 : own.length ≤ 10) (h2 : ways.length ≤ 10) :
    LC B W.heap.size nm own ways (laidC W nm own own.length ways ways.length) ∧ Below W.heap.size W (laidC W nm own own.length ways ways.length) := by
  have a := lit_own W B (own.map Value.string).toArray 9 own.length 1 (own.map Value.string) hB (by simp) (by simp) (by unfold maxLen; omega)
  have b := lit_own (W.alloc (.cells (own.map Value.string).toArray 9)) B (pairCells ways).toArray 114 ways.length 2 (pairCells ways) (by simp; omega) (by simp) (pairCells_length ways) (by unfold maxLen; omega)
  have c := CellsM.new ((W.alloc (.cells (own.map Value.string).toArray 9)).alloc (.cells (pairCells ways).toArray 114)) #[.string nm, .slice (some ⟨W.heap.size, 0, none⟩) own.length own.length, .slice (some ⟨W.heap.size + 1, 0, none⟩) ways.length ways.length] 53
  simp only [World.size_alloc] at b c
  refine ⟨⟨c, (a.alloc _).alloc _, b.alloc _⟩, ?_⟩
  unfold laidC
  exact (((Below.refl _ _).alloc (Nat.le_refl _) _).alloc (by simp) _).alloc (by simp; omega) _

theorem confs_new (B b P : Nat) (w : World) (h : Rd B b P w) :
    CS w B b P [.string dNm1, .slice (some ⟨w.heap.size, 0, none⟩) 2 2, .slice (some ⟨w.heap.size + 1, 0, none⟩) 3 3] [.string dNm2, .slice (some ⟨w.heap.size + 1 + 1 + 1, 0, none⟩) 1 1, .slice (some ⟨w.heap.size + 1 + 1 + 1 + 1, 0, none⟩) 2 2] [.string dNm3, .slice (some ⟨w.heap.size + 1 + 1 + 1 + 1 + 1 + 1, 0, none⟩) 2 2, .slice (some ⟨w.heap.size + 1 + 1 + 1 + 1 + 1 + 1 + 1, 0, none⟩) 4 4] (confW w)
    ∧ PRow (confW w) w.heap.size 114 (some ⟨w.heap.size + 1 + 1 + 1 + 1, 0, none⟩) 2 dWays2 := by
  rw [confW_eq]
  obtain ⟨l1, b1⟩ := laidC_is w.heap.size w dNm1 dOwn1 dWays1 (Nat.le_refl _) (by decide) (by decide)
  have s1 := laidC_size w dNm1 dOwn1 2 dWays1 3
  generalize hw1 : laidC w dNm1 dOwn1 2 dWays1 3 = W1 at s1 ⊢
  replace l1 : LC w.heap.size w.heap.size dNm1 dOwn1 dWays1 W1 := by rw [← hw1]; exact l1
  replace b1 : Below w.heap.size w W1 := by rw [← hw1]; exact b1
  obtain ⟨l2, b2⟩ := laidC_is w.heap.size W1 dNm2 dOwn2 dWays2 (by omega) (by decide) (by decide)
  have s2 := laidC_size W1 dNm2 dOwn2 1 dWays2 2
  generalize hw2 : laidC W1 dNm2 dOwn2 1 dWays2 2 = W2 at s2 ⊢
  replace l2 : LC w.heap.size W1.heap.size dNm2 dOwn2 dWays2 W2 := by rw [← hw2]; exact l2
  replace b2 : Below W1.heap.size W1 W2 := by rw [← hw2]; exact b2
  obtain ⟨l3, b3⟩ := laidC_is w.heap.size W2 dNm3 dOwn3 dWays3 (by omega) (by decide) (by decide)
  have s3 := laidC_size W2 dNm3 dOwn3 2 dWays3 4
  generalize hw3 : laidC W2 dNm3 dOwn3 2 dWays3 4 = W3 at s3 ⊢
  replace l3 : LC w.heap.size W2.heap.size dNm3 dOwn3 dWays3 W3 := by rw [← hw3]; exact l3
  replace b3 : Below W2.heap.size W2 W3 := by rw [← hw3]; exact b3
  have m2 := l2.later b3
  have m1 := (l1.later b2).later b3
  rw [s2, s1] at l3
  rw [s1] at m2
  have hb : Below w.heap.size w W3 := (b1.trans (b2.mono (by omega))).trans (b3.mono (by omega))
  exact ⟨⟨m1.k, m2.k, l3.k, m1.o, m2.o, l3.o, m1.p, l3.p, h.later hb, grow_below hb, h.lt.2, by omega⟩, m2.p⟩

/-- A host of the call's own. -/
structure CfOwn (w : World) (B : Nat) (c : ConfD) (g1 c1 g2 c2 : Nat) : Prop where
  own : Row w B (some ⟨g1, 0, none⟩) c1 c.own
  ways : PRow w B 114 (some ⟨g2, 0, none⟩) c2 c.ways
theorem CfOwn.at {w : World} {B : Nat} {c : ConfD} {g1 c1 g2 c2 : Nat} (h : CfOwn w B c g1 c1 g2 c2) : ConfAt w c (some ⟨g1, 0, none⟩) (some ⟨g2, 0, none⟩) := ⟨h.own.strs, h.ways.pairs⟩
theorem CfOwn.keep {w w' : World} {B b : Nat} {c : ConfD} {g1 c1 g2 c2 : Nat} (h : CfOwn w B c g1 c1 g2 c2) (hg : w.grownBy w' (some b)) (hb : b < B) : CfOwn w' B c g1 c1 g2 c2 := ⟨own_keep h.own hg hb, own_keep h.ways hg hb⟩
theorem CfOwn.later {w w' : World} {B : Nat} {c : ConfD} {g1 c1 g2 c2 : Nat} (h : CfOwn w B c g1 c1 g2 c2) (hb : Below w.heap.size w w') : CfOwn w' B c g1 c1 g2 c2 := ⟨h.own.later hb, h.ways.later hb⟩

structure CfV where
  c : ConfD
  g1 : Nat
  c1 : Nat
  g2 : Nat
  c2 : Nat
abbrev CfV.cells (x : CfV) : List Value := [.string x.c.name, .slice (some ⟨x.g1, 0, none⟩) x.c.own.length x.c1, .slice (some ⟨x.g2, 0, none⟩) x.c.ways.length x.c2]
/-- The row at block k holds the hosts cs. -/
structure Confs (B k : Nat) (cs : List CfV) (W : World) : Prop where
  cells : ∀ (i : Nat) (x : CfV), cs[i]? = some x → W.cell? ⟨k, i * 3, none⟩ = some (.string x.c.name) ∧ W.cell? ⟨k, i * 3 + 1, none⟩ = some (.slice (some ⟨x.g1, 0, none⟩) x.c.own.length x.c1) ∧ W.cell? ⟨k, i * 3 + 2, none⟩ = some (.slice (some ⟨x.g2, 0, none⟩) x.c.ways.length x.c2)
  own : ∀ x ∈ cs, CfOwn W B x.c x.g1 x.c1 x.g2 x.c2
  sz : ∀ x ∈ cs, ConfSz 20 x.c
  low : B ≤ k ∧ k < W.heap.size
theorem Confs.later {B k : Nat} {cs : List CfV} {W W' : World} (h : Confs B k cs W) (hb : Below W.heap.size W W') : Confs B k cs W' :=
  ⟨fun i x hx => ⟨(hb.cell (p := ⟨k, i * 3, none⟩) h.low.2).trans (h.cells i x hx).1, (hb.cell (p := ⟨k, i * 3 + 1, none⟩) h.low.2).trans (h.cells i x hx).2.1, (hb.cell (p := ⟨k, i * 3 + 2, none⟩) h.low.2).trans (h.cells i x hx).2.2⟩, fun x hx => (h.own x hx).later hb, h.sz, ⟨h.low.1, Nat.lt_of_lt_of_le h.low.2 hb.size⟩⟩
theorem confs_row (B : Nat) (W : World) (cs : List CfV) (t : TypeId) (hB : B ≤ W.heap.size) (ho : ∀ x ∈ cs, CfOwn W B x.c x.g1 x.c1 x.g2 x.c2) (hs : ∀ x ∈ cs, ConfSz 20 x.c) : Confs B W.heap.size cs (W.alloc (.cells (cs.flatMap CfV.cells).toArray t)) := by
  have key : ∀ (ds : List CfV) (i : Nat) (x : CfV), ds[i]? = some x → (ds.flatMap CfV.cells)[i * 3]? = some (.string x.c.name) ∧ (ds.flatMap CfV.cells)[i * 3 + 1]? = some (.slice (some ⟨x.g1, 0, none⟩) x.c.own.length x.c1) ∧ (ds.flatMap CfV.cells)[i * 3 + 2]? = some (.slice (some ⟨x.g2, 0, none⟩) x.c.ways.length x.c2) := by
    intro ds
    induction ds with
    | nil => intro i x h; simp at h
    | cons d r ih =>
      intro i x h
      cases i with
      | zero => simp at h; subst h; exact ⟨rfl, rfl, rfl⟩
      | succ i =>
        have e : ∀ j, ((d :: r).flatMap CfV.cells)[(i + 1) * 3 + j]? = (r.flatMap CfV.cells)[i * 3 + j]? := fun j => by
          rw [List.flatMap_cons, List.getElem?_append_right (by simp [CfV.cells]; omega)]
          congr 1
          simp [CfV.cells]; omega
        have h' := ih i x (by simpa using h)
        exact ⟨(e 0).trans h'.1, (e 1).trans h'.2.1, (e 2).trans h'.2.2⟩
  refine ⟨fun i x hx => ?_, fun x hx => (ho x hx).later ((Below.refl _ _).alloc (Nat.le_refl _) _), hs, hB, by simp⟩
  obtain ⟨h0, h1, h2⟩ := key cs i x hx
  exact ⟨by rw [World.cell?_alloc_new, ← Array.getElem?_toList]; exact h0, by rw [World.cell?_alloc_new, ← Array.getElem?_toList]; exact h1, by rw [World.cell?_alloc_new, ← Array.getElem?_toList]; exact h2⟩

theorem confs3 {w : World} {B b P : Nat} {x1 x2 x3 : List Value} {W : World} {w1 w2 : List Pair} {g2 c2 : Nat} (h : CS w B b P x1 x2 x3 W) (hp : PRow W w.heap.size 114 (some ⟨g2, 0, none⟩) c2 w2) (hq : PRow W w.heap.size 114 (some ⟨w.heap.size + 1, 0, none⟩) 3 w1) :
    ∀ x ∈ ([⟨⟨dNm1, dOwn1, w1⟩, w.heap.size, 2, w.heap.size + 1, 3⟩, ⟨⟨dNm2, dOwn2, w2⟩, w.heap.size + 1 + 1 + 1, 1, g2, c2⟩, ⟨⟨dNm3, dOwn3, dWays3⟩, w.heap.size + 1 + 1 + 1 + 1 + 1 + 1, 2, w.heap.size + 1 + 1 + 1 + 1 + 1 + 1 + 1, 4⟩] : List CfV), CfOwn W w.heap.size x.c x.g1 x.c1 x.g2 x.c2 := by
  intro x hx
  simp only [List.mem_cons, List.not_mem_nil, or_false] at hx
  rcases hx with rfl | rfl | rfl
  · exact ⟨h.o1, hq⟩
  · exact ⟨h.o2, hp⟩
  · exact ⟨h.o3, h.p3⟩
theorem confs2 {w : World} {B b P : Nat} {x1 x2 x3 : List Value} {W : World} (h : CS w B b P x1 x2 x3 W) (hp : PRow W w.heap.size 114 (some ⟨w.heap.size + 1 + 1 + 1 + 1, 0, none⟩) 2 dWays2) :
    ∀ x ∈ ([⟨⟨dNm1, dOwn1, dWays1⟩, w.heap.size, 2, w.heap.size + 1, 3⟩, ⟨⟨dNm2, dOwn2, dWays2⟩, w.heap.size + 1 + 1 + 1, 1, w.heap.size + 1 + 1 + 1 + 1, 2⟩] : List CfV), CfOwn W w.heap.size x.c x.g1 x.c1 x.g2 x.c2 := by
  intro x hx
  simp only [List.mem_cons, List.not_mem_nil, or_false] at hx
  rcases hx with rfl | rfl
  · exact ⟨h.o1, h.p1⟩
  · exact ⟨h.o2, hp⟩
def cfSz (c : ConfD) : Bool := decide (c.name.size ≤ 20) && (c.own.all (fun x => decide (x.size ≤ 20)) && (decide (c.own.length ≤ 20) && (c.ways.all (fun p => decide (p.1.size ≤ 20) && decide (p.2.size ≤ 20)) && decide (c.ways.length ≤ 20))))
theorem cfSz_is {c : ConfD} (h : cfSz c = true) : ConfSz 20 c := by
  unfold cfSz at h
  simp only [Bool.and_eq_true, List.all_eq_true, decide_eq_true_eq] at h
  exact ⟨h.1, h.2.2.1, h.2.1, h.2.2.2.2, h.2.2.2.1⟩
theorem cfs_sz {cs : List CfV} (h : (cs.map CfV.c).all cfSz = true) : ∀ x ∈ cs, ConfSz 20 x.c := fun x hx => cfSz_is (List.all_eq_true.1 h x.c (List.mem_map_of_mem hx))
theorem cfD : ([⟨dNm1, dOwn1, dWays1⟩, ⟨dNm1, dOwn1, dWays1.take 2⟩, ⟨dNm2, dOwn2, dWays2⟩, ⟨dNm2, dOwn2, dWays2b⟩, ⟨dNm2, dOwn2, dWays2 ++ [dWayC]⟩, ⟨dNm3, dOwn3, dWays3⟩] : List ConfD).all cfSz = true := by decide +kernel
theorem cf1 : ConfSz 20 ⟨dNm1, dOwn1, dWays1⟩ := cfSz_is (List.all_eq_true.1 cfD _ (by simp))
theorem cf1t : ConfSz 20 ⟨dNm1, dOwn1, dWays1.take 2⟩ := cfSz_is (List.all_eq_true.1 cfD _ (by simp))
theorem cf2 : ConfSz 20 ⟨dNm2, dOwn2, dWays2⟩ := cfSz_is (List.all_eq_true.1 cfD _ (by simp))
theorem cf2b : ConfSz 20 ⟨dNm2, dOwn2, dWays2b⟩ := cfSz_is (List.all_eq_true.1 cfD _ (by simp))
theorem cf2c : ConfSz 20 ⟨dNm2, dOwn2, dWays2 ++ [dWayC]⟩ := cfSz_is (List.all_eq_true.1 cfD _ (by simp))
theorem cf3 : ConfSz 20 ⟨dNm3, dOwn3, dWays3⟩ := cfSz_is (List.all_eq_true.1 cfD _ (by simp))
theorem two_sz {a b : CfV} (h1 : ConfSz 20 a.c) (h2 : ConfSz 20 b.c) : ∀ x ∈ [a, b], ConfSz 20 x.c := by
  intro x hx
  simp only [List.mem_cons, List.not_mem_nil, or_false] at hx
  rcases hx with rfl | rfl <;> assumption
theorem three_sz {a b c : CfV} (h1 : ConfSz 20 a.c) (h2 : ConfSz 20 b.c) (h3 : ConfSz 20 c.c) : ∀ x ∈ [a, b, c], ConfSz 20 x.c := by
  intro x hx
  simp only [List.mem_cons, List.not_mem_nil, or_false] at hx
  rcases hx with rfl | rfl | rfl <;> assumption

theorem pick_confs (B b P : Nat) (w : World) (h : Rd B b P w) (hP : P ≤ 1000000) :
    Calls Tryd.prog 77 #[.pointer (some ⟨b, 0, none⟩), .int .i64 5] (confW w) fun e w' => ∃ k : Nat, e = .returned (.int .i64 (k : Int)) ∧ k < 5 ∧
      CS w B b (P + 1) [.string dNm1, .slice (some ⟨w.heap.size, 0, none⟩) 2 2, .slice (some ⟨w.heap.size + 1, 0, none⟩) 3 3] [.string dNm2, .slice (some ⟨w.heap.size + 1 + 1 + 1, 0, none⟩) 1 1, .slice (some ⟨w.heap.size + 1 + 1 + 1 + 1, 0, none⟩) 2 2] [.string dNm3, .slice (some ⟨w.heap.size + 1 + 1 + 1 + 1 + 1 + 1, 0, none⟩) 2 2, .slice (some ⟨w.heap.size + 1 + 1 + 1 + 1 + 1 + 1 + 1, 0, none⟩) 4 4] w'
      ∧ PRow w' w.heap.size 114 (some ⟨w.heap.size + 1 + 1 + 1 + 1, 0, none⟩) 2 dWays2 := by
  obtain ⟨c, p⟩ := confs_new B b P w h
  refine (pick_any B b P 5 _ c.rd hP (by decide) (by decide)).mono ?_
  rintro e w' ⟨k, rfl, hk, h2, g2⟩
  exact ⟨k, rfl, hk, c.step g2 h2, own_keep p g2 c.lt⟩

set_option maxHeartbeats 4000000 in
set_option maxRecDepth 100000 in
theorem l20Confs_any (B b P : Nat) (w : World) (h : Rd B b P w) (hP : P ≤ 700000) :
    Calls Tryd.prog 139 #[.pointer (some ⟨b, 0, none⟩)] w fun e w' => ∃ k cs, e = .returned (.slice (some ⟨k, 0, none⟩) cs.length cs.length) ∧ Confs w.heap.size k cs w' ∧ 2 ≤ cs.length ∧ cs.length ≤ 3 ∧ Rd B b (P + 1) w' ∧ w.grownBy w' (some b) := by
  have HP := Lib.hid hP
  have H := Lib.hid h
  clear hP h
  go_enter Tryd.func139, Tryd.ntmps139
  go_wp2_with fail
  refine (pick_confs B b P w H.out (by have := HP.out; omega)).mono ?_
  rintro e w1 ⟨k, rfl, hk, hc, hp2⟩
  have C := Lib.hid hc
  have P2 := Lib.hid hp2
  clear hc hp2
  have q10 := C.out.k1.c 0 _ rfl
  have q11 := C.out.k1.c 1 _ rfl
  have q12 := C.out.k1.c 2 _ rfl
  have q20 := C.out.k2.c 0 _ rfl
  have q21 := C.out.k2.c 1 _ rfl
  have q22 := C.out.k2.c 2 _ rfl
  have q30 := C.out.k3.c 0 _ rfl
  have q31 := C.out.k3.c 1 _ rfl
  have q32 := C.out.k3.c 2 _ rfl
  have f12 := C.out.k1.f 2 (by simp)
  have f22 := C.out.k2.f 2 (by simp)
  have hl1 : w.heap.size + 1 + 1 < w1.heap.size := C.out.k1.lt
  have hl2 : w.heap.size + 1 + 1 + 1 + 1 + 1 < w1.heap.size := C.out.k2.lt
  have hl3 : w.heap.size + 1 + 1 + 1 + 1 + 1 + 1 + 1 + 1 < w1.heap.size := C.out.k3.lt
  have hle : w.heap.size ≤ w1.heap.size := by omega
  obtain ⟨i0, hi, hz0, hz1, hz2⟩ := info_parts infoWay2
  rcases (show k = 0 ∨ k = 1 ∨ k = 2 ∨ (k = 3 ∨ k = 4) by omega) with rfl | rfl | rfl | hk34
  · go_wp2
    go_ret
    have hw := lit_own (w1.setCell ⟨w.heap.size + 1 + 1 + 1 + 1 + 1, 2, none⟩ (.slice (some ⟨w1.heap.size, 0, none⟩) 2 2)) w.heap.size (pairCells dWays2b).toArray 114 2 2 (pairCells dWays2b) (by simpa using hle) (by simp) rfl (by unfold maxLen; omega)
    have D := (C.out.set2 (.slice (some ⟨w1.heap.size, 0, none⟩) 2 2) (by simp)).more (.cells (pairCells dWays2b).toArray 114)
    simp only [World.size_setCell] at hw
    refine ⟨_, [⟨⟨dNm1, dOwn1, dWays1⟩, w.heap.size, 2, w.heap.size + 1, 3⟩, ⟨⟨dNm2, dOwn2, dWays2b⟩, w.heap.size + 1 + 1 + 1, 1, w1.heap.size, 2⟩, ⟨⟨dNm3, dOwn3, dWays3⟩, w.heap.size + 1 + 1 + 1 + 1 + 1 + 1, 2, w.heap.size + 1 + 1 + 1 + 1 + 1 + 1 + 1, 4⟩], rfl, ?_, by simp, by simp, (D.more _).rd, (D.more _).grown⟩
    have R := confs_row w.heap.size _ [⟨⟨dNm1, dOwn1, dWays1⟩, w.heap.size, 2, w.heap.size + 1, 3⟩, ⟨⟨dNm2, dOwn2, dWays2b⟩, w.heap.size + 1 + 1 + 1, 1, w1.heap.size, 2⟩, ⟨⟨dNm3, dOwn3, dWays3⟩, w.heap.size + 1 + 1 + 1 + 1 + 1 + 1, 2, w.heap.size + 1 + 1 + 1 + 1 + 1 + 1 + 1, 4⟩] 53 (Nat.le_trans hle (by simp)) (confs3 D hw D.p1) (three_sz cf1 cf2b cf3)
    simp only [World.size_alloc, World.size_setCell] at R
    exact R
  · go_wp2
    go_ret
    exact ⟨_, [⟨⟨dNm1, dOwn1, dWays1⟩, w.heap.size, 2, w.heap.size + 1, 3⟩, ⟨⟨dNm2, dOwn2, dWays2⟩, w.heap.size + 1 + 1 + 1, 1, w.heap.size + 1 + 1 + 1 + 1, 2⟩], rfl, confs_row w.heap.size _ _ _ hle (confs2 C.out P2.out) (two_sz cf1 cf2), by simp, by simp, (C.out.more _).rd, (C.out.more _).grown⟩
  · have D1 := Lib.hid ((C.out.set1 (.slice (some ⟨w.heap.size + 1, 0, none⟩) 2 3) (by simp)).more (.cells #[.string dWayC.1, .string dWayC.2] 114))
    have P21 := Lib.hid (own_far (k := w.heap.size + 1 + 1) (j := 2) P2.out (.slice (some ⟨w.heap.size + 1, 0, none⟩) 2 3) (ne_own (by omega)))
    go_wp2_with (at_builtin; refine wpList_append_own _ rfl _ _ 51 rfl w.heap.size 114 i0 (.agg #[.string ByteArray.empty, .string ByteArray.empty]) 2 32 Tryd.underlying51 hi hz0 hz1 hz2 rfl (by decide) _ _ _ rfl (P21.out.alloc _) ⟨w1.heap.size, 0, none⟩ 1 1 [.string dWayC.1, .string dWayC.2] rfl rfl ?c1 ?c2 ?c3 ?c4 ?c5 ?_)
    case c1 =>
      intro j u hu
      have h := two_news (w1.setCell ⟨w.heap.size + 1 + 1, 2, none⟩ (.slice (some ⟨w.heap.size + 1, 0, none⟩) 2 3)) 114 dWayC.1 dWayC.2 j u hu
      simp only [World.size_setCell] at h
      exact h
    case c2 => intro u hu; simp at hu; rcases hu with rfl | rfl <;> rfl
    case c3 => unfold maxLen; decide
    case c4 => decide
    case c5 => simp; omega
    intro v' w2 hown' hgrow _
    have hlow : ∀ k, (Value.slice (some ⟨w.heap.size + 1 + 1 + 1 + 1, 0, none⟩) dWays2.length 2).ownBlock = some k → k = w.heap.size + 1 + 1 + 1 + 1 := fun k e => (Option.some.inj e).symm
    have hbw := D1.out.lt
    have D2 := D1.out.grow (r := w.heap.size + 1 + 1 + 1 + 1) hgrow (D1.out.rd.grown hgrow (fun k e => by have := hlow k e; omega)) (grow_own D1.out.grown hgrow (fun k e => by have := hlow k e; omega)) (.inr rfl)
    rcases hown'.2 with ⟨_, h0⟩ | ⟨g, cp, cur, rfl, _⟩
    · exact absurd h0 (by decide)
    have hg2 : g ≠ w.heap.size + 1 + 1 + 1 + 1 + 1 := fun e => by
      have a := hown'.cellAt 1 (by decide)
      have b := D2.k2.c 1 _ rfl
      rw [e] at a
      rw [a] at b
      cases b
    have D3 := D2.set2 (.slice (some ⟨g, 0, none⟩) (dWays2.length + 1) cp) (by simp)
    have R3 := own_far (k := w.heap.size + 1 + 1 + 1 + 1 + 1) (j := 2) hown' (.slice (some ⟨g, 0, none⟩) (dWays2.length + 1) cp) (ne_own hg2)
    have hq := Lib.hid (own_less (n := 3) D3.p1 (k := 2) (by decide) rfl)
    have hp : Hid (PRow (w2.setCell ⟨w.heap.size + 1 + 1 + 1 + 1 + 1, 2, none⟩ (.slice (some ⟨g, 0, none⟩) (dWays2.length + 1) cp)) w.heap.size 114 (some ⟨g, 0, none⟩) cp (dWays2 ++ [dWayC])) := Lib.hid (by
      unfold PRow
      rw [pairCells_snoc]
      exact R3)
    have q10 := D2.k1.c 0 _ rfl
    have q11 := D2.k1.c 1 _ rfl
    have q12 := D2.k1.c 2 _ rfl
    have q20 := D2.k2.c 0 _ rfl
    have q21 := D2.k2.c 1 _ rfl
    have q22 := D2.k2.c 2 _ rfl
    have q30 := D2.k3.c 0 _ rfl
    have q31 := D2.k3.c 1 _ rfl
    have q32 := D2.k3.c 2 _ rfl
    have f22 := D2.k2.f 2 (by simp)
    have m1 : w.heap.size + 1 + 1 < w2.heap.size := D2.k1.lt
    have m2 : w.heap.size + 1 + 1 + 1 + 1 + 1 < w2.heap.size := D2.k2.lt
    have m3 : w.heap.size + 1 + 1 + 1 + 1 + 1 + 1 + 1 + 1 < w2.heap.size := D2.k3.lt
    have E3 := Lib.hid D3
    clear D2 D3 R3 hown' hgrow D1 P21 C P2
    go_wp2
    go_ret
    refine ⟨_, [⟨⟨dNm1, dOwn1, dWays1.take 2⟩, w.heap.size, 2, w.heap.size + 1, 3⟩, ⟨⟨dNm2, dOwn2, dWays2 ++ [dWayC]⟩, w.heap.size + 1 + 1 + 1, 1, g, cp⟩, ⟨⟨dNm3, dOwn3, dWays3⟩, w.heap.size + 1 + 1 + 1 + 1 + 1 + 1, 2, w.heap.size + 1 + 1 + 1 + 1 + 1 + 1 + 1, 4⟩], rfl, ?_, by simp, by simp, (E3.out.more _).rd, (E3.out.more _).grown⟩
    have R := confs_row w.heap.size _ [⟨⟨dNm1, dOwn1, dWays1.take 2⟩, w.heap.size, 2, w.heap.size + 1, 3⟩, ⟨⟨dNm2, dOwn2, dWays2 ++ [dWayC]⟩, w.heap.size + 1 + 1 + 1, 1, g, cp⟩, ⟨⟨dNm3, dOwn3, dWays3⟩, w.heap.size + 1 + 1 + 1 + 1 + 1 + 1, 2, w.heap.size + 1 + 1 + 1 + 1 + 1 + 1 + 1, 4⟩] 53 (by simp; omega) (confs3 E3.out hp.out hq.out) (three_sz cf1t cf2c cf3)
    simp only [World.size_setCell] at R
    exact R
  · have e0 : ((k : Int) == 0) = false := by rw [beq_eq_false_iff_ne]; omega
    have e1 : ((k : Int) == 1) = false := by rw [beq_eq_false_iff_ne]; omega
    have e2 : ((k : Int) == 2) = false := by rw [beq_eq_false_iff_ne]; omega
    go_wp2
    go_ret
    exact ⟨_, [⟨⟨dNm1, dOwn1, dWays1⟩, w.heap.size, 2, w.heap.size + 1, 3⟩, ⟨⟨dNm2, dOwn2, dWays2⟩, w.heap.size + 1 + 1 + 1, 1, w.heap.size + 1 + 1 + 1 + 1, 2⟩, ⟨⟨dNm3, dOwn3, dWays3⟩, w.heap.size + 1 + 1 + 1 + 1 + 1 + 1, 2, w.heap.size + 1 + 1 + 1 + 1 + 1 + 1 + 1, 4⟩], rfl, confs_row w.heap.size _ _ _ hle (confs3 C.out P2.out C.out.p1) (three_sz cf1 cf2 cf3), by simp, by simp, (C.out.more _).rd, (C.out.more _).grown⟩

theorem list_get {α : Type} {l : List α} {k : Nat} (h : k < l.length) : ∃ x, l[k]? = some x := ⟨_, List.getElem?_eq_getElem h⟩

set_option maxHeartbeats 2000000 in
set_option maxRecDepth 100000 in
theorem l20Conf_any (B b P : Nat) (w : World) (h : Rd B b P w) (hP : P ≤ 700000) :
    Calls Tryd.prog 96 #[.pointer (some ⟨b, 0, none⟩)] w fun e w' => ∃ c g1 c1 g2 c2, e = .returned (.agg (confV c (some ⟨g1, 0, none⟩) c1 (some ⟨g2, 0, none⟩) c2)) ∧ CfOwn w' w.heap.size c g1 c1 g2 c2 ∧ ConfSz 20 c ∧ Rd B b (P + 2) w' ∧ w.grownBy w' (some b) := by
  have HP := Lib.hid hP
  have H := Lib.hid h
  have hbw := h.lt.2
  clear hP h
  go_enter Tryd.func96, Tryd.ntmps96
  go_wp2_with fail
  refine (l20Confs_any B b P _ (H.out.more _) HP.out).mono ?_
  rintro e w1 ⟨k, cs, rfl, hcs, h2, h3, hr, hg⟩
  have R0 := Lib.hid ((CellsM.new w #[.string { data := #[] }, .slice none 0 0, .slice none 0 0] 53).kept hg (fun e => by have := Option.some.inj e; omega))
  have G1 := Lib.hid (grow_alloc hg)
  have CS1 := Lib.hid hcs
  have H1 := Lib.hid hr
  have hs1 := hg.size
  simp only [World.size_alloc] at hs1
  clear hcs hr hg H
  go_wp2_with fail
  refine (pick_at1 cs.length H1.out rfl (by have := HP.out; omega) (by omega) (by omega)).mono ?_
  rintro e w2 ⟨i, rfl, hi, h2r, g2⟩
  obtain ⟨x, hx⟩ := list_get hi
  have hc := CS1.out.cells i x hx
  have hmem := List.mem_of_getElem? hx
  have hkb : k ≠ b := by have := CS1.out.low.1; simp at this; omega
  have e0 := g2.cell hc.1 (fun e => hkb (Option.some.inj e))
  have e1 := g2.cell hc.2.1 (fun e => hkb (Option.some.inj e))
  have e2 := g2.cell hc.2.2 (fun e => hkb (Option.some.inj e))
  have OW := Lib.hid ((CS1.out.own x hmem).keep g2 (by simp; omega))
  have SZ := Lib.hid (CS1.out.sz x hmem)
  have R2 := R0.out.kept g2 (fun e => by have := Option.some.inj e; omega)
  have G2 := Lib.hid (G1.out.trans g2)
  have H2 := Lib.hid h2r
  have r0 := R2.c 0 _ rfl
  have r1 := R2.c 1 _ rfl
  have r2 := R2.c 2 _ rfl
  have s0 := R2.f 0 (by simp)
  have s1 := R2.f 1 (by simp)
  have s2 := R2.f 2 (by simp)
  clear R2 hc g2 h2r hx CS1 R0 G1 H1
  go_wp2
  refine bodyPost_ret (v := .agg (confV x.c (some ⟨x.g1, 0, none⟩) x.c1 (some ⟨x.g2, 0, none⟩) x.c2)) (by simp [results, Tryd.results96, go_sem, r0, r1, r2]) rfl ⟨x.c, x.g1, x.c1, x.g2, x.c2, rfl, ?_, SZ.out, ((H2.out.set hbw _).set hbw _).set hbw _, grow_set (grow_set (grow_set G2.out (Nat.le_refl _) _) (Nat.le_refl _) _) (Nat.le_refl _) _⟩
  have OW' := OW.out
  simp only [World.size_alloc] at OW'
  exact ⟨ownsRow_base (((OW'.own.low (by omega) _).low (by omega) _).low (by omega) _) (by omega), ownsRow_base (((OW'.ways.low (by omega) _).low (by omega) _).low (by omega) _) (by omega)⟩
end Go.Proofs.YtfffocfcnigogaaDoor
