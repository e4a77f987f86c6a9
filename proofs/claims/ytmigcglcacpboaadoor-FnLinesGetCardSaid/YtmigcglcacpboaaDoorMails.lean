/- Pairs, PairFnsAddr, MailOk, MailOkI, MailFns, SessLow. -/
import Derived.Test.YtmigcglcacpboaaDoorBasis
import Derived.Test.YtmigcglcacpboaaDoorAddrs
import Derived.Deep.RegionHeld3
import Derived.Test.YtmigcglcacpboaaDoorPlains
import Derived.Outline
import Derived.Deep.RegionWith
namespace Go.Proofs.YtmigcglcacpboaaDoor
open Go Go.RowKit

abbrev Pair := ByteArray × ByteArray
/-- THE SLICE VALUE '.slice ao ps.length cap' READS AS THE PAIRS ps. -/
def PairRow (w : World) (ao : Option Addr) (ps : List Pair) : Prop :=
  ∀ k p, ps[k]? = some p → ∃ b off, ao = some ⟨b, off, none⟩ ∧ w.cell? ⟨b, off + k * 2, none⟩ = some (.string p.1) ∧ w.cell? ⟨b, off + k * 2 + 1, none⟩ = some (.string p.2)
theorem PairRow.below {B : Nat} {w w' : World} {ao : Option Addr} {ps : List Pair} (h : PairRow w ao ps) (hb : Below B w w') (hB : w.heap.size ≤ B) : PairRow w' ao ps := by
  intro k p hp
  obtain ⟨b, off, e, h1, h2⟩ := h k p hp
  have hlt := World.block_lt_of_cell? w _ h1
  exact ⟨b, off, e, (hb.cell (p := ⟨b, off + k * 2, none⟩) (Nat.lt_of_lt_of_le hlt hB)).trans h1, (hb.cell (p := ⟨b, off + k * 2 + 1, none⟩) (Nat.lt_of_lt_of_le hlt hB)).trans h2⟩
theorem PairRow.later {w w' : World} {ao : Option Addr} {ps : List Pair} (h : PairRow w ao ps) (hb : Below w.heap.size w w') : PairRow w' ao ps := h.below hb (Nat.le_refl _)

def pairCells (ps : List Pair) : List Value := ps.flatMap fun p => [.string p.1, .string p.2]
theorem pairCells_length (ps : List Pair) : (pairCells ps).length = ps.length * 2 := by
  induction ps with
  | nil => rfl
  | cons p ps ih => simp only [pairCells, List.flatMap_cons, List.length_append, List.length_cons, List.length_nil] at ih ⊢; omega
theorem pairCells_get {ps : List Pair} {k : Nat} {p : Pair} (h : ps[k]? = some p) : (pairCells ps)[k * 2]? = some (.string p.1) ∧ (pairCells ps)[k * 2 + 1]? = some (.string p.2) := by
  induction ps generalizing k with
  | nil => cases h
  | cons q ps ih =>
    cases k with
    | zero => cases h; exact ⟨rfl, rfl⟩
    | succ k =>
      have := ih h
      rw [show (k + 1) * 2 = k * 2 + 1 + 1 by omega]
      exact this
/-- A row of pairs of the call's own. -/
def PRow (w : World) (B : Nat) (t : TypeId) (ao : Option Addr) (cap : Nat) (ps : List Pair) : Prop := w.ownsRow B t 2 (.slice ao ps.length cap) ps.length (pairCells ps)
theorem PRow.pairs {w : World} {B : Nat} {t : TypeId} {ao : Option Addr} {cap : Nat} {ps : List Pair} (h : PRow w B t ao cap ps) : PairRow w ao ps := by
  intro k p hp
  obtain ⟨hk, _⟩ := List.getElem?_eq_some_iff.1 hp
  obtain ⟨g1, g2⟩ := pairCells_get hp
  unfold PRow at h
  rcases h.2 with ⟨_, h0⟩ | ⟨g, c, cur, h', _⟩
  · omega
  · simp only [Value.slice.injEq, true_and] at h'
    obtain ⟨rfl, rfl⟩ := h'
    refine ⟨g, 0, rfl, ?_, ?_⟩
    · rw [Nat.zero_add, h.cellAt _ (by omega)]; exact g1
    · rw [Nat.zero_add, h.cellAt _ (by omega)]; exact g2
theorem PRow.later {w w' : World} {B : Nat} {t : TypeId} {ao : Option Addr} {cap : Nat} {ps : List Pair} (h : PRow w B t ao cap ps) (hb : Below w.heap.size w w') : PRow w' B t ao cap ps := own_later h hb
theorem PRow.lt {w : World} {B : Nat} {t : TypeId} {ao : Option Addr} {cap : Nat} {ps : List Pair} (h : PRow w B t ao cap ps) {k : Nat} (hk : blockOf ao = some k) : B ≤ k ∧ k < w.heap.size :=
  World.ownsRow.lt h k (by rw [own_block]; exact hk)
theorem PRow.other {w w' : World} {B : Nat} {t : TypeId} {ao bo : Option Addr} {cap : Nat} {ps : List Pair} (h : PRow w B t ao cap ps) (hg : w.grownBy w' (blockOf bo)) (hne : blockOf ao = none ∨ blockOf ao ≠ blockOf bo) : PRow w' B t ao cap ps :=
  World.ownsRow.kept h hg (by rw [own_block]; exact hne)

def sumP (ps : List Pair) : Nat := (ps.map fun p => p.1.size + p.2.size).sum
theorem sumP_snoc {ps : List Pair} {k : Nat} {p : Pair} (hp : ps[k]? = some p) : sumP (ps.take (k + 1)) = sumP (ps.take k) + (p.1.size + p.2.size) := by
  obtain ⟨hk, e⟩ := List.getElem?_eq_some_iff.1 hp
  unfold sumP
  rw [List.take_succ_eq_append_getElem hk, List.map_append, List.sum_append, e]
  simp
theorem sumP_take_le (ps : List Pair) (k : Nat) : sumP (ps.take k) ≤ sumP ps := by
  have : sumP ps = sumP (ps.take k) + sumP (ps.drop k) := by
    unfold sumP; rw [← List.sum_append, ← List.map_append, List.take_append_drop]
  omega
theorem sumP_mem {ps : List Pair} {p : Pair} (h : p ∈ ps) : p.1.size + p.2.size ≤ sumP ps := by
  induction ps with
  | nil => cases h
  | cons y ys ih =>
    unfold sumP at ih ⊢
    rw [List.map_cons, List.sum_cons]
    rcases List.mem_cons.1 h with rfl | h
    · omega
    · have := ih h; omega
/-- sz..S: what is left. -/
def leftP (ps : List Pair) (left : Int) : Int := if (ps.length : Int) + sumP ps ≤ left then left - ps.length - sumP ps else -1
theorem leftP_le {ps : List Pair} {left : Int} (h : 0 ≤ left) : leftP ps left ≤ left := by unfold leftP; split <;> omega
theorem leftP_small {ps : List Pair} {left : Int} (h : ¬ leftP ps left < 0) (h1 : left ≤ 1048576) : ps.length ≤ 1048576 ∧ ∀ p ∈ ps, p.1.size ≤ 1048576 ∧ p.2.size ≤ 1048576 := by
  unfold leftP at h
  split at h
  · refine ⟨by omega, fun x hx => ?_⟩
    have := sumP_mem hx
    omega
  · exact absurd (show (-1 : Int) < 0 by decide) h

/-- The first k pairs are written, the others are empty. -/
def pairRowCells (ps : List Pair) (k : Nat) : List Value := pairCells (ps.take k) ++ List.replicate ((ps.length - k) * 2) (.string ByteArray.empty)
theorem pairRowCells_zero (ps : List Pair) : pairRowCells ps 0 = List.replicate (ps.length * 2) (.string ByteArray.empty) := by simp [pairRowCells, pairCells]
theorem pairRowCells_end (ps : List Pair) : pairRowCells ps ps.length = pairCells ps := by simp [pairRowCells]
theorem pairRowCells_get (ps : List Pair) (k : Nat) (hk : k < ps.length) : (pairRowCells ps k)[k * 2]? = some (.string ByteArray.empty) ∧ (pairRowCells ps k)[k * 2 + 1]? = some (.string ByteArray.empty) := by
  unfold pairRowCells
  have hl : (pairCells (ps.take k)).length = k * 2 := by rw [pairCells_length, List.length_take]; omega
  constructor
  · rw [List.getElem?_append_right (by omega), List.getElem?_replicate, if_pos (by omega)]
  · rw [List.getElem?_append_right (by omega), List.getElem?_replicate, if_pos (by omega)]
theorem pairRowCells_set (ps : List Pair) (k : Nat) (p : Pair) (hp : ps[k]? = some p) : ((pairRowCells ps k).set (k * 2) (.string p.1)).set (k * 2 + 1) (.string p.2) = pairRowCells ps (k + 1) := by
  obtain ⟨hk, e⟩ := List.getElem?_eq_some_iff.1 hp
  have hl : (pairCells (ps.take k)).length = k * 2 := by rw [pairCells_length, List.length_take]; omega
  have hr : (ps.length - k) * 2 = (ps.length - (k + 1)) * 2 + 1 + 1 := by omega
  unfold pairRowCells
  rw [hr, List.replicate_succ, List.replicate_succ, List.take_succ_eq_append_getElem hk, e]
  rw [List.set_append_right _ _ (by omega), hl, Nat.sub_self, List.set_cons_zero, List.set_append_right _ _ (by omega), hl, show k * 2 + 1 - k * 2 = 1 by omega, List.set_cons_succ, List.set_cons_zero]
  simp [pairCells]
theorem ba_ext {a b : ByteArray} (h : a.toList = b.toList) : a = b := by
  rw [Lib.toList_data, Lib.toList_data] at h
  exact ByteArray.ext (Array.ext' h)
theorem pair_ne {p q : Pair} (h : q ≠ p) : ¬ q.1.toList = p.1.toList ∨ (q.1.toList = p.1.toList ∧ ¬ q.2.toList = p.2.toList) := by
  by_cases h1 : q.1.toList = p.1.toList
  · exact .inr ⟨h1, fun h2 => h (Prod.ext (ba_ext h1) (ba_ext h2))⟩
  · exact .inl h1
theorem made_two (n : Nat) : (madeCells (Value.agg #[.string ByteArray.empty, .string ByteArray.empty]).cells (n * 2)).toList = List.replicate (n * 2) (.string ByteArray.empty) := by
  apply List.ext_getElem?
  intro j
  by_cases hj : j < n * 2
  · rcases Nat.mod_two_eq_zero_or_one j with h | h <;> simp [madeCells, hj, h, Value.cells]
  · simp [madeCells, hj]
theorem held4 {a1 a2 a3 a4 : Addr} {v1 v2 v3 v4 : Value} {B : Nat} {w0 w1 w2 : World} (h1 : w1.cell? a1 = some v1) (h2 : w1.cell? a2 = some v2) (h3 : w1.cell? a3 = some v3) (h4 : w1.cell? a4 = some v4) (hB : Below B w0 w1) (hBs : B ≤ w0.heap.size) (hb : Below w1.heap.size w1 w2) :
    w2.cell? a1 = some v1 ∧ w2.cell? a2 = some v2 ∧ w2.cell? a3 = some v3 ∧ w2.cell? a4 = some v4 ∧ Below B w0 w2 :=
  ⟨(hb.cell (World.block_lt_of_cell? w1 _ h1)).trans h1, (hb.cell (World.block_lt_of_cell? w1 _ h2)).trans h2, (hb.cell (World.block_lt_of_cell? w1 _ h3)).trans h3, (hb.cell (World.block_lt_of_cell? w1 _ h4)).trans h4, hB.trans (hb.mono (Nat.le_trans hBs hB.size))⟩
end Go.Proofs.YtmigcglcacpboaaDoor
namespace Go.Proofs.YtmigcglcacpboaaDoor
open Go Go.RowKit

theorem infoAddr : (Tryd.prog.info? 33).map (fun i => (i.zero, i.size, i.bytes)) = some (some (.agg #[.string ByteArray.empty, .string ByteArray.empty]), 2, 32) := by kernel_rfl

end Go.Proofs.YtmigcglcacpboaaDoor
namespace Go.Proofs.YtmigcglcacpboaaDoor
open Go Go.RowKit

abbrev mailV (m : MailD) (a1 : Option Addr) (c1 : Nat) (a2 : Option Addr) (c2 : Nat) : Array Value := #[.string m.fu, .string m.fd, .slice a1 m.rc.length c1, .slice a2 m.body.length c2]
structure MailAt (w : World) (m : MailD) (a1 a2 : Option Addr) : Prop where
  rc : PairRow w a1 m.rc
  body : StrRow w a2 m.body
structure MailSz (N : Nat) (m : MailD) : Prop where
  fu : m.fu.size ≤ N
  fd : m.fd.size ≤ N
  rcl : m.rc.length ≤ N
  rcs : ∀ p ∈ m.rc, p.1.size ≤ N ∧ p.2.size ≤ N
  bol : m.body.length ≤ N
  bos : ∀ x ∈ m.body, x.size ≤ N
theorem MailAt.below {B : Nat} {w w' : World} {m : MailD} {a1 a2 : Option Addr} (h : MailAt w m a1 a2) (hb : Below B w w') (hB : w.heap.size ≤ B) : MailAt w' m a1 a2 := ⟨h.rc.below hb hB, h.body.below hb hB⟩
theorem MailAt.later {w w' : World} {m : MailD} {a1 a2 : Option Addr} (h : MailAt w m a1 a2) (hb : Below w.heap.size w w') : MailAt w' m a1 a2 := h.below hb (Nat.le_refl _)
theorem MailSz.mono {N M : Nat} {m : MailD} (h : MailSz N m) (hN : N ≤ M) : MailSz M m :=
  ⟨Nat.le_trans h.fu hN, Nat.le_trans h.fd hN, Nat.le_trans h.rcl hN, fun p hp => ⟨Nat.le_trans (h.rcs p hp).1 hN, Nat.le_trans (h.rcs p hp).2 hN⟩, Nat.le_trans h.bol hN, fun x hx => Nat.le_trans (h.bos x hx) hN⟩

theorem bcell {W w1 : World} (hb : Below W.heap.size W w1) : (∀ b o, b < W.heap.size → w1.cell? ⟨b, o, none⟩ = W.cell? ⟨b, o, none⟩) ∧ (∀ b o, b < W.heap.size → w1.frozen? ⟨b, o, none⟩ = W.frozen? ⟨b, o, none⟩) :=
  ⟨fun b o h => hb.cell (p := ⟨b, o, none⟩) h, fun b o h => hb.frozen (p := ⟨b, o, none⟩) h⟩

/-- The four cells of a local mail, in block k. -/
structure FourAt (w : World) (k : Nat) (x0 x1 x2 x3 : Value) : Prop where
  c0 : w.cell? ⟨k, 0, none⟩ = some x0
  c1 : w.cell? ⟨k, 1, none⟩ = some x1
  c2 : w.cell? ⟨k, 2, none⟩ = some x2
  c3 : w.cell? ⟨k, 3, none⟩ = some x3
theorem FourAt.new (w : World) (x0 x1 x2 x3 : Value) (t : TypeId) : FourAt (w.alloc (.cells #[x0, x1, x2, x3] t)) w.heap.size x0 x1 x2 x3 :=
  ⟨by rw [World.cell?_alloc_new]; rfl, by rw [World.cell?_alloc_new]; rfl, by rw [World.cell?_alloc_new]; rfl, by rw [World.cell?_alloc_new]; rfl⟩
theorem FourAt.cells {w : World} {k : Nat} {x0 x1 x2 x3 : Value} (h : FourAt w k x0 x1 x2 x3) : w.cell? ⟨k, 0, none⟩ = some x0 ∧ w.cell? ⟨k, 1, none⟩ = some x1 ∧ w.cell? ⟨k, 2, none⟩ = some x2 ∧ w.cell? ⟨k, 3, none⟩ = some x3 := ⟨h.c0, h.c1, h.c2, h.c3⟩
theorem FourAt.later {w w' : World} {k : Nat} {x0 x1 x2 x3 : Value} (h : FourAt w k x0 x1 x2 x3) (hb : Below w.heap.size w w') : FourAt w' k x0 x1 x2 x3 :=
  have hlt := World.block_lt_of_cell? w _ h.c0
  ⟨(hb.cell (p := ⟨k, 0, none⟩) hlt).trans h.c0, (hb.cell (p := ⟨k, 1, none⟩) hlt).trans h.c1, (hb.cell (p := ⟨k, 2, none⟩) hlt).trans h.c2, (hb.cell (p := ⟨k, 3, none⟩) hlt).trans h.c3⟩

end Go.Proofs.YtmigcglcacpboaaDoor
namespace Go.Proofs.YtmigcglcacpboaaDoor
open Go Go.RowKit

theorem PairRow.take {w : World} {ao : Option Addr} {ps : List Pair} (h : PairRow w ao ps) (k : Nat) : PairRow w ao (ps.take k) := by
  intro j p hp
  rw [List.getElem?_take] at hp
  split at hp
  · exact h j p hp
  · cases hp

def IndexPost (ps : List Pair) (p : Pair) (B : Nat) (w : World) (e : Ending) (w' : World) : Prop := ∃ n : Int, e = .returned (.int .i64 n) ∧ ((0 ≤ n ∧ p ∈ ps) ∨ (n = -1 ∧ p ∉ ps)) ∧ Below B w w'
theorem not_mem_take {α : Type} {ps : List α} {k : Nat} {p q : α} (hq : ps[k]? = some q) (h : p ∉ ps.take k) (hne : q ≠ p) : p ∉ ps.take (k + 1) := by
  obtain ⟨hk, e⟩ := List.getElem?_eq_some_iff.1 hq
  rw [List.take_succ_eq_append_getElem hk, e, List.mem_append, List.mem_singleton]
  rintro (h2 | h2)
  · exact h h2
  · exact hne h2.symm

set_option maxHeartbeats 800000 in
set_option maxRecDepth 100000 in
theorem indexP_any (ao : Option Addr) (cap : Nat) (ps : List Pair) (p : Pair) (w : World) (hr : PairRow w ao ps) (hl : ps.length ≤ 9223372036854775806) :
    Calls Tryd.prog 75 #[.slice ao ps.length cap, .agg #[.string p.1, .string p.2]] w (IndexPost ps p w.heap.size w) := by
  have HR := Lib.hid hr
  clear hr
  go_enter Tryd.func75, Tryd.ntmps75
  go_wp2
  go_loopw [8] (fun i wr => ∃ k : Nat, k ≤ ps.length ∧ i = .int .i64 k ∧ Hid (p ∉ ps.take k) ∧ wr.cell? ⟨w.heap.size, 0, none⟩ = some (.string p.1) ∧ wr.cell? ⟨w.heap.size, 1, none⟩ = some (.string p.2) ∧ Below w.heap.size w wr) (fun i _ => ps.length - (intOf i).toNat)
  case atStart => exact ⟨0, Nat.zero_le _, rfl, Lib.hid (by simp), by rw [World.cell?_alloc_new]; rfl, by rw [World.cell?_alloc_new]; rfl, (Below.refl _ _).alloc (Nat.le_refl _) _⟩
  case round =>
    obtain ⟨k, hk, rfl, HN, e0, e1, hb0⟩ := hrel
    by_cases hlt : k < ps.length
    · obtain ⟨q, hq⟩ : ∃ q, ps[k]? = some q := ⟨_, List.getElem?_eq_getElem hlt⟩
      obtain ⟨b, off, rfl, hc1, hc2⟩ := HR.out.below hb0 (Nat.le_refl _) k q hq
      have HQ := Lib.hid hq
      clear hq
      by_cases hqp : p = q
      · subst hqp
        have hmem := Lib.hid (List.mem_of_getElem? HQ.out)
        clear HN
        go_wp2_with fail
        go_quiet (fail)
        go_wp2
        go_ret
        exact ⟨_, rfl, .inl ⟨by omega, hmem.out⟩, drewN_below hb0 _⟩
      · have HN2 := Lib.hid (not_mem_take HQ.out HN.out (Ne.symm hqp))
        rcases pair_ne hqp with h1 | ⟨h1, h2⟩
        all_goals
          clear HN
          go_wp2_with fail
          go_quiet (fail)
          go_wp2
          exact ⟨⟨k + 1, by omega, by go_num, HN2, by simpa using e0, by simpa using e1, drewN_below hb0 _⟩, by simp [intOf]; omega⟩
    · obtain rfl : k = ps.length := by omega
      have HM := Lib.hid (show p ∉ ps by have := HN.out; rwa [List.take_length] at this)
      clear HN
      go_wp2
      go_ret
      exact ⟨-1, rfl, .inr ⟨rfl, HM.out⟩, hb0⟩

theorem containsP_is (ao : Option Addr) (cap : Nat) (ps : List Pair) (p : Pair) (v : Bool) (w : World) (hv : v = true ↔ p ∈ ps) (hr : PairRow w ao ps) (hl : ps.length ≤ 9223372036854775806) :
    Calls Tryd.prog 63 #[.slice ao ps.length cap, .agg #[.string p.1, .string p.2]] w fun e w' => e = .returned (.bool v) ∧ Below w.heap.size w w' := by
  have HR := Lib.hid hr
  have HV := Lib.hid hv
  clear hr hv
  go_enter Tryd.func63, Tryd.ntmps63
  go_wp2_with fail
  refine (indexP_any ao cap ps p _ (HR.out.later ((Below.refl _ _).alloc (Nat.le_refl _) _)) hl).mono ?_
  rintro e w1 ⟨n, rfl, hn, hb1⟩
  have B1 := ((Below.refl w.heap.size w).alloc (Nat.le_refl _) (.cells #[.string p.1, .string p.2] 33)).trans (hb1.mono (by simp))
  rcases hn with ⟨h0, hm⟩ | ⟨rfl, hm⟩
  · have hv : Hid (v = true) := Lib.hid (HV.out.2 hm)
    clear hm
    go_wp2
    go_ret
    exact ⟨ret_b hv.out.symm, B1⟩
  · have hv : Hid (v = false) := Lib.hid (by rw [← Bool.not_eq_true]; exact fun h => hm (HV.out.1 h))
    clear hm
    go_wp2
    go_ret
    exact ⟨ret_b hv.out.symm, B1⟩

theorem isSender_any (u d : ByteArray) (w : World) (hm : HasMax w) (hu : u.size ≤ 1048576) (hd : d.size ≤ 1048576) :
    Calls Tryd.prog 46 #[.agg #[.string u, .string d]] w fun e w' => e = .returned (.bool (senderB u d)) ∧ Below w.heap.size w w' := by
  have HM := Lib.hid (hm.below ((Below.refl w.heap.size w).alloc (Nat.le_refl _) (.cells #[.string u, .string d] 33)) (Nat.le_refl _))
  clear hm
  cases hn : nullB u d
  · have hq : Hid (senderB u d = addrB u d) := Lib.hid (by unfold senderB; rw [hn]; rfl)
    have HN := Lib.hid hn
    clear hn
    go_enter Tryd.func46, Tryd.ntmps46
    go_wp2_with fail
    refine (isNull_is u d false HN.out _).mono ?_
    rintro e w1 ⟨rfl, hb1⟩
    have c0 := hb1.cell (p := ⟨w.heap.size, 0, none⟩) (by simp)
    have c1 := hb1.cell (p := ⟨w.heap.size, 1, none⟩) (by simp)
    have B1 := ((Below.refl w.heap.size w).alloc (Nat.le_refl _) (.cells #[.string u, .string d] 33)).trans (hb1.mono (by simp))
    have HM1 := Lib.hid (HM.out.below hb1 (Nat.le_refl _))
    clear hb1
    go_wp2_with fail
    refine (implAddrOk_any u d _ HM1.out (by omega) (by omega)).mono ?_
    rintro e w2 ⟨rfl, hb2⟩
    have B2 := B1.trans (hb2.mono B1.size)
    go_wp2
    go_ret
    exact ⟨ret_b hq.out.symm, B2⟩
  · have hq : Hid (senderB u d = true) := Lib.hid (by unfold senderB; rw [hn]; rfl)
    have HN := Lib.hid hn
    clear hn
    go_enter Tryd.func46, Tryd.ntmps46
    go_wp2_with fail
    refine (isNull_is u d true HN.out _).mono ?_
    rintro e w1 ⟨rfl, hb1⟩
    have B1 := ((Below.refl w.heap.size w).alloc (Nat.le_refl _) (.cells #[.string u, .string d] 33)).trans (hb1.mono (by simp))
    go_wp2
    go_ret
    exact ⟨ret_b hq.out.symm, B1⟩

theorem contains_yes {b off cap : Nat} {ps : List Pair} {p : Pair} {w : World} (k : Nat) (hv : p ∈ ps.take k) (hr : PairRow w (some ⟨b, off, none⟩) ps) (hk : k ≤ ps.length) (hl : ps.length ≤ 1048576) :
    Calls Tryd.prog 63 #[.slice (some ⟨b, off, none⟩) k cap, .agg #[.string p.1, .string p.2]] w fun e w' => e = .returned (.bool true) ∧ Below w.heap.size w w' := by
  have h := containsP_is (some ⟨b, off, none⟩) cap (ps.take k) p true w ⟨fun _ => hv, fun _ => rfl⟩ (hr.take k) (by rw [List.length_take]; omega)
  rwa [List.length_take, Nat.min_eq_left hk] at h
theorem contains_no {b off cap : Nat} {ps : List Pair} {p : Pair} {w : World} (k : Nat) (hv : p ∉ ps.take k) (hr : PairRow w (some ⟨b, off, none⟩) ps) (hk : k ≤ ps.length) (hl : ps.length ≤ 1048576) :
    Calls Tryd.prog 63 #[.slice (some ⟨b, off, none⟩) k cap, .agg #[.string p.1, .string p.2]] w fun e w' => e = .returned (.bool false) ∧ Below w.heap.size w w' := by
  have h := containsP_is (some ⟨b, off, none⟩) cap (ps.take k) p false w ⟨(fun h => by cases h), fun h => absurd h hv⟩ (hr.take k) (by rw [List.length_take]; omega)
  rwa [List.length_take, Nat.min_eq_left hk] at h
theorem toB_new {ps : List Pair} {k : Nat} {p : Pair} (hp : ps[k]? = some p) (hm : p ∈ ps.take k) : toB ps = false := by
  obtain ⟨j, hj⟩ := List.getElem?_of_mem hm
  rw [List.getElem?_take] at hj
  split at hj
  · exact toB_twice hp hj (by assumption)
  · cases hj
theorem nodup_new {ps : List Pair} {k : Nat} {p : Pair} (hp : ps[k]? = some p) (h : (ps.take k).Nodup) (hm : p ∉ ps.take k) : (ps.take (k + 1)).Nodup :=
  nodup_succ hp h fun j hj e => hm (List.mem_of_getElem? (i := j) (by rw [List.getElem?_take, if_pos hj]; exact e))

set_option maxHeartbeats 2000000 in
set_option maxRecDepth 100000 in
theorem areRecipients_any (ao : Option Addr) (cap : Nat) (ps : List Pair) (w : World) (hm : HasMax w) (hr : PairRow w ao ps) (hl : ps.length ≤ 1048576) (hcap : ps.length ≤ cap) (hs : ∀ p ∈ ps, p.1.size ≤ 1048576 ∧ p.2.size ≤ 1048576) :
    Calls Tryd.prog 47 #[.slice ao ps.length cap] w fun e w' => e = .returned (.bool (toB ps)) ∧ Below w.heap.size w w' := by
  have HR := Lib.hid hr
  have HS := Lib.hid hs
  have HM := Lib.hid hm
  clear hr hs hm
  by_cases h1 : ps.length < 1
  · have hq : Hid (toB ps = false) := Lib.hid (toB_size (by omega))
    go_enter Tryd.func47, Tryd.ntmps47
    go_wp2
    go_ret
    exact ⟨ret_b hq.out.symm, Below.refl _ _⟩
  by_cases h4 : 4 < ps.length
  · have hq : Hid (toB ps = false) := Lib.hid (toB_size (by omega))
    go_enter Tryd.func47, Tryd.ntmps47
    go_wp2
    go_ret
    exact ⟨ret_b hq.out.symm, Below.refl _ _⟩
  go_enter Tryd.func47, Tryd.ntmps47
  go_wp2
  go_loopw [15] (fun i wr => ∃ k : Nat, k ≤ ps.length ∧ i = .int .i64 k ∧ Hid ((ps.take k).all pairB = true) ∧ Hid ((ps.take k).Nodup) ∧ Below w.heap.size w wr) (fun i _ => ps.length - (intOf i).toNat)
  case atStart => exact ⟨0, Nat.zero_le _, rfl, Lib.hid (by simp), Lib.hid (by simp), Below.refl _ _⟩
  case round =>
    obtain ⟨k, hk, rfl, HA, HN, hb⟩ := hrel
    have hz := hb.size
    by_cases hlt : k < ps.length
    · obtain ⟨p, hp⟩ : ∃ p, ps[k]? = some p := ⟨_, List.getElem?_eq_getElem hlt⟩
      obtain ⟨b, off, rfl, hc1, hc2⟩ := (HR.out.below hb (Nat.le_refl _)) k p hp
      obtain ⟨s1, s2⟩ := HS.out p (List.mem_of_getElem? hp)
      have HP := Lib.hid hp
      clear hp
      have bw : Below w.heap.size w (wr.alloc (.cells #[.string p.1, .string p.2] 33)).drew := (hb.alloc hz _).drew
      have zw : w.heap.size ≤ (wr.alloc (.cells #[.string p.1, .string p.2] 33)).drew.heap.size := bw.size
      have HM2 := Lib.hid (HM.out.below bw (Nat.le_refl _))
      cases hpb : pairB p
      · have hq : Hid (toB ps = false) := Lib.hid (toB_miss HP.out hpb)
        have HPB : Hid (addrB p.1 p.2 = false) := Lib.hid hpb
        clear hpb
        go_wp2_with fail
        clear hc1 hc2
        first | (go_region_with (go_at_call 62; refine (implAddrOk_any p.1 p.2 _ HM2.out (by omega) (by omega)).mono ?_; rintro e w1 ⟨rfl, hb1⟩; rw [HPB.out])) | fail
        all_goals
          simp only [Act.put, List.getElem_toArray, List.getElem_cons_succ, List.getElem_cons_zero, List.setIfInBounds_toArray, List.set_cons_zero, List.set_cons_succ]
          have B1 := bw.trans (hb1.mono zw)
          go_wp2
          go_ret
          exact ⟨ret_b hq.out.symm, B1⟩
      · have HPB : Hid (addrB p.1 p.2 = true) := Lib.hid hpb
        have HPP := Lib.hid hpb
        have hlk : k ≤ cap := by omega
        clear hpb
        by_cases hmem : p ∈ ps.take k
        · have hq : Hid (toB ps = false) := Lib.hid (toB_new HP.out hmem)
          have HV := Lib.hid hmem
          clear hmem
          go_wp2_with fail
          clear hc1 hc2
          go_region_with (first | (go_at_call 62; refine (implAddrOk_any p.1 p.2 _ HM2.out (by omega) (by omega)).mono ?_; rintro e w1 ⟨rfl, hb1⟩; rw [HPB.out]; obtain ⟨cc, cf⟩ := bcell hb1; have B1 := bw.trans (hb1.mono zw)) | (go_at_call 63; refine (contains_yes k HV.out (HR.out.below B1 (Nat.le_refl _)) (by omega) (by omega)).mono ?_; rintro e w2 ⟨rfl, hb2⟩))
          have B2 := B1.trans (hb2.mono B1.size)
          go_wp2
          go_ret
          exact ⟨ret_b hq.out.symm, B2⟩
        · have HA2 := Lib.hid (list_all_succ HP.out HA.out HPP.out)
          have HN2 := Lib.hid (nodup_new HP.out HN.out hmem)
          have HV := Lib.hid hmem
          clear hmem
          go_wp2_with fail
          clear hc1 hc2
          go_region_with (first | (go_at_call 62; refine (implAddrOk_any p.1 p.2 _ HM2.out (by omega) (by omega)).mono ?_; rintro e w1 ⟨rfl, hb1⟩; rw [HPB.out]; obtain ⟨cc, cf⟩ := bcell hb1; have B1 := bw.trans (hb1.mono zw)) | (go_at_call 63; refine (contains_no k HV.out (HR.out.below B1 (Nat.le_refl _)) (by omega) (by omega)).mono ?_; rintro e w2 ⟨rfl, hb2⟩))
          have B2 := B1.trans (hb2.mono B1.size)
          clear cc cf
          go_wp2
          go_roundw
          case rel => exact ⟨k + 1, by omega, by go_num, HA2, HN2, B2⟩
          case measure => simp [intOf]; omega
    · obtain rfl : k = ps.length := by omega
      have hq : Hid (toB ps = true) := Lib.hid ((toB_end (Nat.le_refl _) HA.out HN.out).trans (decide_eq_true (by omega)))
      go_wp2
      go_ret
      exact ⟨ret_b hq.out.symm, hb⟩

theorem mailB_from {m : MailD} (h : senderB m.fu m.fd = false) : mailB m = false := by unfold mailB; rw [h]; rfl
theorem mailB_body {m : MailD} (h1 : senderB m.fu m.fd = true) (h2 : toB m.rc = true) : mailB m = bodyB m.body := by unfold mailB; rw [h1, h2]; rfl

set_option maxHeartbeats 800000 in
set_option maxRecDepth 100000 in
theorem implMailOk_any (m : MailD) (a1 : Option Addr) (c1 : Nat) (a2 : Option Addr) (c2 : Nat) (w : World) (hm : HasMax w) (hat : MailAt w m a1 a2) (hsz : MailSz 1048576 m) (hcap : m.rc.length ≤ c1) :
    Calls Tryd.prog 22 #[.agg (mailV m a1 c1 a2 c2)] w fun e w' => e = .returned (.bool (mailB m)) ∧ Below w.heap.size w w' := by
  have hb0 : Below w.heap.size w (w.alloc (.cells (mailV m a1 c1 a2 c2) 37)) := (Below.refl _ _).alloc (Nat.le_refl _) _
  have HM := Lib.hid (hm.below hb0 (Nat.le_refl _))
  have HAT := Lib.hid hat
  have HS := Lib.hid hsz
  have z1 := hsz.rcl
  have z2 := hsz.fu
  have z3 := hsz.fd
  have HBS : Hid (∀ x ∈ m.body, x.size ≤ maxLen) := Lib.hid fun x hx => Nat.le_trans (HS.out.bos x hx) (by unfold maxLen; omega)
  have zb : m.body.length ≤ maxLen := Nat.le_trans HS.out.bol (by unfold maxLen; omega)
  have hf := FourAt.new w (.string m.fu) (.string m.fd) (.slice a1 m.rc.length c1) (.slice a2 m.body.length c2) 37
  have HF := Lib.hid hf
  clear hm hat hsz hf
  cases hsd : senderB m.fu m.fd
  · have hq := Lib.hid (mailB_from hsd)
    have H1 := Lib.hid hsd
    clear hsd
    go_enter Tryd.func22, Tryd.ntmps22
    go_wp2_with fail
    refine (isSender_any m.fu m.fd _ HM.out z2 z3).mono ?_
    rintro e w1 ⟨rfl, hb1⟩
    rw [H1.out]
    have B1 := hb0.trans (hb1.mono (by simp))
    go_wp2
    go_ret
    exact ⟨ret_b hq.out.symm, B1⟩
  · cases hto : toB m.rc
    · have hq := Lib.hid (mailB_to hto)
      have H1 := Lib.hid hsd
      have H2 := Lib.hid hto
      clear hsd hto
      go_enter Tryd.func22, Tryd.ntmps22
      go_wp2_with fail
      refine (isSender_any m.fu m.fd _ HM.out z2 z3).mono ?_
      rintro e w1 ⟨rfl, hb1⟩
      rw [H1.out]
      have B1 := hb0.trans (hb1.mono (by simp))
      have HM1 := Lib.hid (HM.out.below hb1 (Nat.le_refl _))
      obtain ⟨g0, g1, g2, g3⟩ := (HF.out.later hb1).cells
      go_wp2_with fail
      refine (areRecipients_any a1 c1 m.rc _ HM1.out (HAT.out.rc.below B1 (Nat.le_refl _)) z1 hcap HS.out.rcs).mono ?_
      rintro e w2 ⟨rfl, hb2⟩
      rw [H2.out]
      have B2 := B1.trans (hb2.mono B1.size)
      go_wp2
      go_ret
      exact ⟨ret_b hq.out.symm, B2⟩
    · have hq := Lib.hid (mailB_body hsd hto)
      have H1 := Lib.hid hsd
      have H2 := Lib.hid hto
      clear hsd hto
      go_enter Tryd.func22, Tryd.ntmps22
      go_wp2_with fail
      refine (isSender_any m.fu m.fd _ HM.out z2 z3).mono ?_
      rintro e w1 ⟨rfl, hb1⟩
      rw [H1.out]
      have B1 := hb0.trans (hb1.mono (by simp))
      have HM1 := Lib.hid (HM.out.below hb1 (Nat.le_refl _))
      have HF1 := Lib.hid (HF.out.later hb1)
      obtain ⟨g0, g1, g2, g3⟩ := HF1.out.cells
      go_wp2_with fail
      refine (areRecipients_any a1 c1 m.rc _ HM1.out (HAT.out.rc.below B1 (Nat.le_refl _)) z1 hcap HS.out.rcs).mono ?_
      rintro e w2 ⟨rfl, hb2⟩
      rw [H2.out]
      have B2 := B1.trans (hb2.mono B1.size)
      obtain ⟨g0, g1, g2, g3⟩ := (HF1.out.later hb2).cells
      go_wp2_with fail
      refine (isBody_any a2 c2 m.body _ (HAT.out.body.below B2 (Nat.le_refl _)) zb HBS.out).mono ?_
      rintro e w3 ⟨rfl, rfl⟩
      go_wp2
      go_ret
      exact ⟨ret_b hq.out.symm, B2⟩
end Go.Proofs.YtmigcglcacpboaaDoor
namespace Go.Proofs.YtmigcglcacpboaaDoor
open Go Go.RowKit

/-- Four cells of the call's own, in block k, that may be written. -/
structure FourM (w : World) (k : Nat) (x0 x1 x2 x3 : Value) : Prop where
  at' : FourAt w k x0 x1 x2 x3
  f0 : w.frozen? ⟨k, 0, none⟩ = false
  f1 : w.frozen? ⟨k, 1, none⟩ = false
  f2 : w.frozen? ⟨k, 2, none⟩ = false
  f3 : w.frozen? ⟨k, 3, none⟩ = false
theorem FourM.cells {w : World} {k : Nat} {x0 x1 x2 x3 : Value} (h : FourM w k x0 x1 x2 x3) : (w.cell? ⟨k, 0, none⟩ = some x0 ∧ w.cell? ⟨k, 1, none⟩ = some x1 ∧ w.cell? ⟨k, 2, none⟩ = some x2 ∧ w.cell? ⟨k, 3, none⟩ = some x3) ∧ (w.frozen? ⟨k, 0, none⟩ = false ∧ w.frozen? ⟨k, 1, none⟩ = false ∧ w.frozen? ⟨k, 2, none⟩ = false ∧ w.frozen? ⟨k, 3, none⟩ = false) := ⟨h.at'.cells, h.f0, h.f1, h.f2, h.f3⟩
theorem FourM.lt {w : World} {k : Nat} {x0 x1 x2 x3 : Value} (h : FourM w k x0 x1 x2 x3) : k < w.heap.size := World.block_lt_of_cell? w _ h.at'.c0
theorem FourM.later {w w' : World} {k : Nat} {x0 x1 x2 x3 : Value} (h : FourM w k x0 x1 x2 x3) (hb : Below w.heap.size w w') : FourM w' k x0 x1 x2 x3 :=
  ⟨h.at'.later hb, (hb.frozen (p := ⟨k, 0, none⟩) h.lt).trans h.f0, (hb.frozen (p := ⟨k, 1, none⟩) h.lt).trans h.f1, (hb.frozen (p := ⟨k, 2, none⟩) h.lt).trans h.f2, (hb.frozen (p := ⟨k, 3, none⟩) h.lt).trans h.f3⟩
theorem FourM.new (w : World) (x0 x1 x2 x3 : Value) (t : TypeId) : FourM (w.alloc (.cells #[x0, x1, x2, x3] t)) w.heap.size x0 x1 x2 x3 :=
  ⟨FourAt.new w x0 x1 x2 x3 t, by simp [go_sem], by simp [go_sem], by simp [go_sem], by simp [go_sem]⟩
theorem FourM.set0 {w : World} {k : Nat} {x0 x1 x2 x3 : Value} (h : FourM w k x0 x1 x2 x3) (v : Value) : FourM (w.setCell ⟨k, 0, none⟩ v) k v x1 x2 x3 :=
  ⟨⟨World.cell?_setCell_same _ _ _ h.at'.c0, (World.cell?_setCell_other _ _ _ _ (by simp)).trans h.at'.c1, (World.cell?_setCell_other _ _ _ _ (by simp)).trans h.at'.c2, (World.cell?_setCell_other _ _ _ _ (by simp)).trans h.at'.c3⟩, by simpa using h.f0, by simpa using h.f1, by simpa using h.f2, by simpa using h.f3⟩
theorem FourM.set1 {w : World} {k : Nat} {x0 x1 x2 x3 : Value} (h : FourM w k x0 x1 x2 x3) (v : Value) : FourM (w.setCell ⟨k, 1, none⟩ v) k x0 v x2 x3 :=
  ⟨⟨(World.cell?_setCell_other _ _ _ _ (by simp)).trans h.at'.c0, World.cell?_setCell_same _ _ _ h.at'.c1, (World.cell?_setCell_other _ _ _ _ (by simp)).trans h.at'.c2, (World.cell?_setCell_other _ _ _ _ (by simp)).trans h.at'.c3⟩, by simpa using h.f0, by simpa using h.f1, by simpa using h.f2, by simpa using h.f3⟩
theorem FourM.set2 {w : World} {k : Nat} {x0 x1 x2 x3 : Value} (h : FourM w k x0 x1 x2 x3) (v : Value) : FourM (w.setCell ⟨k, 2, none⟩ v) k x0 x1 v x3 :=
  ⟨⟨(World.cell?_setCell_other _ _ _ _ (by simp)).trans h.at'.c0, (World.cell?_setCell_other _ _ _ _ (by simp)).trans h.at'.c1, World.cell?_setCell_same _ _ _ h.at'.c2, (World.cell?_setCell_other _ _ _ _ (by simp)).trans h.at'.c3⟩, by simpa using h.f0, by simpa using h.f1, by simpa using h.f2, by simpa using h.f3⟩
theorem FourM.set3 {w : World} {k : Nat} {x0 x1 x2 x3 : Value} (h : FourM w k x0 x1 x2 x3) (v : Value) : FourM (w.setCell ⟨k, 3, none⟩ v) k x0 x1 x2 v :=
  ⟨⟨(World.cell?_setCell_other _ _ _ _ (by simp)).trans h.at'.c0, (World.cell?_setCell_other _ _ _ _ (by simp)).trans h.at'.c1, (World.cell?_setCell_other _ _ _ _ (by simp)).trans h.at'.c2, World.cell?_setCell_same _ _ _ h.at'.c3⟩, by simpa using h.f0, by simpa using h.f1, by simpa using h.f2, by simpa using h.f3⟩
theorem FourM.far {w : World} {k k' j : Nat} {x0 x1 x2 x3 : Value} (h : FourM w k x0 x1 x2 x3) (v : Value) (hne : k' ≠ k) : FourM (w.setCell ⟨k', j, none⟩ v) k x0 x1 x2 x3 := by
  obtain ⟨⟨c0, c1, c2, c3⟩, f0, f1, f2, f3⟩ := h
  refine ⟨⟨?_, ?_, ?_, ?_⟩, by simpa using f0, by simpa using f1, by simpa using f2, by simpa using f3⟩
  all_goals exact (World.cell?_setCell_other _ _ _ _ (fun e => hne (congrArg Addr.block e))).trans (by assumption)

/-- What is left of a size behind a mail. -/
def leftM (m : MailD) (left : Int) : Int :=
  if leftA m.fu m.fd left < 0 then -1 else if leftP m.rc (leftA m.fu m.fd left) < 0 then -1 else leftB m.body (leftP m.rc (leftA m.fu m.fd left))
theorem leftA_le (u d : ByteArray) {left : Int} (h : 0 ≤ left) : leftA u d left ≤ left := by unfold leftA; split <;> omega
theorem leftB_le (xs : List ByteArray) {left : Int} (h : 0 ≤ left) : leftB xs left ≤ left := by unfold leftB; split <;> omega
theorem leftB_small2 {xs : List ByteArray} {left : Int} (h : ¬ leftB xs left < 0) (h1 : left ≤ 1048576) : xs.length ≤ 1048576 ∧ ∀ x ∈ xs, x.size ≤ 1048576 := by
  unfold leftB at h
  split at h
  · refine ⟨by omega, fun x hx => ?_⟩
    have := sumB_mem hx
    omega
  · exact absurd (show (-1 : Int) < 0 by decide) h
theorem leftM_small {m : MailD} {left : Int} (h : ¬ leftM m left < 0) (h0 : 0 ≤ left) (h1 : left ≤ 1048576) : MailSz 1048576 m := by
  unfold leftM at h
  split at h
  · exact absurd (show (-1 : Int) < 0 by decide) h
  · rename_i hA
    split at h
    · exact absurd (show (-1 : Int) < 0 by decide) h
    · rename_i hP
      have lA := leftA_le m.fu m.fd h0
      have lP := leftP_le (ps := m.rc) (left := leftA m.fu m.fd left) (by omega)
      obtain ⟨p1, p2⟩ := leftP_small hP (by omega)
      obtain ⟨b1, b2⟩ := leftB_small2 h (by omega)
      have hA2 : m.fu.size ≤ 1048576 ∧ m.fd.size ≤ 1048576 := by
        unfold leftA at hA
        split at hA
        · omega
        · exact absurd (show (-1 : Int) < 0 by decide) hA
      exact ⟨hA2.1, hA2.2, p1, p2, b1, b2⟩

/-- A mail of the call's own. -/
structure MailOwn (w : World) (B : Nat) (m : MailD) (a1 : Option Addr) (c1 : Nat) (a2 : Option Addr) (c2 : Nat) : Prop where
  rc : PRow w B 33 a1 c1 m.rc
  body : Row w B a2 c2 m.body
  ne : (blockOf a1 = none ∨ blockOf a1 ≠ blockOf a2) ∧ (blockOf a2 = none ∨ blockOf a2 ≠ blockOf a1)
theorem MailOwn.at {w : World} {B : Nat} {m : MailD} {a1 : Option Addr} {c1 : Nat} {a2 : Option Addr} {c2 : Nat} (h : MailOwn w B m a1 c1 a2 c2) : MailAt w m a1 a2 := ⟨h.rc.pairs, h.body.strs⟩
theorem MailOwn.later {w w' : World} {B : Nat} {m : MailD} {a1 : Option Addr} {c1 : Nat} {a2 : Option Addr} {c2 : Nat} (h : MailOwn w B m a1 c1 a2 c2) (hb : Below w.heap.size w w') : MailOwn w' B m a1 c1 a2 c2 := ⟨h.rc.later hb, h.body.later hb, h.ne⟩
theorem PRow.cap {w : World} {B : Nat} {t : TypeId} {ao : Option Addr} {cap : Nat} {ps : List Pair} (h : PRow w B t ao cap ps) : ps.length ≤ cap := by
  rcases h.2 with ⟨hv, hn⟩ | ⟨g, c, cur, hv, _, _, hc, _⟩
  · omega
  · simp only [Value.slice.injEq, true_and] at hv
    omega
theorem PRow.ne_row {wA wB : World} {B1 B2 : Nat} {t : TypeId} {ao bo : Option Addr} {c1 c2 : Nat} {ps : List Pair} {ys : List ByteArray} (h1 : PRow wA B1 t ao c1 ps) (h2 : Row wB B2 bo c2 ys) (hs : wA.heap.size ≤ B2) : (blockOf ao = none ∨ blockOf ao ≠ blockOf bo) ∧ (blockOf bo = none ∨ blockOf bo ≠ blockOf ao) := by
  have key : ∀ k, blockOf ao = some k → blockOf bo = some k → False := fun k e1 e2 => by
    have := (h1.lt e1).2
    have := (h2.lt e2).1
    omega
  constructor
  · cases e : blockOf ao with
    | none => exact .inl rfl
    | some k => exact .inr fun e2 => key k e e2.symm
  · cases e : blockOf bo with
    | none => exact .inl rfl
    | some k => exact .inr fun e2 => key k e2.symm e
theorem ownsRow_base {w : World} {B B' : Nat} {e : TypeId} {size : Nat} {v : Value} {n : Nat} {xs : List Value} (h : w.ownsRow B e size v n xs) (hB : B' ≤ B) : w.ownsRow B' e size v n xs := by
  refine ⟨h.1, ?_⟩
  rcases h.2 with hn | ⟨g, cap, cur, hv, hb, rest⟩
  · exact .inl hn
  · exact .inr ⟨g, cap, cur, hv, Nat.le_trans hB hb, rest⟩

theorem own_low {w : World} {B : Nat} {e : TypeId} {size : Nat} {ao : Option Addr} {n cap k j : Nat} {xs : List Value} (h : w.ownsRow B e size (.slice ao n cap) n xs) (hk : k < B) (v : Value) : (w.setCell ⟨k, j, none⟩ v).ownsRow B e size (.slice ao n cap) n xs := by
  refine h.kept (row := some k) ⟨rfl, rfl, rfl, by simp, fun i _ hi => heap_setCell_other w ⟨k, j, none⟩ i v (fun e => hi (by simp [e]))⟩ ?_
  cases e : (Value.slice ao n cap).ownBlock with
  | none => exact .inl rfl
  | some g =>
    refine .inr fun e2 => ?_
    have := (h.lt g e).1
    have := Option.some.inj e2
    omega
theorem PRow.low {w : World} {B : Nat} {t : TypeId} {ao : Option Addr} {cap k j : Nat} {ps : List Pair} (h : PRow w B t ao cap ps) (hk : k < B) (v : Value) : PRow (w.setCell ⟨k, j, none⟩ v) B t ao cap ps := own_low h hk v
theorem Row.low {w : World} {B : Nat} {ao : Option Addr} {cap k j : Nat} {xs : List ByteArray} (h : Row w B ao cap xs) (hk : k < B) (v : Value) : Row (w.setCell ⟨k, j, none⟩ v) B ao cap xs := own_low h hk v
theorem FourAt.far {w : World} {k k' j : Nat} {x0 x1 x2 x3 : Value} (h : FourAt w k x0 x1 x2 x3) (v : Value) (hne : k' ≠ k) : FourAt (w.setCell ⟨k', j, none⟩ v) k x0 x1 x2 x3 := by
  obtain ⟨c0, c1, c2, c3⟩ := h
  refine ⟨?_, ?_, ?_, ?_⟩
  all_goals exact (World.cell?_setCell_other _ _ _ _ (fun e => hne (congrArg Addr.block e))).trans (by assumption)

end Go.Proofs.YtmigcglcacpboaaDoor
namespace Go.Proofs.YtmigcglcacpboaaDoor
open Go Go.RowKit

theorem leftM_le {m : MailD} {left : Int} (h : 0 ≤ left) : leftM m left ≤ left := by
  unfold leftM
  split
  · omega
  · split
    · omega
    · have h1 := leftA_le m.fu m.fd h
      have h2 := leftP_le (ps := m.rc) (left := leftA m.fu m.fd left) (by omega)
      have h3 := leftB_le m.body (left := leftP m.rc (leftA m.fu m.fd left)) (by omega)
      omega
theorem MailOwn.low {w : World} {B : Nat} {m : MailD} {a1 : Option Addr} {c1 : Nat} {a2 : Option Addr} {c2 : Nat} (h : MailOwn w B m a1 c1 a2 c2) {k : Nat} (hk : k < B) (j : Nat) (v : Value) : MailOwn (w.setCell ⟨k, j, none⟩ v) B m a1 c1 a2 c2 := ⟨h.rc.low hk v, h.body.low hk v, h.ne⟩

theorem MailOwn.base {w : World} {B B' : Nat} {m : MailD} {a1 : Option Addr} {c1 : Nat} {a2 : Option Addr} {c2 : Nat} (h : MailOwn w B m a1 c1 a2 c2) (hB : B' ≤ B) : MailOwn w B' m a1 c1 a2 c2 := ⟨ownsRow_base h.rc hB, ownsRow_base h.body hB, h.ne⟩
end Go.Proofs.YtmigcglcacpboaaDoor
