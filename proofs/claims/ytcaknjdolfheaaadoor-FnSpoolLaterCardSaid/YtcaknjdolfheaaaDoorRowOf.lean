/- Rows of structs of any depth: what they read, from world to world; such rows of a call's own. -/
import Derived.Test.YtcaknjdolfheaaaDoorBasis
import Derived.Laws.OwnMore
import Derived.OwnWalk
namespace Go.Proofs.YtcaknjdolfheaaaDoor
open Go Go.RowKit

/-- What P says of an element's cells stays where nothing that was there is written. -/
def Stays {α : Type} (P : World → List Value → α → Prop) : Prop :=
  ∀ (B : Nat) (w w' : World) (vs : List Value) (x : α), P w vs x → Below B w w' → w.heap.size ≤ B → P w' vs x
/-- THE SLICE '.slice ao xs.length cap' READS AS xs: of each element size cells, as P tells. -/
def RowOf {α : Type} (size : Nat) (P : World → List Value → α → Prop) (w : World) (ao : Option Addr) (xs : List α) : Prop :=
  ∀ (k : Nat) (x : α), xs[k]? = some x → ∃ (b off : Nat) (vs : List Value), ao = some ⟨b, off, none⟩ ∧ vs.length = size ∧ (∀ (j : Nat) (v : Value), vs[j]? = some v → w.cell? ⟨b, off + k * size + j, none⟩ = some v) ∧ P w vs x
theorem RowOf.below {α : Type} {size : Nat} {P : World → List Value → α → Prop} (hP : Stays P) {B : Nat} {w w' : World} {ao : Option Addr} {xs : List α} (h : RowOf size P w ao xs) (hb : Below B w w') (hB : w.heap.size ≤ B) : RowOf size P w' ao xs := by
  intro k x hx
  obtain ⟨b, off, vs, e, hl, hc, hp⟩ := h k x hx
  exact ⟨b, off, vs, e, hl, fun j v hv => (hb.cell (p := ⟨b, off + k * size + j, none⟩) (Nat.lt_of_lt_of_le (World.block_lt_of_cell? w _ (hc j v hv)) hB)).trans (hc j v hv), hP B w w' vs x hp hb hB⟩
theorem RowOf.later {α : Type} {size : Nat} {P : World → List Value → α → Prop} (hP : Stays P) {w w' : World} {ao : Option Addr} {xs : List α} (h : RowOf size P w ao xs) (hb : Below w.heap.size w w') : RowOf size P w' ao xs := h.below hP hb (Nat.le_refl _)

theorem rows_get {l : List (List Value)} {s : Nat} (h : ∀ x ∈ l, x.length = s) {k j : Nat} {vs : List Value} (hk : l[k]? = some vs) (hj : j < s) : l.flatten[k * s + j]? = vs[j]? := by
  induction l generalizing k with
  | nil => cases hk
  | cons y l ih =>
    have hy := h y List.mem_cons_self
    rw [List.flatten_cons]
    cases k with
    | zero =>
      cases hk
      rw [List.getElem?_append_left (by omega), Nat.zero_mul, Nat.zero_add]
    | succ k =>
      have e : (k + 1) * s + j = y.length + (k * s + j) := by rw [Nat.succ_mul]; omega
      rw [e, List.getElem?_append_right (by omega), Nat.add_sub_cancel_left]
      exact ih (fun x hx => h x (List.mem_cons_of_mem _ hx)) hk
theorem rows_length {l : List (List Value)} {s : Nat} (h : ∀ x ∈ l, x.length = s) : l.flatten.length = l.length * s := by
  induction l with
  | nil => simp
  | cons y l ih =>
    rw [List.flatten_cons, List.length_append, ih (fun x hx => h x (List.mem_cons_of_mem _ hx)), h y List.mem_cons_self, List.length_cons, Nat.succ_mul]
    omega

/-- A kind of element: how many cells, which ones, and which parts of memory they lead to. -/
structure Elem (α V : Type) where
  size : Nat
  cells : α → V → List Value
  res : α → V → List Res
  len : ∀ x v, (cells x v).length = size
def Elem.all {α V : Type} (E : Elem α V) (xs : List α) (ps : List V) : List Value := (List.zipWith E.cells xs ps).flatten
def Elem.ress {α V : Type} (E : Elem α V) (xs : List α) (ps : List V) : List Res := (List.zipWith E.res xs ps).flatten
/-- A row of elements of a call's own, with all that they lead to. -/
def Elem.row {α V : Type} (E : Elem α V) (e : TypeId) (ao : Option Addr) (cap : Nat) (xs : List α) (ps : List V) : List Res := Res.row e E.size (.slice ao xs.length cap) xs.length (E.all xs ps) :: E.ress xs ps
theorem Elem.lens {α V : Type} (E : Elem α V) (xs : List α) (ps : List V) : ∀ l ∈ List.zipWith E.cells xs ps, l.length = E.size := by
  intro l hl
  obtain ⟨k, hk⟩ := List.getElem?_of_mem hl
  rw [List.getElem?_zipWith] at hk
  cases hx : xs[k]? with
  | none => rw [hx] at hk; cases hk
  | some x =>
    cases hp : ps[k]? with
    | none => rw [hx, hp] at hk; cases hk
    | some p => rw [hx, hp] at hk; rw [← Option.some.inj hk]; exact E.len x p
theorem Elem.all_length {α V : Type} (E : Elem α V) {xs : List α} {ps : List V} (h : ps.length = xs.length) : (E.all xs ps).length = xs.length * E.size := by
  unfold Elem.all
  rw [rows_length (E.lens xs ps), List.length_zipWith, h, Nat.min_self]
theorem Elem.all_get {α V : Type} (E : Elem α V) {xs : List α} {ps : List V} {k j : Nat} {x : α} {p : V} (hx : xs[k]? = some x) (hp : ps[k]? = some p) (hj : j < E.size) : (E.all xs ps)[k * E.size + j]? = (E.cells x p)[j]? := by
  refine rows_get (E.lens xs ps) ?_ hj
  rw [List.getElem?_zipWith, hx, hp]
theorem Elem.mem_ress {α V : Type} (E : Elem α V) {xs : List α} {ps : List V} {k : Nat} {x : α} {p : V} (hx : xs[k]? = some x) (hp : ps[k]? = some p) {r : Res} (hr : r ∈ E.res x p) : r ∈ E.ress xs ps := by
  unfold Elem.ress
  rw [List.mem_flatten]
  refine ⟨E.res x p, List.mem_of_getElem? (i := k) ?_, hr⟩
  rw [List.getElem?_zipWith, hx, hp]
/-- A row of a call's own reads. -/
theorem Elem.reads {α V : Type} (E : Elem α V) {P : World → List Value → α → Prop} (hP : ∀ w x p, (∀ r ∈ E.res x p, r.P w) → P w (E.cells x p) x) {w : World} {e : TypeId} {ao : Option Addr} {cap : Nat} {xs : List α} {ps : List V} (hl : ps.length = xs.length) (h : ∀ r ∈ E.row e ao cap xs ps, r.P w) : RowOf E.size P w ao xs := by
  intro k x hx
  have hk : k < xs.length := (List.getElem?_eq_some_iff.1 hx).1
  obtain ⟨p, hp⟩ : ∃ p, ps[k]? = some p := ⟨_, List.getElem?_eq_getElem (by omega)⟩
  have h0 : w.ownsRow 0 e E.size (.slice ao xs.length cap) xs.length (E.all xs ps) := h _ List.mem_cons_self
  have hq := hP w x p fun r hr => h r (List.mem_cons_of_mem _ (E.mem_ress hx hp hr))
  rcases h0.2 with ⟨_, hn⟩ | ⟨g, c, cur, h', _⟩
  · omega
  · simp only [Value.slice.injEq, true_and] at h'
    obtain ⟨rfl, rfl⟩ := h'
    refine ⟨g, 0, E.cells x p, rfl, E.len x p, fun j v hv => ?_, hq⟩
    have hj : j < E.size := by rw [← E.len x p]; exact (List.getElem?_eq_some_iff.1 hv).1
    have hlt : k * E.size + j < xs.length * E.size := by
      have : (k + 1) * E.size ≤ xs.length * E.size := Nat.mul_le_mul_right _ hk
      rw [Nat.succ_mul] at this
      omega
    rw [Nat.zero_add, h0.cellAt _ hlt, E.all_get hx hp hj]
    exact hv

/-- Cells from o + j on, one behind the other. -/
def setCells (w : World) (g o : Nat) : Nat → List Value → World
  | _, [] => w
  | j, v :: vs => setCells (w.setCell ⟨g, o + j, none⟩ v) g o (j + 1) vs
def setVals (l : List Value) (o : Nat) : Nat → List Value → List Value
  | _, [] => l
  | j, v :: vs => setVals (l.set (o + j) v) o (j + 1) vs
theorem setVals_mid (A D vs Z R : List Value) (hz : Z.length = vs.length) : setVals (A ++ (D ++ (Z ++ R))) A.length D.length vs = A ++ (D ++ (vs ++ R)) := by
  induction vs generalizing D Z with
  | nil =>
    cases Z with
    | nil => rfl
    | cons _ _ => cases hz
  | cons v vs ih =>
    cases Z with
    | nil => cases hz
    | cons z Z =>
      have hz' : Z.length = vs.length := by simpa using hz
      have := ih (D ++ [v]) Z hz'
      simp only [List.length_append, List.length_cons, List.length_nil, Nat.zero_add, List.append_assoc, List.cons_append, List.nil_append] at this
      show setVals ((A ++ (D ++ (z :: Z ++ R))).set (A.length + D.length) v) A.length (D.length + 1) vs = _
      rw [List.set_append_right _ _ (by omega), Nat.add_sub_cancel_left, List.set_append_right _ _ (by omega), Nat.sub_self]
      exact this
theorem StX.setAll {X : Nat → Prop} {w0 w : World} {e : TypeId} {size g n cap : Nat} {xs : List Value} {l : List Res} (h : StX X w0 w (Res.row e size (.slice (some ⟨g, 0, none⟩) n cap) n xs :: l)) (o j : Nat) (vs : List Value) :
    StX X w0 (setCells w g o j vs) (Res.row e size (.slice (some ⟨g, 0, none⟩) n cap) n (setVals xs o j vs) :: l) := by
  induction vs generalizing w j xs with
  | nil => exact h
  | cons v vs ih =>
    have hs := World.ownsRow.stored h.head (o + j) v
    exact ih (h.write hs.1 hs.2) (j + 1)

/-- What a call has made of its own goes to its caller. -/
theorem StX.join {X : Nat → Prop} {w0 W W' : World} {l l' : List Res} (h : StX X w0 W l) (k : St W W' l') : StX X w0 W' (l' ++ l) := by
  have hb := k.below
  have hl := h.later hb
  refine ⟨hl.grown, fun r hr => ?_, List.pairwise_append.2 ⟨k.apart, h.apart, fun a ha b hb' i hi hj => ?_⟩⟩
  · rcases List.mem_append.1 hr with hr | hr
    · exact ⟨(k.fits r hr).1, fun i hi => ⟨Nat.le_trans h.size ((k.fits r hr).2 i hi).1, ((k.fits r hr).2 i hi).2⟩⟩
    · exact hl.fits r hr
  · have h1 := ((k.fits a ha).2 i hi).1
    have h2 := ((h.fits b hb').2 i hj).2
    omega
/-- Some of the parts are let go. -/
theorem StX.drop {X : Nat → Prop} {w0 w : World} {l l' : List Res} (h : StX X w0 w (l ++ l')) : StX X w0 w l' :=
  ⟨h.grown, fun r hr => h.fits r (List.mem_append_right _ hr), (List.pairwise_append.1 h.apart).2.1⟩
theorem StX.first {X : Nat → Prop} {w0 w : World} {l l' : List Res} (h : StX X w0 w (l ++ l')) : StX X w0 w l :=
  ⟨h.grown, fun r hr => h.fits r (List.mem_append_left _ hr), (List.pairwise_append.1 h.apart).1⟩
theorem StX.swap {X : Nat → Prop} {w0 w : World} {l l' : List Res} (h : StX X w0 w (l ++ l')) : StX X w0 w (l' ++ l) := h.perm List.perm_append_comm
/-- The parts l of the call's own lie in memory that is new since w1. -/
theorem StX.since {X : Nat → Prop} {w0 w1 w : World} {l : List Res} (h : StX X w0 w l) (h1 : Only (fun _ => False) w1 w) (hl : ∀ r ∈ l, ∀ i, r.S i → w1.heap.size ≤ i) : St w1 w l :=
  ⟨h1, fun r hr => ⟨(h.fits r hr).1, fun i hi => ⟨hl r hr i hi, ((h.fits r hr).2 i hi).2⟩⟩, h.apart⟩

/-- The first elements are written, n more are as they were made. -/
def Elem.part {α V : Type} (E : Elem α V) (Z : List Value) (xs : List α) (ps : List V) (n : Nat) : List Value := E.all xs ps ++ (List.replicate n Z).flatten
theorem Elem.part_zero {α V : Type} (E : Elem α V) (Z : List Value) (ps : List V) (n : Nat) : E.part Z [] ps n = (List.replicate n Z).flatten := by
  unfold Elem.part Elem.all
  simp
theorem Elem.part_end {α V : Type} (E : Elem α V) (Z : List Value) (xs : List α) (ps : List V) : E.part Z xs ps 0 = E.all xs ps := by simp [Elem.part]
theorem Elem.all_snoc {α V : Type} (E : Elem α V) {xs : List α} {ps : List V} (h : ps.length = xs.length) (x : α) (p : V) : E.all (xs ++ [x]) (ps ++ [p]) = E.all xs ps ++ E.cells x p := by
  unfold Elem.all
  rw [List.zipWith_append h.symm]
  simp
theorem Elem.ress_snoc {α V : Type} (E : Elem α V) {xs : List α} {ps : List V} (h : ps.length = xs.length) (x : α) (p : V) : E.ress (xs ++ [x]) (ps ++ [p]) = E.ress xs ps ++ E.res x p := by
  unfold Elem.ress
  rw [List.zipWith_append h.symm]
  simp
/-- The next element is written: its cells, one behind the other; what it leads to was made meanwhile. -/
theorem Elem.step {α V : Type} (E : Elem α V) {w0 w1 w2 : World} {e : TypeId} {g n cap k : Nat} {Z : List Value} (hZ : Z.length = E.size) {xs : List α} {ps : List V} {x : α} {p : V} (hl : ps.length = xs.length) (hk : xs.length = k) {l : List Res}
    (h : St w0 w1 (Res.row e E.size (.slice (some ⟨g, 0, none⟩) n cap) n (E.part Z xs ps (n - k)) :: (E.ress xs ps ++ l))) (hn : k < n) (hc : St w1 w2 (E.res x p)) :
    St w0 (setCells w2 g (k * E.size) 0 (E.cells x p)) (Res.row e E.size (.slice (some ⟨g, 0, none⟩) n cap) n (E.part Z (xs ++ [x]) (ps ++ [p]) (n - (k + 1))) :: (E.ress (xs ++ [x]) (ps ++ [p]) ++ l)) := by
  have h1 := h.join hc
  have h2 := (h1.perm List.perm_middle).setAll (k * E.size) 0 (E.cells x p)
  have ev : setVals (E.part Z xs ps (n - k)) (k * E.size) 0 (E.cells x p) = E.part Z (xs ++ [x]) (ps ++ [p]) (n - (k + 1)) := by
    have hr : n - k = (n - (k + 1)) + 1 := by omega
    have ha : (E.all xs ps).length = k * E.size := by rw [E.all_length hl, hk]
    unfold Elem.part
    rw [hr, List.replicate_succ, List.flatten_cons, E.all_snoc hl, ← ha]
    have := setVals_mid (E.all xs ps) [] (E.cells x p) Z (List.replicate (n - (k + 1)) Z).flatten (by rw [hZ, E.len])
    simpa using this
  rw [ev] at h2
  refine h2.perm (List.Perm.cons _ ?_)
  rw [E.ress_snoc hl]
  rw [← List.append_assoc]
  exact List.Perm.append_right l List.perm_append_comm

/-- What is left of a size behind n. -/
def leftN (n : Nat) (left : Int) : Int := if (n : Int) ≤ left then left - n else -1
theorem leftN_le (n : Nat) {left : Int} (h : 0 ≤ left) : leftN n left ≤ left := by unfold leftN; split <;> omega
theorem leftN_small {n : Nat} {left : Int} (h : ¬ leftN n left < 0) : (n : Int) ≤ left := by
  unfold leftN at h
  split at h
  · assumption
  · omega
theorem leftN_neg {n : Nat} {left : Int} (h : leftN n left < 0) : leftN n left = -1 := by
  unfold leftN at h ⊢
  split
  · rename_i g; rw [if_pos g] at h; omega
  · rfl
theorem leftN_more {a : Nat} (b : Nat) {left : Int} (h : leftN a left < 0) : leftN (a + b) left = -1 := by
  unfold leftN at h ⊢
  split at h
  · omega
  · rw [if_neg (by omega)]
theorem leftN_step {a l : Int} {n b : Nat} (hn : ¬ l < 0) (h : leftN n a = l) : leftN (n + b) a = leftN b l := by
  unfold leftN at h ⊢
  split at h
  · subst h
    by_cases h2 : (b : Int) ≤ a - n
    · rw [if_pos h2, if_pos (by omega)]; omega
    · rw [if_neg h2, if_neg (by omega)]
  · omega
/-- The size of a row. -/
def rowN {α : Type} (f : α → Nat) (xs : List α) : Nat := xs.length + (xs.map f).sum
def sumN {α : Type} (f : α → Nat) (xs : List α) : Nat := (xs.map f).sum
theorem sumN_snoc {α : Type} (f : α → Nat) {xs : List α} {k : Nat} {x : α} (hx : xs[k]? = some x) : sumN f (xs.take (k + 1)) = sumN f (xs.take k) + f x := by
  obtain ⟨hk, e⟩ := List.getElem?_eq_some_iff.1 hx
  unfold sumN
  rw [List.take_succ_eq_append_getElem hk, List.map_append, List.sum_append, e]
  simp
theorem sumN_split {α : Type} (f : α → Nat) (xs : List α) (k : Nat) : sumN f xs = sumN f (xs.take k) + sumN f (xs.drop k) := by
  unfold sumN; rw [← List.sum_append, ← List.map_append, List.take_append_drop]
theorem rowN_eq {α : Type} (f : α → Nat) (xs : List α) : rowN f xs = xs.length + sumN f xs := rfl
theorem sumN_mem {α : Type} (f : α → Nat) {xs : List α} {x : α} (h : x ∈ xs) : f x ≤ sumN f xs := by
  induction xs with
  | nil => cases h
  | cons y ys ih =>
    unfold sumN at ih ⊢
    rw [List.map_cons, List.sum_cons]
    rcases List.mem_cons.1 h with rfl | h
    · omega
    · have := ih h; omega
theorem rowN_length {α : Type} (f : α → Nat) (xs : List α) : xs.length ≤ rowN f xs := by unfold rowN; omega
theorem rowN_mem {α : Type} (f : α → Nat) {xs : List α} {x : α} (h : x ∈ xs) : f x ≤ rowN f xs := by
  have := sumN_mem f h
  rw [rowN_eq]; omega
/-- Within a row: the number of elements is paid, and the first k of them. -/
theorem leftN_row_next {α : Type} (f : α → Nat) {xs : List α} {k : Nat} {x : α} {left r : Int} (hx : xs[k]? = some x) (hr : leftN (xs.length + sumN f (xs.take k)) left = r) (h0 : ¬ r < 0) : leftN (xs.length + sumN f (xs.take (k + 1))) left = leftN (f x) r := by
  rw [sumN_snoc f hx, ← Nat.add_assoc]
  exact leftN_step h0 hr
theorem leftN_row_bad {α : Type} (f : α → Nat) (xs : List α) (k : Nat) {left r : Int} (hr : leftN (xs.length + sumN f (xs.take k)) left = r) (h0 : r < 0) : leftN (rowN f xs) left = -1 := by
  rw [rowN_eq, sumN_split f xs k, ← Nat.add_assoc]
  exact leftN_more _ (by rw [hr]; exact h0)
theorem made_rows (cs : Array Value) (n s : Nat) (hs : cs.size = s) (h0 : 0 < s) : (madeCells cs (n * s)).toList = (List.replicate n cs.toList).flatten := by
  have hall : ∀ x ∈ List.replicate n cs.toList, x.length = s := fun x hx => by rw [(List.mem_replicate.1 hx).2, Array.length_toList, hs]
  have hlen : (List.replicate n cs.toList).flatten.length = n * s := by rw [rows_length hall, List.length_replicate]
  apply List.ext_getElem?
  intro j
  by_cases hj : j < n * s
  · have hq : j / s < n := (Nat.div_lt_iff_lt_mul h0).2 hj
    have hm : j % s < s := Nat.mod_lt _ h0
    have hk : (List.replicate n cs.toList)[j / s]? = some cs.toList := by rw [List.getElem?_replicate, if_pos hq]
    have e := rows_get hall hk hm
    rw [Nat.div_add_mod'] at e
    rw [e]
    simp [madeCells, hj, hs, hm]
  · rw [List.getElem?_eq_none (by simp [madeCells]; omega), List.getElem?_eq_none (by omega)]
/-- A row just made. -/
theorem Elem.make {α V : Type} (E : Elem α V) {w w1 : World} {e : TypeId} {n : Nat} (Z : Array Value) (hZ : Z.size = E.size) (h0 : 0 < E.size) (h : w1.ownsRow w.heap.size e E.size (.slice (some ⟨w.heap.size, 0, none⟩) n n) n (madeCells Z (n * E.size)).toList) (hg : w.grownBy w1 none) (xs : List α) :
    St w w1 (Res.row e E.size (.slice (some ⟨w.heap.size, 0, none⟩) n n) n (E.part Z.toList (xs.take 0) [] (n - 0)) :: (E.ress (xs.take 0) [] ++ [])) := by
  have hb : Below w.heap.size w w1 := (Below.refl _ _).grown hg (Nat.le_refl _) (fun k e => by cases e)
  rw [made_rows Z n E.size hZ h0] at h
  rw [List.take_zero, E.part_zero]
  exact (St.start w).row hb h
/-- All elements are written. -/
theorem Elem.done {α V : Type} (E : Elem α V) {w w1 : World} {e : TypeId} {ao : Option Addr} {cap : Nat} {Z : List Value} {xs : List α} {ps : List V} (h : St w w1 (Res.row e E.size (.slice ao xs.length cap) xs.length (E.part Z (xs.take xs.length) ps (xs.length - xs.length)) :: (E.ress (xs.take xs.length) ps ++ []))) : St w w1 (E.row e ao cap xs ps) := by
  rw [List.take_length, Nat.sub_self, E.part_end, List.append_nil] at h
  exact h
/-- The next element is written, in a row xs. -/
theorem Elem.next {α V : Type} (E : Elem α V) {w0 w1 w2 : World} {e : TypeId} {g cap k : Nat} {Z : List Value} (hZ : Z.length = E.size) {xs : List α} {ps : List V} {x : α} {p : V} (hl : ps.length = k) (hx : xs[k]? = some x)
    (h : St w0 w1 (Res.row e E.size (.slice (some ⟨g, 0, none⟩) xs.length cap) xs.length (E.part Z (xs.take k) ps (xs.length - k)) :: (E.ress (xs.take k) ps ++ []))) (hc : St w1 w2 (E.res x p)) :
    St w0 (setCells w2 g (k * E.size) 0 (E.cells x p)) (Res.row e E.size (.slice (some ⟨g, 0, none⟩) xs.length cap) xs.length (E.part Z (xs.take (k + 1)) (ps ++ [p]) (xs.length - (k + 1))) :: (E.ress (xs.take (k + 1)) (ps ++ [p]) ++ [])) := by
  obtain ⟨hk, e1⟩ := List.getElem?_eq_some_iff.1 hx
  have ht : (xs.take k).length = k := by rw [List.length_take]; omega
  have e2 : xs.take (k + 1) = xs.take k ++ [x] := by rw [List.take_succ_eq_append_getElem hk, e1]
  rw [e2]
  exact E.step hZ (by omega) ht h hk hc
theorem units (us : List Unit) : us = List.replicate us.length () := List.eq_replicate_of_mem fun _ _ => rfl
/-- Behind a write in new memory a cell is as it was. -/
theorem heldc {w1 w2 : World} {a : Addr} {v : Value} (h : w1.cell? a = some v) (hb : Below w1.heap.size w1 w2) : w2.cell? a = some v := (hb.cell (World.block_lt_of_cell? w1 _ h)).trans h
theorem row_cell {w : World} {base : Nat} {e : TypeId} {size g n cap : Nat} {xs : List Value} (h : w.ownsRow base e size (.slice (some ⟨g, 0, none⟩) n cap) n xs) (j : Nat) (hj : j < n * size) : ∃ v, w.cell? ⟨g, j, none⟩ = some v := by
  rw [h.cellAt j hj]
  have hl : xs.length = n * size := h.1
  exact ⟨_, List.getElem?_eq_getElem (by omega)⟩
end Go.Proofs.YtcaknjdolfheaaaDoor
