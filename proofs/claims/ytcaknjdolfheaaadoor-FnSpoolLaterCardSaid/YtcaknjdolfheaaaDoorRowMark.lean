/- Rows of structs of a call's own, an element changed. -/
import Derived.Test.YtcaknjdolfheaaaDoorRowOf
namespace Go.Proofs.YtcaknjdolfheaaaDoor
open Go Go.RowKit

theorem Elem.all_split {α V : Type} (E : Elem α V) {A B : List α} {PA PB : List V} (h : PA.length = A.length) (y : α) (p : V) : E.all (A ++ y :: B) (PA ++ p :: PB) = E.all A PA ++ (E.cells y p ++ E.all B PB) := by
  unfold Elem.all
  rw [List.zipWith_append h.symm, List.flatten_append, List.zipWith_cons_cons, List.flatten_cons]
theorem Elem.ress_split {α V : Type} (E : Elem α V) {A B : List α} {PA PB : List V} (h : PA.length = A.length) (y : α) (p : V) : E.ress (A ++ y :: B) (PA ++ p :: PB) = E.ress A PA ++ (E.res y p ++ E.ress B PB) := by
  unfold Elem.ress
  rw [List.zipWith_append h.symm, List.flatten_append, List.zipWith_cons_cons, List.flatten_cons]
/-- A cell of one element is written. -/
theorem Elem.all_set {α V : Type} (E : Elem α V) {A B : List α} {PA PB : List V} (h : PA.length = A.length) {i : Nat} (hi : A.length = i) {y y' : α} {p : V} {j : Nat} (hj : j < E.size) {v : Value} (hy : E.cells y' p = (E.cells y p).set j v) :
    (E.all (A ++ y :: B) (PA ++ p :: PB)).set (i * E.size + j) v = E.all (A ++ y' :: B) (PA ++ p :: PB) := by
  have hl : (E.all A PA).length = i * E.size := by rw [E.all_length h, hi]
  rw [E.all_split h, E.all_split h, List.set_append_right _ _ (by omega), hl, Nat.add_sub_cancel_left, List.set_append_left _ _ (by rw [E.len]; exact hj), hy]
theorem Elem.all_at {α V : Type} (E : Elem α V) {A B : List α} {PA PB : List V} (h : PA.length = A.length) {i : Nat} (hi : A.length = i) (y : α) (p : V) {j : Nat} (hj : j < E.size) : (E.all (A ++ y :: B) (PA ++ p :: PB))[i * E.size + j]? = (E.cells y p)[j]? := by
  have hl : (E.all A PA).length = i * E.size := by rw [E.all_length h, hi]
  rw [E.all_split h, List.getElem?_append_right (by omega), hl, Nat.add_sub_cancel_left, List.getElem?_append_left (by rw [E.len]; exact hj)]
theorem StX.setElem {α V : Type} {X : Nat → Prop} {w0 w : World} {e : TypeId} {g n cap : Nat} {l : List Res} (E : Elem α V) {A B : List α} {PA PB : List V} (h : PA.length = A.length) {i : Nat} (hi : A.length = i) {y : α} {p : V}
    (S : StX X w0 w (Res.row e E.size (.slice (some ⟨g, 0, none⟩) n cap) n (E.all (A ++ y :: B) (PA ++ p :: PB)) :: l)) {j : Nat} (hj : j < E.size) (v : Value) (y' : α) (hy : E.cells y' p = (E.cells y p).set j v) :
    StX X w0 (w.setCell ⟨g, i * E.size + j, none⟩ v) (Res.row e E.size (.slice (some ⟨g, 0, none⟩) n cap) n (E.all (A ++ y' :: B) (PA ++ p :: PB)) :: l) := by
  have hs := World.ownsRow.stored S.head (i * E.size + j) v
  rw [E.all_set h hi hj hy] at hs
  exact S.write hs.1 hs.2
/-- A cell of one element, read. -/
theorem StX.elemCell {α V : Type} {X : Nat → Prop} {w0 w : World} {e : TypeId} {g n cap : Nat} {l : List Res} (E : Elem α V) {A B : List α} {PA PB : List V} (h : PA.length = A.length) {i : Nat} (hi : A.length = i) {y : α} {p : V}
    (S : StX X w0 w (Res.row e E.size (.slice (some ⟨g, 0, none⟩) n cap) n (E.all (A ++ y :: B) (PA ++ p :: PB)) :: l)) (hn : i < n) {j : Nat} (hj : j < E.size) {v : Value} (hv : (E.cells y p)[j]? = some v) :
    w.cell? ⟨g, i * E.size + j, none⟩ = some v ∧ w.frozen? ⟨g, i * E.size + j, none⟩ = false := by
  have hlt : i * E.size + j < n * E.size := by
    have : (i + 1) * E.size ≤ n * E.size := Nat.mul_le_mul_right _ hn
    rw [Nat.succ_mul] at this
    omega
  exact ⟨by rw [World.ownsRow.cellAt S.head _ hlt, E.all_at h hi y p hj]; exact hv, World.ownsRow.frozenAt S.head _⟩
theorem take_drop_at {α : Type} {xs : List α} {i : Nat} {x : α} (h : xs[i]? = some x) : xs = xs.take i ++ x :: xs.drop (i + 1) := by
  obtain ⟨hi, e⟩ := List.getElem?_eq_some_iff.1 h
  rw [← e, ← List.drop_eq_getElem_cons hi, List.take_append_drop]
theorem slice_or {w : World} {B : Nat} {e : TypeId} {size : Nat} {ao : Option Addr} {n cap : Nat} {xs : List Value} (h : w.ownsRow B e size (.slice ao n cap) n xs) : n = 0 ∨ ∃ g, ao = some ⟨g, 0, none⟩ := by
  rcases h.2 with ⟨_, h0⟩ | ⟨g, c, cur, h', _⟩
  · exact .inl h0
  · simp only [Value.slice.injEq] at h'
    exact .inr ⟨g, h'.1⟩
end Go.Proofs.YtcaknjdolfheaaaDoor
