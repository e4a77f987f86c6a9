/- Rows of a call's own: one element is taken out in place. -/
import Derived.Test.YtfffocfcnigogaaGreatDoorRowOf
import Derived.Test.YtfffocfcnigogaaGreatDoorRowMark
import Derived.Deep.RegionLaw
import Derived.Lib.SliceRun
namespace Go.Proofs.YtfffocfcnigogaaGreatDoor
open Go Go.RowKit

theorem wset_eq (b o : Nat) (vs : List Value) : ∀ (w : World) (j : Nat), w.setCells b (o + j) vs = setCells w b o j vs := by
  induction vs with
  | nil => intro w j; rfl
  | cons v vs ih =>
    intro w j
    show (w.setCell ⟨b, o + j, none⟩ v).setCells b (o + j + 1) vs = setCells (w.setCell ⟨b, o + j, none⟩ v) b o (j + 1) vs
    rw [Nat.add_assoc]
    exact ih _ _
/-- The cells behind a place are written one size ahead, and the last ones anew. -/
theorem StX.moved {X : Nat → Prop} {w0 w : World} {e : TypeId} {size g n cap : Nat} {A D B Z : List Value} {l : List Res} (h : StX X w0 w (Res.row e size (.slice (some ⟨g, 0, none⟩) n cap) n (A ++ (D ++ B)) :: l)) (hz : Z.length = D.length) :
    StX X w0 ((w.setCells g A.length B).setCells g (A.length + B.length) Z) (Res.row e size (.slice (some ⟨g, 0, none⟩) n cap) n ((A ++ B) ++ Z) :: l) := by
  have h1 := h.setAll A.length 0 B
  have e1 : setVals (A ++ (D ++ B)) A.length 0 B = (A ++ B) ++ (D ++ B).drop B.length := by
    have hs := setVals_mid A [] B ((D ++ B).take B.length) ((D ++ B).drop B.length) (by rw [List.length_take, List.length_append]; omega)
    rw [List.take_append_drop] at hs
    rw [List.append_assoc]
    exact hs
  rw [e1] at h1
  have hr : ((D ++ B).drop B.length).length = Z.length := by rw [List.length_drop, List.length_append]; omega
  have h2 := h1.setAll (A.length + B.length) 0 Z
  have e2 : setVals ((A ++ B) ++ (D ++ B).drop B.length) (A.length + B.length) 0 Z = (A ++ B) ++ Z := by
    have hs := setVals_mid (A ++ B) [] Z ((D ++ B).drop B.length) [] hr
    rw [List.append_nil, List.append_nil, List.nil_append, List.nil_append, List.length_append] at hs
    exact hs
  rw [e2] at h2
  have w1 := wset_eq g A.length B w 0
  have w2 := wset_eq g (A.length + B.length) Z (w.setCells g A.length B) 0
  rw [Nat.add_zero] at w1 w2
  rw [w2, w1]
  exact h2
theorem StX.moved1 {X : Nat → Prop} {w0 w : World} {e : TypeId} {size g n cap : Nat} {A D B : List Value} {l : List Res} (h : StX X w0 w (Res.row e size (.slice (some ⟨g, 0, none⟩) n cap) n (A ++ (D ++ B)) :: l)) :
    StX X w0 (w.setCells g A.length B) (Res.row e size (.slice (some ⟨g, 0, none⟩) n cap) n ((A ++ B) ++ (D ++ B).drop B.length) :: l) := by
  have h1 := h.setAll A.length 0 B
  have e1 : setVals (A ++ (D ++ B)) A.length 0 B = (A ++ B) ++ (D ++ B).drop B.length := by
    have hs := setVals_mid A [] B ((D ++ B).take B.length) ((D ++ B).drop B.length) (by rw [List.length_take, List.length_append]; omega)
    rw [List.take_append_drop] at hs
    rw [List.append_assoc]
    exact hs
  rw [e1] at h1
  have w1 := wset_eq g A.length B w 0
  rw [Nat.add_zero] at w1
  rw [w1]
  exact h1
/-- A row's end is left out. -/
theorem StX.shorter {X : Nat → Prop} {w0 w : World} {e : TypeId} {size g n cap : Nat} {ys Z : List Value} {l : List Res} (h : StX X w0 w (Res.row e size (.slice (some ⟨g, 0, none⟩) (n + 1) cap) (n + 1) (ys ++ Z) :: l)) (hl : ys.length = n * size) :
    StX X w0 w (Res.row e size (.slice (some ⟨g, 0, none⟩) n cap) n ys :: l) := by
  refine h.change (Only.refl _ w) (Res.row e size (.slice (some ⟨g, 0, none⟩) n cap) n ys) ?_ ?_
  · have h1 : w.ownsRow 0 e size (.slice (some ⟨g, 0, none⟩) (n + 1) cap) (n + 1) (ys ++ Z) := h.head
    refine ⟨hl, ?_⟩
    rcases h1.2 with ⟨_, hn⟩ | ⟨g', c, cur, hv, hb, hh, hc, hm, hs, ht⟩
    · simp at hn
    · refine .inr ⟨g', c, cur, ?_, hb, hh, by omega, hm, hs, ?_⟩
      · cases hv; rfl
      · have h2 := congrArg (List.take (n * size)) ht
        rw [List.take_take, List.take_left' hl, Nat.min_eq_left (Nat.mul_le_mul_right _ (by omega))] at h2
        exact h2
  · intro i hi
    have hS : (Res.row e size (.slice (some ⟨g, 0, none⟩) (n + 1) cap) (n + 1) (ys ++ Z)).S i := hi
    exact ⟨.inl hS, (h.low i hS).2⟩

/-- 'clear' of one element that has several cells. -/
theorem run_clear_one {P : Program} (w : World) (t e ty : TypeId) (z : Value) (ht : P.underlying t = some (.slice e)) (hv : ∀ w, (zeroValue e).run P w = .ok z w) (h1 : ∀ u ∈ z.cells.toList, u.oneCell' = true) (b o n c : Nat) (hn : n = 1)
    (hc : ∀ j, j < z.cells.toList.length → (w.cell? ⟨b, o + j, none⟩).isSome = true) (hf : ∀ j, j < z.cells.toList.length → w.frozen? ⟨b, o + j, none⟩ = false) :
    (Builtin.clear_ #[t] ty #[.slice (some ⟨b, o, none⟩) n c]).run P w = .ok (.tuple #[]) (w.setCells b o z.cells.toList) := by
  subst hn
  have hzc : (Builtin.zeroCells z.cells 1).toList = z.cells.toList := by
    apply List.ext_getElem
    · simp [Builtin.zeroCells]
    · intro i h1 h2
      have h3 : i < z.cells.size := by simpa using h2
      simp [Builtin.zeroCells]
      rw [Nat.mod_eq_of_lt h3, getElem!_pos z.cells i h3]
  have hst := run_storeCells_cells (P := P) b o z.cells.toList 0 w (by simpa using hc) (by simpa using hf) h1
  simp only [Nat.add_zero] at hst
  simp [Builtin.clear_, run_underlying ht, hv, hzc, hst]
end Go.Proofs.YtfffocfcnigogaaGreatDoor
