/- RowDelete, SliceDelete, SpoolRemove, SpoolDoneJ. -/
import Derived.Test.YtcaknjdolfheaaaDoorRowOf
import Derived.Test.YtcaknjdolfheaaaDoorRowMark
import Derived.Deep.RegionLaw
import Derived.Lib.SliceRun
import Derived.Test.YtcaknjdolfheaaaDoorSpoolDoneK
import Derived.Deep.RegionHeld3
namespace Go.Proofs.YtcaknjdolfheaaaDoor
open Go Go.RowKit

theorem wset_eq (b o : Nat) (vs : List Value) : ∀ (w : World) (j : Nat), w.setCells b (o + j) vs = setCells w b o j vs := by
  induction vs with
  | nil => intro w j; rfl
  | cons v vs ih =>
    intro w j
    show (w.setCell ⟨b, o + j, none⟩ v).setCells b (o + j + 1) vs = setCells (w.setCell ⟨b, o + j, none⟩ v) b o (j + 1) vs
    rw [Nat.add_assoc]
    exact ih _ _
/-- The cells behind a place are written one size ahead, and the last ones anew. -/
theorem StX.moved {X : Nat → Prop} {w0 w : World} {e : TypeId} {size g n cap : Nat} {A D B Z : List Value} {l : List Res} (h : StX X w0 w (Res.row e size (.slice (some ⟨g, 0, none⟩) n cap) n (A ++ (D ++ B)) :: l)) (hz : Z.length = D.length) :
    StX X w0 ((w.setCells g A.length B).setCells g (A.length + B.length) Z) (Res.row e size (.slice (some ⟨g, 0, none⟩) n cap) n ((A ++ B) ++ Z) :: l) := by
  have h1 := h.setAll A.length 0 B
  have e1 : setVals (A ++ (D ++ B)) A.length 0 B = (A ++ B) ++ (D ++ B).drop B.length := by
    have hs := setVals_mid A [] B ((D ++ B).take B.length) ((D ++ B).drop B.length) (by rw [List.length_take, List.length_append]; omega)
    rw [List.take_append_drop] at hs
    rw [List.append_assoc]
    exact hs
  rw [e1] at h1
  have hr : ((D ++ B).drop B.length).length = Z.length := by rw [List.length_drop, List.length_append]; omega
  have h2 := h1.setAll (A.length + B.length) 0 Z
  have e2 : setVals ((A ++ B) ++ (D ++ B).drop B.length) (A.length + B.length) 0 Z = (A ++ B) ++ Z := by
    have hs := setVals_mid (A ++ B) [] Z ((D ++ B).drop B.length) [] hr
    rw [List.append_nil, List.append_nil, List.nil_append, List.nil_append, List.length_append] at hs
    exact hs
  rw [e2] at h2
  have w1 := wset_eq g A.length B w 0
  have w2 := wset_eq g (A.length + B.length) Z (w.setCells g A.length B) 0
  rw [Nat.add_zero] at w1 w2
  rw [w2, w1]
  exact h2
theorem StX.moved1 {X : Nat → Prop} {w0 w : World} {e : TypeId} {size g n cap : Nat} {A D B : List Value} {l : List Res} (h : StX X w0 w (Res.row e size (.slice (some ⟨g, 0, none⟩) n cap) n (A ++ (D ++ B)) :: l)) :
    StX X w0 (w.setCells g A.length B) (Res.row e size (.slice (some ⟨g, 0, none⟩) n cap) n ((A ++ B) ++ (D ++ B).drop B.length) :: l) := by
  have h1 := h.setAll A.length 0 B
  have e1 : setVals (A ++ (D ++ B)) A.length 0 B = (A ++ B) ++ (D ++ B).drop B.length := by
    have hs := setVals_mid A [] B ((D ++ B).take B.length) ((D ++ B).drop B.length) (by rw [List.length_take, List.length_append]; omega)
    rw [List.take_append_drop] at hs
    rw [List.append_assoc]
    exact hs
  rw [e1] at h1
  have w1 := wset_eq g A.length B w 0
  rw [Nat.add_zero] at w1
  rw [w1]
  exact h1
/-- A row's end is left out. -/
theorem StX.shorter {X : Nat → Prop} {w0 w : World} {e : TypeId} {size g n cap : Nat} {ys Z : List Value} {l : List Res} (h : StX X w0 w (Res.row e size (.slice (some ⟨g, 0, none⟩) (n + 1) cap) (n + 1) (ys ++ Z) :: l)) (hl : ys.length = n * size) :
    StX X w0 w (Res.row e size (.slice (some ⟨g, 0, none⟩) n cap) n ys :: l) := by
  refine h.change (Only.refl _ w) (Res.row e size (.slice (some ⟨g, 0, none⟩) n cap) n ys) ?_ ?_
  · have h1 : w.ownsRow 0 e size (.slice (some ⟨g, 0, none⟩) (n + 1) cap) (n + 1) (ys ++ Z) := h.head
    refine ⟨hl, ?_⟩
    rcases h1.2 with ⟨_, hn⟩ | ⟨g', c, cur, hv, hb, hh, hc, hm, hs, ht⟩
    · simp at hn
    · refine .inr ⟨g', c, cur, ?_, hb, hh, by omega, hm, hs, ?_⟩
      · cases hv; rfl
      · have h2 := congrArg (List.take (n * size)) ht
        rw [List.take_take, List.take_left' hl, Nat.min_eq_left (Nat.mul_le_mul_right _ (by omega))] at h2
        exact h2
  · intro i hi
    have hS : (Res.row e size (.slice (some ⟨g, 0, none⟩) (n + 1) cap) (n + 1) (ys ++ Z)).S i := hi
    exact ⟨.inl hS, (h.low i hS).2⟩

/-- 'clear' of one element that has several cells. -/
theorem run_clear_one {P : Program} (w : World) (t e ty : TypeId) (z : Value) (ht : P.underlying t = some (.slice e)) (hv : ∀ w, (zeroValue e).run P w = .ok z w) (h1 : ∀ u ∈ z.cells.toList, u.oneCell' = true) (b o n c : Nat) (hn : n = 1)
    (hc : ∀ j, j < z.cells.toList.length → (w.cell? ⟨b, o + j, none⟩).isSome = true) (hf : ∀ j, j < z.cells.toList.length → w.frozen? ⟨b, o + j, none⟩ = false) :
    (Builtin.clear_ #[t] ty #[.slice (some ⟨b, o, none⟩) n c]).run P w = .ok (.tuple #[]) (w.setCells b o z.cells.toList) := by
  subst hn
  have hzc : (Builtin.zeroCells z.cells 1).toList = z.cells.toList := by
    apply List.ext_getElem
    · simp [Builtin.zeroCells]
    · intro i h1 h2
      have h3 : i < z.cells.size := by simpa using h2
      simp [Builtin.zeroCells]
      rw [Nat.mod_eq_of_lt h3, getElem!_pos z.cells i h3]
  have hst := run_storeCells_cells (P := P) b o z.cells.toList 0 w (by simpa using hc) (by simpa using hf) h1
  simp only [Nat.add_zero] at hst
  simp [Builtin.clear_, run_underlying ht, hv, hzc, hst]
end Go.Proofs.YtcaknjdolfheaaaDoor
namespace Go.Proofs.YtcaknjdolfheaaaDoor
open Go Go.RowKit

set_option maxHeartbeats 3200000 in
set_option maxRecDepth 100000 in
theorem deleteRcpt_any {X : Nat → Prop} (l : List Res) (g c n i : Nat) (A D B : List Value) (w0 w : World) (h : StX X w0 w (Res.row 44 4 (.slice (some ⟨g, 0, none⟩) n c) n (A ++ (D ++ B)) :: l)) (hA : A.length = i * 4) (hDl : D.length = 4) (hi : i < n) (hone : ∀ u ∈ B, u.oneCell' = true) :
    Calls Tryd.prog 67 #[.slice (some ⟨g, 0, none⟩) n c, .int .i64 i, .int .i64 ((i : Int) + 1)] w fun e w' => e = .returned (.slice (some ⟨g, 0, none⟩) (i + (n - (i + 1))) c) ∧ StX X w0 w' (Res.row 44 4 (.slice (some ⟨g, 0, none⟩) (i + (n - (i + 1))) c) (i + (n - (i + 1))) (A ++ B) :: l) := by
  obtain ⟨i0, hi0, hz0, hz1, hz2⟩ := info_parts infoRcpt
  have HS : Seal _ := ⟨h⟩
  have hrow : w.ownsRow 0 44 4 (.slice (some ⟨g, 0, none⟩) n c) n (A ++ (D ++ B)) := h.head
  have HROW : Seal _ := ⟨hrow⟩
  have hlen : (A ++ (D ++ B)).length = n * 4 := hrow.1
  have hBl : B.length = (n - (i + 1)) * 4 := by
    rw [List.length_append, List.length_append, hA, hDl] at hlen
    omega
  have hnc : n ≤ c := by
    rcases hrow.2 with ⟨_, h0⟩ | ⟨g', c', cur, hv, _, _, hc, _⟩
    · omega
    · simp only [Value.slice.injEq] at hv
      omega
  obtain ⟨Q, hQ, hsrc⟩ : ∃ Q : Addr, (if c = i + 1 then some (⟨g, 0, none⟩ : Addr) else some ⟨g, (i + 1) * 4, none⟩) = some Q ∧ Seal (∀ t u, B[t]? = some u → w.drew.cell? (Q.add t) = some u) := by
    obtain ⟨Q, hQ⟩ : ∃ Q : Addr, (if c = i + 1 then some (⟨g, 0, none⟩ : Addr) else some ⟨g, (i + 1) * 4, none⟩) = some Q := by
      by_cases h : c = i + 1
      · exact ⟨_, if_pos h⟩
      · exact ⟨_, if_neg h⟩
    exact ⟨Q, hQ, ⟨rest_news hrow (i + 1) hi hnc (by rw [← List.append_assoc]) (by rw [List.length_append, hA, hDl]; omega) hQ⟩⟩
  have s1 : Seal (B.length = (n - (i + 1)) * 4) := ⟨hBl⟩
  have s2 : Seal (∀ u ∈ B, u.oneCell' = true) := ⟨hone⟩
  have s3 : Seal (∀ t, t < B.length → (w.drew.cell? ⟨g, 0 + i * 4 + t, none⟩).isSome = true ∧ w.drew.frozen? ⟨g, 0 + i * 4 + t, none⟩ = false) := ⟨fun t ht => by
    have hlt : i * 4 + t < n * 4 := by omega
    rw [Nat.zero_add]
    refine ⟨?_, hrow.frozenAt _⟩
    show (w.cell? _).isSome = true
    rw [hrow.cellAt _ hlt, List.getElem?_eq_getElem (by rw [hlen]; exact hlt)]
    rfl⟩
  obtain ⟨W1, hW1⟩ : ∃ W1, W1 = w.drew.setCells g (0 + i * 4) B := ⟨_, rfl⟩
  have HW : Seal (W1 = w.drew.setCells g (0 + i * 4) B) := ⟨hW1⟩
  have HM : Seal (StX X w0 (W1.setCells g ((i + (n - (i + 1))) * 4) (.agg #[.string ByteArray.empty, .string ByteArray.empty, .int .i64 0, .int .i64 0] : Value).cells.toList) (Res.row 44 4 (.slice (some ⟨g, 0, none⟩) n c) n ((A ++ B) ++ (.agg #[.string ByteArray.empty, .string ByteArray.empty, .int .i64 0, .int .i64 0] : Value).cells.toList) :: l)) := ⟨by
    have hm := StX.moved (Z := (.agg #[.string ByteArray.empty, .string ByteArray.empty, .int .i64 0, .int .i64 0] : Value).cells.toList) (HS.out.later (Below.refl _ w).drew) (by rw [hDl]; rfl)
    rw [hA, hBl] at hm
    rw [hW1, Nat.zero_add, Nat.add_mul]
    exact hm⟩
  have HC : Seal (∀ ty, (Builtin.clear_ #[39] ty #[.slice (some ⟨g, (i + (n - (i + 1))) * 4, none⟩) (n - (i + (n - (i + 1)))) (c - (i + (n - (i + 1))))]).run Tryd.prog W1 = .ok (.tuple #[]) (W1.setCells g ((i + (n - (i + 1))) * 4) (.agg #[.string ByteArray.empty, .string ByteArray.empty, .int .i64 0, .int .i64 0] : Value).cells.toList)) := ⟨fun ty => by
    have hm := StX.moved1 (HS.out.later (Below.refl _ w).drew)
    rw [hA] at hm
    have hr : W1.ownsRow 0 44 4 (.slice (some ⟨g, 0, none⟩) n c) n ((A ++ B) ++ (D ++ B).drop B.length) := by
      rw [hW1, Nat.zero_add]
      exact hm.head
    refine run_clear_one W1 _ 44 ty _ Tryd.underlying39 (fun w => by simp [zeroValue, typeInfo, hi0, hz0]) (by decide) g _ _ _ (by omega) (fun j hj => ?_) (fun j _ => hr.frozenAt _)
    have hj4 : j < 4 := hj
    have hlt : (i + (n - (i + 1))) * 4 + j < n * 4 := by omega
    rw [hr.cellAt _ hlt, List.getElem?_eq_getElem (by rw [hr.1]; exact hlt)]
    rfl⟩
  have hcl := HC.out
  have mixed : Tryd.prog.follows .mixedOrders = true := by kernel_rfl
  have hic : (i : Int) ≤ (c : Int) := by omega
  have hjc : (i : Int) + 1 ≤ (c : Int) := by omega
  have hj0 : (0 : Int) ≤ (i : Int) + 1 := by omega
  have hjn : (i : Int) + 1 ≤ (n : Int) := by omega
  have hne : ¬ (i : Int) = (i : Int) + 1 := by omega
  have hncI : (n : Int) ≤ (c : Int) := by omega
  have hiI : (i : Int) ≤ (n : Int) := by omega
  clear h hrow hlen hBl hone hW1
  go_enter Tryd.func67, Tryd.ntmps67
  go_upto_region 5 with fail
  refine wp_region_held_drew (S := (fun w' => True)) (by kernel_rfl) trivial (fun hHeld => ?_)
  (refine wpAnyH_take (i := 0) (v := ?_) rfl (by kernel_rfl) (by kernel_rfl) (by kernel_rfl) (fun _ _ _ h => h) (Or.inl ⟨by rfl, ?_⟩) (by assumption) ?_; rotate_left; (intro w hSw; (try dsimp only at hSw); go_split_ands; go_simp; first | done | with_reducible rfl); rotate_left; simp only [Act.put, List.getElem_toArray, List.getElem_cons_zero, List.setIfInBounds_toArray, List.set_cons_succ, List.set_cons_zero])
  (refine wpAnyH_take (i := 1) (v := ?_) rfl (by kernel_rfl) (by kernel_rfl) (by kernel_rfl) (fun _ _ _ h => h) (Or.inl ⟨by rfl, ?_⟩) (by assumption) ?_; rotate_left; (intro w hSw; (try dsimp only at hSw); go_split_ands; go_simp; first | done | with_reducible rfl); rotate_left; simp only [Act.put, List.getElem_toArray, List.getElem_cons_succ, List.getElem_cons_zero, List.setIfInBounds_toArray, List.set_cons_succ, List.set_cons_zero])
  (refine wpAnyH_take (i := 2) (v := ?_) rfl (by kernel_rfl) (by kernel_rfl) (by kernel_rfl) (fun _ _ _ h => h) (Or.inl ⟨by rfl, ?_⟩) (by assumption) ?_; rotate_left; (intro w hSw; (try dsimp only at hSw); go_split_ands; go_simp; first | done | with_reducible rfl); rotate_left; simp only [Act.put, List.getElem_toArray, List.getElem_cons_succ, List.getElem_cons_zero, List.setIfInBounds_toArray, List.set_cons_succ, List.set_cons_zero])
  (refine wpAnyH_take (i := 3) (v := ?_) rfl (by kernel_rfl) (by kernel_rfl) (by kernel_rfl) (fun _ _ _ h => h) (Or.inl ⟨by rfl, ?_⟩) (by assumption) ?_; rotate_left; (intro w hSw; (try dsimp only at hSw); go_split_ands; go_simp; first | done | with_reducible rfl); rotate_left; simp only [Act.put, List.getElem_toArray, List.getElem_cons_succ, List.getElem_cons_zero, List.setIfInBounds_toArray, List.set_cons_succ, List.set_cons_zero])
  (refine wpAnyH_take (i := 4) (v := ?_) rfl (by kernel_rfl) (by kernel_rfl) (by kernel_rfl) (fun _ _ _ h => h) (Or.inl ⟨by rfl, ?_⟩) (by assumption) ?_; rotate_left; (intro w hSw; (try dsimp only at hSw); go_split_ands; go_simp; first | done | with_reducible rfl); rotate_left; simp only [Act.put, List.getElem_toArray, List.getElem_cons_succ, List.getElem_cons_zero, List.setIfInBounds_toArray, List.set_cons_succ, List.set_cons_zero])
  (refine wpAnyH_take (i := 5) (v := ?_) rfl (by kernel_rfl) (by kernel_rfl) (by kernel_rfl) (fun _ _ _ h => h) (Or.inl ⟨by rfl, ?_⟩) (by assumption) ?_; rotate_left; (intro w hSw; (try dsimp only at hSw); go_split_ands; go_simp; first | done | with_reducible rfl); rotate_left; simp only [Act.put, List.getElem_toArray, List.getElem_cons_succ, List.getElem_cons_zero, List.setIfInBounds_toArray, List.set_cons_succ, List.set_cons_zero])
  refine wpAnyH_ready (rs := [6]) (by kernel_rfl) (by simp) ?_
  refine AllReadyH.cons rfl (fun K hK => ?_) AllReadyH.nil
  refine step_append_room rfl _ _ 39 rfl 44 i0 4 Tryd.underlying39 hi0 hz1 g 0 i c (by rfl) Q (n - (i + 1)) (c - (i + 1)) B (by rfl) s1.out hsrc.out s2.out (by omega) s3.out ?_
  rw [← HW.out]
  refine hK.out _ _ trivial (fun hHeld => ?_)
  clear hK K
  try simp only [Act.put, List.getElem_toArray, List.getElem_cons_succ, List.getElem_cons_zero, List.setIfInBounds_toArray, List.set_cons_zero, List.set_cons_succ]
  refine wpAnyH_ready (rs := [7]) (by kernel_rfl) (by simp) ?_
  refine AllReadyH.cons rfl (fun K hK => ?_) AllReadyH.nil
  go_simp
  refine hK.out _ _ trivial (fun hHeld => ?_)
  clear hK K
  try simp only [Act.put, List.getElem_toArray, List.getElem_cons_succ, List.getElem_cons_zero, List.setIfInBounds_toArray, List.set_cons_zero, List.set_cons_succ]
  refine wpAnyH_done (by kernel_rfl) ?_ _
  go_wp2
  go_ret
  have hs : StX X w0 (W1.setCells g ((i + (n - (i + 1))) * 4) (.agg #[.string ByteArray.empty, .string ByteArray.empty, .int .i64 0, .int .i64 0] : Value).cells.toList) (Res.row 44 4 (.slice (some ⟨g, 0, none⟩) (i + (n - (i + 1)) + 1) c) (i + (n - (i + 1)) + 1) ((A ++ B) ++ (.agg #[.string ByteArray.empty, .string ByteArray.empty, .int .i64 0, .int .i64 0] : Value).cells.toList) :: l) := by rw [show i + (n - (i + 1)) + 1 = n by omega]; exact HM.out
  exact ⟨rfl, hs.shorter (by rw [List.length_append, hA, s1.out, Nat.add_mul])⟩
set_option maxHeartbeats 3200000 in
set_option maxRecDepth 100000 in
theorem deleteItem_any {X : Nat → Prop} (l : List Res) (g c n i : Nat) (A D B : List Value) (w0 w : World) (h : StX X w0 w (Res.row 42 5 (.slice (some ⟨g, 0, none⟩) n c) n (A ++ (D ++ B)) :: l)) (hA : A.length = i * 5) (hDl : D.length = 5) (hi : i < n) (hone : ∀ u ∈ B, u.oneCell' = true) :
    Calls Tryd.prog 68 #[.slice (some ⟨g, 0, none⟩) n c, .int .i64 i, .int .i64 ((i : Int) + 1)] w fun e w' => e = .returned (.slice (some ⟨g, 0, none⟩) (i + (n - (i + 1))) c) ∧ StX X w0 w' (Res.row 42 5 (.slice (some ⟨g, 0, none⟩) (i + (n - (i + 1))) c) (i + (n - (i + 1))) (A ++ B) :: l) := by
  obtain ⟨i0, hi0, hz0, hz1, hz2⟩ := info_parts infoItem
  have HS : Seal _ := ⟨h⟩
  have hrow : w.ownsRow 0 42 5 (.slice (some ⟨g, 0, none⟩) n c) n (A ++ (D ++ B)) := h.head
  have HROW : Seal _ := ⟨hrow⟩
  have hlen : (A ++ (D ++ B)).length = n * 5 := hrow.1
  have hBl : B.length = (n - (i + 1)) * 5 := by
    rw [List.length_append, List.length_append, hA, hDl] at hlen
    omega
  have hnc : n ≤ c := by
    rcases hrow.2 with ⟨_, h0⟩ | ⟨g', c', cur, hv, _, _, hc, _⟩
    · omega
    · simp only [Value.slice.injEq] at hv
      omega
  obtain ⟨Q, hQ, hsrc⟩ : ∃ Q : Addr, (if c = i + 1 then some (⟨g, 0, none⟩ : Addr) else some ⟨g, (i + 1) * 5, none⟩) = some Q ∧ Seal (∀ t u, B[t]? = some u → w.drew.cell? (Q.add t) = some u) := by
    obtain ⟨Q, hQ⟩ : ∃ Q : Addr, (if c = i + 1 then some (⟨g, 0, none⟩ : Addr) else some ⟨g, (i + 1) * 5, none⟩) = some Q := by
      by_cases h : c = i + 1
      · exact ⟨_, if_pos h⟩
      · exact ⟨_, if_neg h⟩
    exact ⟨Q, hQ, ⟨rest_news hrow (i + 1) hi hnc (by rw [← List.append_assoc]) (by rw [List.length_append, hA, hDl]; omega) hQ⟩⟩
  have s1 : Seal (B.length = (n - (i + 1)) * 5) := ⟨hBl⟩
  have s2 : Seal (∀ u ∈ B, u.oneCell' = true) := ⟨hone⟩
  have s3 : Seal (∀ t, t < B.length → (w.drew.cell? ⟨g, 0 + i * 5 + t, none⟩).isSome = true ∧ w.drew.frozen? ⟨g, 0 + i * 5 + t, none⟩ = false) := ⟨fun t ht => by
    have hlt : i * 5 + t < n * 5 := by omega
    rw [Nat.zero_add]
    refine ⟨?_, hrow.frozenAt _⟩
    show (w.cell? _).isSome = true
    rw [hrow.cellAt _ hlt, List.getElem?_eq_getElem (by rw [hlen]; exact hlt)]
    rfl⟩
  obtain ⟨W1, hW1⟩ : ∃ W1, W1 = w.drew.setCells g (0 + i * 5) B := ⟨_, rfl⟩
  have HW : Seal (W1 = w.drew.setCells g (0 + i * 5) B) := ⟨hW1⟩
  have HM : Seal (StX X w0 (W1.setCells g ((i + (n - (i + 1))) * 5) (.agg #[.int .i64 0, .string ByteArray.empty, .string ByteArray.empty, .slice none 0 0, .slice none 0 0] : Value).cells.toList) (Res.row 42 5 (.slice (some ⟨g, 0, none⟩) n c) n ((A ++ B) ++ (.agg #[.int .i64 0, .string ByteArray.empty, .string ByteArray.empty, .slice none 0 0, .slice none 0 0] : Value).cells.toList) :: l)) := ⟨by
    have hm := StX.moved (Z := (.agg #[.int .i64 0, .string ByteArray.empty, .string ByteArray.empty, .slice none 0 0, .slice none 0 0] : Value).cells.toList) (HS.out.later (Below.refl _ w).drew) (by rw [hDl]; rfl)
    rw [hA, hBl] at hm
    rw [hW1, Nat.zero_add, Nat.add_mul]
    exact hm⟩
  have HC : Seal (∀ ty, (Builtin.clear_ #[23] ty #[.slice (some ⟨g, (i + (n - (i + 1))) * 5, none⟩) (n - (i + (n - (i + 1)))) (c - (i + (n - (i + 1))))]).run Tryd.prog W1 = .ok (.tuple #[]) (W1.setCells g ((i + (n - (i + 1))) * 5) (.agg #[.int .i64 0, .string ByteArray.empty, .string ByteArray.empty, .slice none 0 0, .slice none 0 0] : Value).cells.toList)) := ⟨fun ty => by
    have hm := StX.moved1 (HS.out.later (Below.refl _ w).drew)
    rw [hA] at hm
    have hr : W1.ownsRow 0 42 5 (.slice (some ⟨g, 0, none⟩) n c) n ((A ++ B) ++ (D ++ B).drop B.length) := by
      rw [hW1, Nat.zero_add]
      exact hm.head
    refine run_clear_one W1 _ 42 ty _ Tryd.underlying23 (fun w => by simp [zeroValue, typeInfo, hi0, hz0]) (by decide) g _ _ _ (by omega) (fun j hj => ?_) (fun j _ => hr.frozenAt _)
    have hj4 : j < 5 := hj
    have hlt : (i + (n - (i + 1))) * 5 + j < n * 5 := by omega
    rw [hr.cellAt _ hlt, List.getElem?_eq_getElem (by rw [hr.1]; exact hlt)]
    rfl⟩
  have hcl := HC.out
  have mixed : Tryd.prog.follows .mixedOrders = true := by kernel_rfl
  have hic : (i : Int) ≤ (c : Int) := by omega
  have hjc : (i : Int) + 1 ≤ (c : Int) := by omega
  have hj0 : (0 : Int) ≤ (i : Int) + 1 := by omega
  have hjn : (i : Int) + 1 ≤ (n : Int) := by omega
  have hne : ¬ (i : Int) = (i : Int) + 1 := by omega
  have hncI : (n : Int) ≤ (c : Int) := by omega
  have hiI : (i : Int) ≤ (n : Int) := by omega
  clear h hrow hlen hBl hone hW1
  go_enter Tryd.func68, Tryd.ntmps68
  go_upto_region 5 with fail
  refine wp_region_held_drew (S := (fun w' => True)) (by kernel_rfl) trivial (fun hHeld => ?_)
  (refine wpAnyH_take (i := 0) (v := ?_) rfl (by kernel_rfl) (by kernel_rfl) (by kernel_rfl) (fun _ _ _ h => h) (Or.inl ⟨by rfl, ?_⟩) (by assumption) ?_; rotate_left; (intro w hSw; (try dsimp only at hSw); go_split_ands; go_simp; first | done | with_reducible rfl); rotate_left; simp only [Act.put, List.getElem_toArray, List.getElem_cons_zero, List.setIfInBounds_toArray, List.set_cons_succ, List.set_cons_zero])
  (refine wpAnyH_take (i := 1) (v := ?_) rfl (by kernel_rfl) (by kernel_rfl) (by kernel_rfl) (fun _ _ _ h => h) (Or.inl ⟨by rfl, ?_⟩) (by assumption) ?_; rotate_left; (intro w hSw; (try dsimp only at hSw); go_split_ands; go_simp; first | done | with_reducible rfl); rotate_left; simp only [Act.put, List.getElem_toArray, List.getElem_cons_succ, List.getElem_cons_zero, List.setIfInBounds_toArray, List.set_cons_succ, List.set_cons_zero])
  (refine wpAnyH_take (i := 2) (v := ?_) rfl (by kernel_rfl) (by kernel_rfl) (by kernel_rfl) (fun _ _ _ h => h) (Or.inl ⟨by rfl, ?_⟩) (by assumption) ?_; rotate_left; (intro w hSw; (try dsimp only at hSw); go_split_ands; go_simp; first | done | with_reducible rfl); rotate_left; simp only [Act.put, List.getElem_toArray, List.getElem_cons_succ, List.getElem_cons_zero, List.setIfInBounds_toArray, List.set_cons_succ, List.set_cons_zero])
  (refine wpAnyH_take (i := 3) (v := ?_) rfl (by kernel_rfl) (by kernel_rfl) (by kernel_rfl) (fun _ _ _ h => h) (Or.inl ⟨by rfl, ?_⟩) (by assumption) ?_; rotate_left; (intro w hSw; (try dsimp only at hSw); go_split_ands; go_simp; first | done | with_reducible rfl); rotate_left; simp only [Act.put, List.getElem_toArray, List.getElem_cons_succ, List.getElem_cons_zero, List.setIfInBounds_toArray, List.set_cons_succ, List.set_cons_zero])
  (refine wpAnyH_take (i := 4) (v := ?_) rfl (by kernel_rfl) (by kernel_rfl) (by kernel_rfl) (fun _ _ _ h => h) (Or.inl ⟨by rfl, ?_⟩) (by assumption) ?_; rotate_left; (intro w hSw; (try dsimp only at hSw); go_split_ands; go_simp; first | done | with_reducible rfl); rotate_left; simp only [Act.put, List.getElem_toArray, List.getElem_cons_succ, List.getElem_cons_zero, List.setIfInBounds_toArray, List.set_cons_succ, List.set_cons_zero])
  (refine wpAnyH_take (i := 5) (v := ?_) rfl (by kernel_rfl) (by kernel_rfl) (by kernel_rfl) (fun _ _ _ h => h) (Or.inl ⟨by rfl, ?_⟩) (by assumption) ?_; rotate_left; (intro w hSw; (try dsimp only at hSw); go_split_ands; go_simp; first | done | with_reducible rfl); rotate_left; simp only [Act.put, List.getElem_toArray, List.getElem_cons_succ, List.getElem_cons_zero, List.setIfInBounds_toArray, List.set_cons_succ, List.set_cons_zero])
  refine wpAnyH_ready (rs := [6]) (by kernel_rfl) (by simp) ?_
  refine AllReadyH.cons rfl (fun K hK => ?_) AllReadyH.nil
  refine step_append_room rfl _ _ 23 rfl 42 i0 5 Tryd.underlying23 hi0 hz1 g 0 i c (by rfl) Q (n - (i + 1)) (c - (i + 1)) B (by rfl) s1.out hsrc.out s2.out (by omega) s3.out ?_
  rw [← HW.out]
  refine hK.out _ _ trivial (fun hHeld => ?_)
  clear hK K
  try simp only [Act.put, List.getElem_toArray, List.getElem_cons_succ, List.getElem_cons_zero, List.setIfInBounds_toArray, List.set_cons_zero, List.set_cons_succ]
  refine wpAnyH_ready (rs := [7]) (by kernel_rfl) (by simp) ?_
  refine AllReadyH.cons rfl (fun K hK => ?_) AllReadyH.nil
  go_simp
  refine hK.out _ _ trivial (fun hHeld => ?_)
  clear hK K
  try simp only [Act.put, List.getElem_toArray, List.getElem_cons_succ, List.getElem_cons_zero, List.setIfInBounds_toArray, List.set_cons_zero, List.set_cons_succ]
  refine wpAnyH_done (by kernel_rfl) ?_ _
  go_wp2
  go_ret
  have hs : StX X w0 (W1.setCells g ((i + (n - (i + 1))) * 5) (.agg #[.int .i64 0, .string ByteArray.empty, .string ByteArray.empty, .slice none 0 0, .slice none 0 0] : Value).cells.toList) (Res.row 42 5 (.slice (some ⟨g, 0, none⟩) (i + (n - (i + 1)) + 1) c) (i + (n - (i + 1)) + 1) ((A ++ B) ++ (.agg #[.int .i64 0, .string ByteArray.empty, .string ByteArray.empty, .slice none 0 0, .slice none 0 0] : Value).cells.toList) :: l) := by rw [show i + (n - (i + 1)) + 1 = n by omega]; exact HM.out
  exact ⟨rfl, hs.shorter (by rw [List.length_append, hA, s1.out, Nat.add_mul])⟩
end Go.Proofs.YtcaknjdolfheaaaDoor
namespace Go.Proofs.YtcaknjdolfheaaaDoor
open Go Go.RowKit

theorem item_put {X : Nat → Prop} {w0 w : World} {g c n : Nat} {xs : List ItemD} {ps : List ItemV} {l : List Res} (h : StX X w0 w (itemRw g c n xs ps :: l)) (hl : ps.length = xs.length) {k : Nat} {x : ItemD} {p : ItemV} (hx : xs[k]? = some x) (hp : ps[k]? = some p) (j : Nat) (hj : j < 5) (v : Value) (y : ItemD) (e : itemL y p = (itemL x p).set j v) :
    StX X w0 (w.setCell ⟨g, k * 5 + j, none⟩ v) (itemRw g c n (xs.set k y) ps :: l) := by
  have hk := (List.getElem?_eq_some_iff.1 hx).1
  have e1 := take_drop_at hx
  have e2 := take_drop_at hp
  have s : StX X w0 w (Res.row 42 itemE.size (.slice (some ⟨g, 0, none⟩) n c) n (itemE.all (xs.take k ++ x :: xs.drop (k + 1)) (ps.take k ++ p :: ps.drop (k + 1))) :: l) := by
    rw [← e1, ← e2]
    exact h
  have s2 := s.setElem itemE (by simp; omega) (i := k) (by simp; omega) (j := j) hj v y e
  have e3 : itemE.all (xs.set k y) ps = itemE.all (xs.take k ++ y :: xs.drop (k + 1)) (ps.take k ++ p :: ps.drop (k + 1)) := by
    rw [← e2, List.set_eq_take_append_cons_drop, if_pos hk]
  show StX X w0 _ (Res.row 42 5 (.slice (some ⟨g, 0, none⟩) n c) n (itemE.all (xs.set k y) ps) :: l)
  rw [e3]
  exact s2
theorem Pt.close2 {w0 W : World} {bo : Option Addr} {c : Nat} {xs : List ItemD} {qs : List ItemV} {Ls : List (List Res)} (hl : qs.length = xs.length) {a : Nat} {x : ItemD} {q : ItemV} (hx : xs[a]? = some x) (hq : qs[a]? = some q) (y : ItemD)
    (h : Pt w0 W ([Res.row 42 5 (.slice bo xs.length c) xs.length (itemE.all (xs.set a y) qs)] :: itemE.ress (xs.take a) (qs.take a) :: [rcptsR q.a1 q.c1 y.rc] :: [strsR q.a2 q.c2 y.body] :: itemE.ress (xs.drop (a + 1)) (qs.drop (a + 1)) :: Ls)) :
    Pt w0 W (itemsR bo c (xs.set a y) qs :: Ls) := by
  have e := (ress_set hl hx hq y q).2
  rw [set_self' hq] at e
  have e2 : itemsR bo c (xs.set a y) qs = Res.row 42 5 (.slice bo xs.length c) xs.length (itemE.all (xs.set a y) qs) :: (itemE.ress (xs.take a) (qs.take a) ++ ([rcptsR q.a1 q.c1 y.rc, strsR q.a2 q.c2 y.body] ++ itemE.ress (xs.drop (a + 1)) (qs.drop (a + 1)))) := by
    unfold itemsR Elem.row
    rw [e, List.length_set]
    rfl
  rw [e2]
  unfold Pt at h ⊢
  simpa only [List.flatten_cons, List.append_assoc, List.cons_append, List.nil_append] using h
theorem rcs_at {xs : List RcptD} {k : Nat} {r : RcptD} (hr : xs[k]? = some r) : rcs xs = rcs (xs.take k) ++ (rcptL r ++ rcs (xs.drop (k + 1))) := by
  rw [← rcs_cons, ← rcs_app, ← take_drop_at hr]
theorem all_put {xs : List ItemD} {ps : List ItemV} (hl : ps.length = xs.length) {k : Nat} {x : ItemD} {p : ItemV} (hx : xs[k]? = some x) (hp : ps[k]? = some p) (y : ItemD) : itemE.all (xs.set k y) ps = itemE.all (xs.take k) (ps.take k) ++ (itemL y p ++ itemE.all (xs.drop (k + 1)) (ps.drop (k + 1))) := by
  have hk := (List.getElem?_eq_some_iff.1 hx).1
  have e2 := take_drop_at hp
  have e3 : itemE.all (xs.set k y) ps = itemE.all (xs.take k ++ y :: xs.drop (k + 1)) (ps.take k ++ p :: ps.drop (k + 1)) := by
    rw [← e2, List.set_eq_take_append_cons_drop, if_pos hk]
  rw [e3, itemE.all_split (by simp; omega)]
  rfl

set_option maxHeartbeats 6400000 in
set_option maxRecDepth 100000 in
theorem remove_any (s : SpoolD) (L c : Nat) (bo : Option Addr) (qs : List ItemV) (hl : qs.length = s.items.length) (hn : s.items.length ≤ 1048576) (a k : Nat) (x : ItemD) (r : RcptD) (hx : s.items[a]? = some x) (hr : x.rc[k]? = some r) (hz : itemN x ≤ 1048576) (w0 w : World) (Ls : List (List Res)) (h : Pt w0 w ([Res.cells L [.int .i64 s.last, .slice bo s.items.length c]] :: itemsR bo c s.items qs :: Ls)) :
    Calls Tryd.prog 31 #[.pointer (some ⟨L, 0, none⟩), .int .i64 a, .int .i64 k] w fun e w' => ∃ b2 c2 q2, e = .returned (.tuple #[]) ∧ q2.length = (doneS s a (doneI x k)).items.length ∧ Pt w0 w' ([Res.cells L [.int .i64 s.last, .slice b2 (doneS s a (doneI x k)).items.length c2]] :: itemsR b2 c2 (doneS s a (doneI x k)).items q2 :: Ls) := by
  obtain ⟨q, hq⟩ : ∃ q, qs[a]? = some q := ⟨_, List.getElem?_eq_getElem (by have := (List.getElem?_eq_some_iff.1 hx).1; omega)⟩
  have HL : Seal _ := ⟨hl⟩
  have HX : Seal _ := ⟨hx⟩
  have HR : Seal _ := ⟨hr⟩
  have HQ : Seal _ := ⟨hq⟩
  have hik := (List.getElem?_eq_some_iff.1 hx).1
  have hkk := (List.getElem?_eq_some_iff.1 hr).1
  have hrl : x.rc.length ≤ 1048576 := (itemN_parts hz).2.2.1
  have s4 := (h.bring 1 rfl).open hl hx hq
  obtain ⟨g2, hg2⟩ : ∃ g2, q.a1 = some ⟨g2, 0, none⟩ := by
    rcases slice_or (s4.nth 2 rfl _ List.mem_cons_self) with h | h
    · omega
    · exact h
  obtain ⟨g3, rfl⟩ : ∃ g3, bo = some ⟨g3, 0, none⟩ := by
    rcases slice_or (s4.nth 0 rfl _ List.mem_cons_self) with h | h
    · omega
    · exact h
  obtain ⟨qa, qc, qb, qd⟩ := q
  dsimp only at hg2
  subst hg2
  have S4 : Seal (Pt w0 w ([itemRw g3 c s.items.length s.items qs] :: itemE.ress (s.items.take a) (qs.take a) :: [rcptsR (some ⟨g2, 0, none⟩) qc x.rc] :: [strsR qb qd x.body] :: itemE.ress (s.items.drop (a + 1)) (qs.drop (a + 1)) :: [Res.cells L [.int .i64 s.last, .slice (some ⟨g3, 0, none⟩) s.items.length c]] :: Ls)) := ⟨s4⟩
  clear h hl hx hr hq s4 hz
  obtain ⟨M, hM⟩ : ∃ M, k + (x.rc.length - (k + 1)) = M := ⟨_, rfl⟩
  obtain ⟨RC, hRC⟩ : ∃ RC, x.rc.take k ++ x.rc.drop (k + 1) = RC := ⟨_, rfl⟩
  have HM : Seal _ := ⟨hM⟩
  have HRC : Seal _ := ⟨hRC⟩
  have HML : Seal (RC.length = M) := ⟨by rw [← hRC, ← hM, List.length_append, List.length_take, List.length_drop, Nat.min_eq_left (by omega)]⟩
  have hMl : M < x.rc.length := by omega
  clear hM hRC
  have CD : Seal (Calls Tryd.prog 67 #[.slice (some ⟨g2, 0, none⟩) x.rc.length qc, .int .i64 k, .int .i64 ((k : Int) + 1)] w fun e w' => e = .returned (.slice (some ⟨g2, 0, none⟩) M qc) ∧ Pt w0 w' ([Res.row 44 4 (.slice (some ⟨g2, 0, none⟩) M qc) M (rcs RC)] :: [itemRw g3 c s.items.length s.items qs] :: itemE.ress (s.items.take a) (qs.take a) :: [strsR qb qd x.body] :: itemE.ress (s.items.drop (a + 1)) (qs.drop (a + 1)) :: [Res.cells L [.int .i64 s.last, .slice (some ⟨g3, 0, none⟩) s.items.length c]] :: Ls)) := ⟨by
    have h0 : Pt w0 w ([Res.row 44 4 (.slice (some ⟨g2, 0, none⟩) x.rc.length qc) x.rc.length (rcs x.rc)] :: [itemRw g3 c s.items.length s.items qs] :: itemE.ress (s.items.take a) (qs.take a) :: [strsR qb qd x.body] :: itemE.ress (s.items.drop (a + 1)) (qs.drop (a + 1)) :: [Res.cells L [.int .i64 s.last, .slice (some ⟨g3, 0, none⟩) s.items.length c]] :: Ls) := S4.out.bring 2 rfl
    rw [rcs_at HR.out] at h0
    refine (deleteRcpt_any _ g2 qc x.rc.length k (rcs (x.rc.take k)) (rcptL r) (rcs (x.rc.drop (k + 1))) w0 w h0 (rcs_lenT (Nat.le_of_lt hkk)) rfl hkk (rcs_one _)).mono ?_
    rintro e w' ⟨rfl, hs⟩
    rw [HM.out, ← rcs_app, HRC.out] at hs
    exact ⟨by rw [HM.out], hs⟩⟩
  have ha0 : (0 : Int) ≤ (a : Int) := by omega
  have ha1 : (a : Int) < (s.items.length : Int) := by omega
  have hwk : IntKind.i64.wrap ((k : Int) + 1) = (k : Int) + 1 := IntWalk.i64_in _ (by omega)
  have u1 := (S4.out.cellsM 5 rfl).c 1 _ rfl
  have ul := (S4.out.cellsM 5 rfl).lt
  have i3 := (item_at (S4.out.nth 0 rfl _ List.mem_cons_self) rfl HX.out HQ.out 3 (by decide) rfl).1
  go_enter Tryd.func31, Tryd.ntmps31
  go_wp2_with fail
  refine CD.out.mono ?_
  rintro e w1 ⟨rfl, hs⟩
  have S5 : Seal _ := ⟨hs⟩
  clear hs S4 CD u1 ul i3
  have i3 := item_at (S5.out.nth 1 rfl _ List.mem_cons_self) rfl HX.out HQ.out 3 (by decide) rfl
  obtain ⟨i3a, i3b⟩ := i3
  have hy : (doneI x k).rc = RC := HRC.out
  have eL : itemL (doneI x k) ⟨some ⟨g2, 0, none⟩, qc, qb, qd⟩ = (itemL x ⟨some ⟨g2, 0, none⟩, qc, qb, qd⟩).set 3 (.slice (some ⟨g2, 0, none⟩) M qc) := by
    show [Value.int .i64 x.id, .string x.fu, .string x.fd, .slice (some ⟨g2, 0, none⟩) (doneI x k).rc.length qc, .slice qb x.body.length qd] = [Value.int .i64 x.id, .string x.fu, .string x.fd, .slice (some ⟨g2, 0, none⟩) M qc, .slice qb x.body.length qd]
    rw [hy, HML.out]
  have S6 : Seal (Pt w0 (w1.setCell ⟨g3, a * 5 + 3, none⟩ (.slice (some ⟨g2, 0, none⟩) M qc)) ([itemRw g3 c s.items.length (s.items.set a (doneI x k)) qs] :: [Res.row 44 4 (.slice (some ⟨g2, 0, none⟩) M qc) M (rcs RC)] :: itemE.ress (s.items.take a) (qs.take a) :: [strsR qb qd x.body] :: itemE.ress (s.items.drop (a + 1)) (qs.drop (a + 1)) :: [Res.cells L [.int .i64 s.last, .slice (some ⟨g3, 0, none⟩) s.items.length c]] :: Ls)) := ⟨item_put (S5.out.bring 1 rfl) HL.out HX.out HQ.out 3 (by decide) _ (doneI x k) eL⟩
  have HYL : Seal (itemL (doneI x k) ⟨some ⟨g2, 0, none⟩, qc, qb, qd⟩ = [.int .i64 x.id, .string x.fu, .string x.fd, .slice (some ⟨g2, 0, none⟩) M qc, .slice qb x.body.length qd]) := ⟨eL⟩
  go_upto_region 2 with fail
  clear S5 i3a i3b eL
  generalize w1.setCell ⟨g3, a * 5 + 3, none⟩ (.slice (some ⟨g2, 0, none⟩) M qc) = w2 at *
  have i3 := (item_at (S6.out.nth 0 rfl _ List.mem_cons_self) List.length_set.symm (List.getElem?_set_self hik) HQ.out 3 (by decide) (v := .slice (some ⟨g2, 0, none⟩) M qc) (by rw [HYL.out]; rfl)).1
  by_cases hM0 : M = 0
  · have hMz : ((M : Int) == 0) = true := by rw [beq_iff_eq]; omega
    have hy0 : (doneI x k).rc = [] := hy.trans (List.eq_nil_of_length_eq_zero (HML.out.trans hM0))
    have hD : Seal (doneS s a (doneI x k) = ⟨s.last, s.items.take a ++ s.items.drop (a + 1)⟩) := ⟨by unfold doneS; rw [hy0, if_pos rfl]⟩
    obtain ⟨N, hN⟩ : ∃ N, a + (s.items.length - (a + 1)) = N := ⟨_, rfl⟩
    have HN : Seal _ := ⟨hN⟩
    clear hN
    have CI : Seal (Calls Tryd.prog 68 #[.slice (some ⟨g3, 0, none⟩) s.items.length c, .int .i64 a, .int .i64 ((a : Int) + 1)] w2 fun e w' => e = .returned (.slice (some ⟨g3, 0, none⟩) N c) ∧ Pt w0 w' ([Res.row 42 5 (.slice (some ⟨g3, 0, none⟩) N c) N (itemE.all (s.items.take a) (qs.take a) ++ itemE.all (s.items.drop (a + 1)) (qs.drop (a + 1)))] :: [Res.row 44 4 (.slice (some ⟨g2, 0, none⟩) M qc) M (rcs RC)] :: itemE.ress (s.items.take a) (qs.take a) :: [strsR qb qd x.body] :: itemE.ress (s.items.drop (a + 1)) (qs.drop (a + 1)) :: [Res.cells L [.int .i64 s.last, .slice (some ⟨g3, 0, none⟩) s.items.length c]] :: Ls)) := ⟨by
      have h0 := S6.out
      unfold itemRw at h0
      rw [show itemE.all (s.items.set a (doneI x k)) qs = itemE.all (s.items.take a) (qs.take a) ++ (itemL (doneI x k) ⟨some ⟨g2, 0, none⟩, qc, qb, qd⟩ ++ itemE.all (s.items.drop (a + 1)) (qs.drop (a + 1))) from all_put HL.out HX.out HQ.out _] at h0
      refine (deleteItem_any _ g3 c s.items.length a (itemE.all (s.items.take a) (qs.take a)) (itemL (doneI x k) ⟨some ⟨g2, 0, none⟩, qc, qb, qd⟩) (itemE.all (s.items.drop (a + 1)) (qs.drop (a + 1))) w0 w2 h0 (items_lenT HL.out (Nat.le_of_lt hik)) rfl hik (items_all_one _ _)).mono ?_
      rintro e w' ⟨rfl, hs⟩
      rw [HN.out] at hs
      exact ⟨by rw [HN.out], hs⟩⟩
    have hwa : IntKind.i64.wrap ((a : Int) + 1) = (a : Int) + 1 := IntWalk.i64_in _ (by omega)
    have u1 := (S6.out.cellsM 5 rfl).c 1 _ rfl
    have ul := (S6.out.cellsM 5 rfl).lt
    go_wp2_with fail
    refine CI.out.mono ?_
    rintro e w3 ⟨rfl, hs⟩
    have S7 : Seal _ := ⟨hs⟩
    clear hs S6 CI u1 ul i3
    have u1 := (S7.out.cellsM 5 rfl).c 1 _ rfl
    have uf := (S7.out.cellsM 5 rfl).f 1 (by simp)
    go_wp2
    have hNn : (s.items.take a ++ s.items.drop (a + 1)).length = N := by rw [← HN.out, List.length_append, List.length_take, List.length_drop, Nat.min_eq_left (by omega)]
    refine bodyPost_end (v := .tuple #[]) (by simp [results, Tryd.results31, go_sem]) rfl ⟨some ⟨g3, 0, none⟩, c, qs.take a ++ qs.drop (a + 1), rfl, by rw [hD.out, hNn, ← HN.out, List.length_append, List.length_take, List.length_drop, HL.out, Nat.min_eq_left (by omega)], ?_⟩
    rw [hD.out]
    have s8 := (S7.out.bring 5 rfl).set 1 (.slice (some ⟨g3, 0, none⟩) N c) (by simp)
    have s9 : Pt w0 (w3.setCell ⟨L, 1, none⟩ (.slice (some ⟨g3, 0, none⟩) N c)) ([Res.cells L [.int .i64 s.last, .slice (some ⟨g3, 0, none⟩) N c]] :: [Res.row 42 5 (.slice (some ⟨g3, 0, none⟩) N c) N (itemE.all (s.items.take a) (qs.take a) ++ itemE.all (s.items.drop (a + 1)) (qs.drop (a + 1)))] :: itemE.ress (s.items.take a) (qs.take a) :: itemE.ress (s.items.drop (a + 1)) (qs.drop (a + 1)) :: Ls) := ((s8.bring 2 rfl).tail.bring 3 rfl).tail
    have ht : (qs.take a).length = (s.items.take a).length := by have := HL.out; simp; omega
    have er : itemsR (some ⟨g3, 0, none⟩) c (s.items.take a ++ s.items.drop (a + 1)) (qs.take a ++ qs.drop (a + 1)) = Res.row 42 5 (.slice (some ⟨g3, 0, none⟩) N c) N (itemE.all (s.items.take a) (qs.take a) ++ itemE.all (s.items.drop (a + 1)) (qs.drop (a + 1))) :: (itemE.ress (s.items.take a) (qs.take a) ++ itemE.ress (s.items.drop (a + 1)) (qs.drop (a + 1))) := by
      unfold itemsR Elem.row
      rw [items_app ht, ress_app ht, hNn]
      rfl
    rw [er, hNn]
    unfold Pt at s9 ⊢
    simpa only [List.flatten_cons, List.append_assoc, List.cons_append, List.nil_append] using s9
  · have hMz : ((M : Int) == 0) = false := by rw [beq_eq_false_iff_ne]; omega
    have hne : RC ≠ [] := by
      intro e
      have h := HML.out
      rw [e] at h
      simp at h
      omega
    have hD : Seal (doneS s a (doneI x k) = ⟨s.last, s.items.set a (doneI x k)⟩) := ⟨by unfold doneS; rw [hy, if_neg hne]⟩
    go_wp2
    refine bodyPost_end (v := .tuple #[]) (by simp [results, Tryd.results31, go_sem]) rfl ⟨some ⟨g3, 0, none⟩, c, qs, rfl, by rw [hD.out, List.length_set]; exact HL.out, ?_⟩
    rw [hD.out, List.length_set]
    have s8 := (S6.out.bring 2 rfl).bring 1 rfl
    have er : Res.row 44 4 (.slice (some ⟨g2, 0, none⟩) M qc) M (rcs RC) = rcptsR (some ⟨g2, 0, none⟩) qc (doneI x k).rc := by
      rw [hy]
      show _ = Res.row 44 4 (.slice (some ⟨g2, 0, none⟩) RC.length qc) RC.length (rcs RC)
      rw [HML.out]
    rw [er] at s8
    exact (Pt.close2 HL.out HX.out HQ.out (doneI x k) s8).bring 1 rfl
end Go.Proofs.YtcaknjdolfheaaaDoor
namespace Go.Proofs.YtcaknjdolfheaaaDoor
open Go Go.RowKit

theorem sum_app {α : Type} (f : α → Nat) (xs ys : List α) : sumN f (xs ++ ys) = sumN f xs + sumN f ys := by
  unfold sumN
  simp
theorem done_small {x : ItemD} {k : Nat} {r : RcptD} (hr : x.rc[k]? = some r) : itemN (doneI x k) ≤ itemN x := by
  have e1 := take_drop_at hr
  have h : sumN rcptN x.rc = sumN rcptN (x.rc.take k) + (rcptN r + sumN rcptN (x.rc.drop (k + 1))) := by
    conv => lhs; rw [e1]
    rw [sum_app]
    unfold sumN
    simp
  have hl : x.rc.length = (x.rc.take k).length + ((x.rc.drop (k + 1)).length + 1) := by
    conv => lhs; rw [e1]
    simp
  unfold doneI itemN
  dsimp only
  rw [rowN_eq, rowN_eq rcptN x.rc, sum_app, List.length_append]
  omega
theorem doneR_sz (s : SpoolD) (i : Int) (u d : ByteArray) (hz : spoolN s ≤ 1048576) : spoolN (doneR s i u d).1 ≤ 1048576 := by
  cases h : spoolB s with
  | false => rw [doneR_bad h]; decide
  | true =>
    cases h1 : doneAt s i u d with
    | none => rw [doneR_none h h1]; exact hz
    | some v =>
      obtain ⟨a, x, k⟩ := v
      rw [doneR_some h h1]
      unfold doneAt at h1
      split at h1
      · cases h1
      · split at h1
        · cases h1
        · rename_i x' hx'
          split at h1
          · cases h1
          · rename_i hf
            simp only [Option.some.injEq, Prod.mk.injEq] at h1
            obtain ⟨ea, ex, ek⟩ := h1
            subst ex
            rw [ea] at hx'
            obtain ⟨r, hr⟩ : ∃ r, x'.rc[k]? = some r := by
              rcases findR_cases (toB1 u d) x'.rc with hno | ⟨k', r, hk', hr, _⟩
              · omega
              · have : k = k' := by omega
                exact ⟨r, this ▸ hr⟩
            have e1 := take_drop_at hx'
            have hs : sumN itemN s.items = sumN itemN (s.items.take a) + (itemN x' + sumN itemN (s.items.drop (a + 1))) := by
              conv => lhs; rw [e1]
              rw [sum_app]
              unfold sumN
              simp
            have hl : s.items.length = (s.items.take a).length + ((s.items.drop (a + 1)).length + 1) := by
              conv => lhs; rw [e1]
              simp
            have hd := done_small hr
            have hk := (List.getElem?_eq_some_iff.1 hx').1
            have hz' : rowN itemN s.items ≤ 1048576 := hz
            rw [rowN_eq, hs] at hz'
            show rowN itemN (doneS s a (doneI x' k)).items ≤ 1048576
            unfold doneS
            dsimp only
            split
            · rw [rowN_eq, sum_app, List.length_append]
              omega
            · rw [List.set_eq_take_append_cons_drop, if_pos hk, rowN_eq, sum_app, List.length_append, List.length_cons]
              have : sumN itemN (doneI x' k :: s.items.drop (a + 1)) = itemN (doneI x' k) + sumN itemN (s.items.drop (a + 1)) := by
                unfold sumN
                simp
              rw [this]
              omega

set_option maxHeartbeats 12800000 in
set_option maxRecDepth 100000 in
theorem implSpoolDone_K (s : SpoolD) (i : Int) (u d : ByteArray) (hz : spoolKZ s) (_ : u.size ≤ 1048576 ∧ d.size ≤ 1048576) (w0 w : World) (Ls : List (List Res)) (hmx : HasMax w) (ps : SpoolP) (j : Nat) (h : Pt w0 w Ls) (hj : Ls[j]? = some (spoolKR s ps)) (hfs : spoolKF s ps) :
    Calls Tryd.prog 8 #[.agg (spoolKV s ps), .int .i64 i, .agg #[.string u, .string d]] w fun e w' => ∃ r, e = .returned (.tuple #[.agg (spoolKV (doneR s i u d).1 r), .bool (doneR s i u d).2]) ∧ spoolKF (doneR s i u d).1 r ∧ St w w' (spoolKR (doneR s i u d).1 r) := by
  have HX : Seal _ := ⟨hmx⟩
  have HS : Seal _ := ⟨h.bring j hj⟩
  have HA : Seal (ItemRow w ps.a s.items) := ⟨spoolK_read hfs (h.nth j hj)⟩
  have HF : Seal _ := ⟨hfs⟩
  have HZ : Seal _ := ⟨hz⟩
  clear h hj hfs hz hmx
  have S0 : Seal (Pt w (((w.alloc (.cells (spoolKV s ps) 25)).alloc (.cells #[.string u, .string d] 27)).alloc (.cells #[.int .i64 0, .slice none 0 0] 25)) [[Res.cells (w.heap.size + 1 + 1) [.int .i64 0, .slice none 0 0]], [Res.cells (w.heap.size + 1) [.string u, .string d]], [Res.cells w.heap.size (spoolKL s ps)]]) := ⟨by
    have h := (((Pt.start w).alloc (spoolKV s ps) 25).alloc #[.string u, .string d] 27).alloc #[.int .i64 0, .slice none 0 0] 25
    simp only [World.size_alloc] at h
    exact h⟩
  go_enter Tryd.func8, Tryd.ntmps8
  go_wp2_with fail
  refine (implSpoolOk_any s ps.a ps.c _ (HX.out.below S0.out.below (Nat.le_refl _)) (HA.out.below itemP_stays S0.out.below (Nat.le_refl _)) HZ.out).mono ?_
  rintro e w1 ⟨rfl, hb⟩
  have S1 : Seal _ := ⟨S0.out.later hb⟩
  clear hb S0
  cases hok : spoolB s
  · have HE : Seal _ := ⟨doneR_bad (i := i) (u := u) (d := d) hok⟩
    have r0 := (S1.out.cellsM 0 rfl).c 0 _ rfl
    have r1 := (S1.out.cellsM 0 rfl).c 1 _ rfl
    have f0 := (S1.out.cellsM 0 rfl).f 0 (by simp)
    have f1 := (S1.out.cellsM 0 rfl).f 1 (by simp)
    clear hok
    go_wp2
    refine bodyPost_ret (v := .tuple #[.agg #[.int .i64 0, .slice none 0 0], .bool false]) (by simp [results, Tryd.results8, go_sem, r0, r1]) rfl ⟨⟨none, 0, []⟩, ret_sb HE.out rfl, by rw [HE.out]; rfl, ?_⟩
    rw [HE.out]
    have s4 := ((S1.out.set 0 (.int .i64 0) (by simp)).set 1 (.slice none 0 0) (by simp)).nothing 42 5
    exact Pt.prefix (As := [[Res.row 42 5 (.slice none 0 0) 0 []]]) s4
  have HO : Seal _ := ⟨hok⟩
  obtain ⟨sm1, sm2, sm3, sm4⟩ := spool_small hok
  clear hok
  have g0 := (S1.out.cellsM 2 rfl).c 0 _ rfl
  have g1 := (S1.out.cellsM 2 rfl).c 1 _ rfl
  go_wp2_with fail
  refine (spoolClone_any _ s ps.a ps.c ps.ps HF.out w0 _ (StX.later HS.out S1.out.below) HZ.out).mono ?_
  rintro e w2 ⟨bo, c, qs, rfl, hqs, hk⟩
  have HQ : Seal _ := ⟨hqs⟩
  have S2 : Seal (Pt w (w2.alloc (.cells #[.int .i64 s.last, .slice bo s.items.length c] 25)) [[Res.cells w2.heap.size [.int .i64 s.last, .slice bo s.items.length c]], itemsR bo c s.items qs, [Res.cells (w.heap.size + 1 + 1) [.int .i64 0, .slice none 0 0]], [Res.cells (w.heap.size + 1) [.string u, .string d]], [Res.cells w.heap.size (spoolKL s ps)]]) := ⟨(Pt.join S1.out hk).alloc #[.int .i64 s.last, .slice bo s.items.length c] 25⟩
  clear hk hqs S1 g0 g1
  have g0 := (S2.out.cellsM 0 rfl).c 0 _ rfl
  have g1 := (S2.out.cellsM 0 rfl).c 1 _ rfl
  have gl := (S2.out.cellsM 0 rfl).lt
  have b0 := (S2.out.cellsM 3 rfl).c 0 _ rfl
  have b1 := (S2.out.cellsM 3 rfl).c 1 _ rfl
  have bl := (S2.out.cellsM 3 rfl).lt
  have HR : Seal (ItemRow (w2.alloc (.cells #[.int .i64 s.last, .slice bo s.items.length c] 25)) bo s.items) := ⟨spoolK_read (s := s) (p := ⟨bo, c, qs⟩) HQ.out (S2.out.nth 1 rfl)⟩
  go_wp2_with fail
  refine (implFind_any s bo c i u d _ HR.out HZ.out).mono ?_
  rintro e w3 ⟨rfl, hb⟩
  have S3 : Seal (Pt w w3 [[Res.cells w2.heap.size [.int .i64 s.last, .slice bo s.items.length c]], itemsR bo c s.items qs, [Res.cells (w.heap.size + 1 + 1) [.int .i64 0, .slice none 0 0]], [Res.cells (w.heap.size + 1) [.string u, .string d]], [Res.cells w.heap.size (spoolKL s ps)]]) := ⟨S2.out.later hb⟩
  clear hb S2 g0 g1 gl b0 b1 bl HR
  rcases findR_cases (idB i) s.items with hno | ⟨a, x, hat, hx, _⟩
  · have HN : Seal (doneAt s i u d = none) := ⟨doneAt_noid hno⟩
    rw [findK_noid hno]
    clear hno
    have HE : Seal _ := ⟨doneR_none HO.out HN.out⟩
    have g0 := (S3.out.cellsM 0 rfl).c 0 _ rfl
    have g1 := (S3.out.cellsM 0 rfl).c 1 _ rfl
    have gl := (S3.out.cellsM 0 rfl).lt
    have r0 := (S3.out.cellsM 2 rfl).c 0 _ rfl
    have r1 := (S3.out.cellsM 2 rfl).c 1 _ rfl
    have f0 := (S3.out.cellsM 2 rfl).f 0 (by simp)
    have f1 := (S3.out.cellsM 2 rfl).f 1 (by simp)
    go_wp2
    refine bodyPost_ret (v := .tuple #[.agg #[.int .i64 s.last, .slice bo s.items.length c], .bool false]) (by simp [results, Tryd.results8, go_sem, r0, r1]) rfl ⟨⟨bo, c, qs⟩, ret_sb HE.out rfl, by rw [HE.out]; exact HQ.out, ?_⟩
    rw [HE.out]
    have s4 := ((S3.out.bring 2 rfl).set 0 (.int .i64 s.last) (by simp)).set 1 (.slice bo s.items.length c) (by simp)
    have s5 := s4.bring 2 rfl
    exact Pt.only (Pt.prefix (As := [itemsR bo c s.items qs]) (Bs := [[Res.cells (w.heap.size + 1 + 1) [.int .i64 s.last, .slice bo s.items.length c]], [Res.cells w2.heap.size [.int .i64 s.last, .slice bo s.items.length c]], [Res.cells (w.heap.size + 1) [.string u, .string d]], [Res.cells w.heap.size (spoolKL s ps)]]) s5)
  rcases findR_cases (toB1 u d) x.rc with hrn | ⟨k, r, hrk, hr, _⟩
  · have HN : Seal (doneAt s i u d = none) := ⟨doneAt_norc hat hx hrn⟩
    rw [findK_norc hat hx hrn]
    clear hat hx hrn
    have HE : Seal _ := ⟨doneR_none HO.out HN.out⟩
    have g0 := (S3.out.cellsM 0 rfl).c 0 _ rfl
    have g1 := (S3.out.cellsM 0 rfl).c 1 _ rfl
    have gl := (S3.out.cellsM 0 rfl).lt
    have r0 := (S3.out.cellsM 2 rfl).c 0 _ rfl
    have r1 := (S3.out.cellsM 2 rfl).c 1 _ rfl
    have f0 := (S3.out.cellsM 2 rfl).f 0 (by simp)
    have f1 := (S3.out.cellsM 2 rfl).f 1 (by simp)
    go_wp2
    refine bodyPost_ret (v := .tuple #[.agg #[.int .i64 s.last, .slice bo s.items.length c], .bool false]) (by simp [results, Tryd.results8, go_sem, r0, r1]) rfl ⟨⟨bo, c, qs⟩, ret_sb HE.out rfl, by rw [HE.out]; exact HQ.out, ?_⟩
    rw [HE.out]
    have s4 := ((S3.out.bring 2 rfl).set 0 (.int .i64 s.last) (by simp)).set 1 (.slice bo s.items.length c) (by simp)
    have s5 := s4.bring 2 rfl
    exact Pt.only (Pt.prefix (As := [itemsR bo c s.items qs]) (Bs := [[Res.cells (w.heap.size + 1 + 1) [.int .i64 s.last, .slice bo s.items.length c]], [Res.cells w2.heap.size [.int .i64 s.last, .slice bo s.items.length c]], [Res.cells (w.heap.size + 1) [.string u, .string d]], [Res.cells w.heap.size (spoolKL s ps)]]) s5)
  rw [findK_at hat hx hrk]
  have HE : Seal (doneR s i u d = (doneS s a (doneI x k), true)) := ⟨doneR_some HO.out (doneAt_at hat hx hrk)⟩
  have hzx : itemN x ≤ 1048576 := (spoolN_parts HZ.out).2 x (List.mem_of_getElem? hx)
  have CR : Seal (Calls Tryd.prog 31 #[.pointer (some ⟨w2.heap.size, 0, none⟩), .int .i64 a, .int .i64 k] w3 fun e w' => ∃ b2 c2 q2, e = .returned (.tuple #[]) ∧ q2.length = (doneS s a (doneI x k)).items.length ∧ Pt w w' ([Res.cells w2.heap.size [.int .i64 s.last, .slice b2 (doneS s a (doneI x k)).items.length c2]] :: itemsR b2 c2 (doneS s a (doneI x k)).items q2 :: [[Res.cells (w.heap.size + 1 + 1) [.int .i64 0, .slice none 0 0]], [Res.cells (w.heap.size + 1) [.string u, .string d]], [Res.cells w.heap.size (spoolKL s ps)]])) := ⟨remove_any s w2.heap.size c bo qs HQ.out (by omega) a k x r hx hr hzx w w3 _ S3.out⟩
  obtain ⟨D, hD⟩ : ∃ D, doneS s a (doneI x k) = D := ⟨_, rfl⟩
  have hDl : D.last = s.last := by rw [← hD]; rfl
  have HDL : Seal _ := ⟨hDl⟩
  rw [hD] at CR HE
  clear hat hx hrk hr hD hDl S3
  go_wp2_with fail
  refine CR.out.mono ?_
  rintro e w4 ⟨b2, c2, q2, rfl, hq2, hs⟩
  have HQ2 : Seal _ := ⟨hq2⟩
  have S4 : Seal (Pt w w4 [[Res.cells w2.heap.size [.int .i64 s.last, .slice b2 D.items.length c2]], itemsR b2 c2 D.items q2, [Res.cells (w.heap.size + 1 + 1) [.int .i64 0, .slice none 0 0]], [Res.cells (w.heap.size + 1) [.string u, .string d]], [Res.cells w.heap.size (spoolKL s ps)]]) := ⟨hs⟩
  clear hs hq2 CR
  have g0 := (S4.out.cellsM 0 rfl).c 0 _ rfl
  have g1 := (S4.out.cellsM 0 rfl).c 1 _ rfl
  have gl := (S4.out.cellsM 0 rfl).lt
  have r0 := (S4.out.cellsM 2 rfl).c 0 _ rfl
  have r1 := (S4.out.cellsM 2 rfl).c 1 _ rfl
  have f0 := (S4.out.cellsM 2 rfl).f 0 (by simp)
  have f1 := (S4.out.cellsM 2 rfl).f 1 (by simp)
  go_wp2
  refine bodyPost_ret (v := .tuple #[.agg #[.int .i64 s.last, .slice b2 D.items.length c2], .bool true]) (by simp [results, Tryd.results8, go_sem, r0, r1]) rfl ⟨⟨b2, c2, q2⟩, ret_sb (D := D) HE.out (by show _ = (#[Value.int .i64 D.last, Value.slice b2 D.items.length c2] : Array Value); rw [HDL.out]), by rw [HE.out]; exact HQ2.out, ?_⟩
  rw [HE.out]
  have s4 := ((S4.out.bring 2 rfl).set 0 (.int .i64 s.last) (by simp)).set 1 (.slice b2 D.items.length c2) (by simp)
  have s5 := s4.bring 2 rfl
  exact Pt.only (Pt.prefix (As := [itemsR b2 c2 D.items q2]) (Bs := [[Res.cells (w.heap.size + 1 + 1) [.int .i64 s.last, .slice b2 D.items.length c2]], [Res.cells w2.heap.size [.int .i64 s.last, .slice b2 D.items.length c2]], [Res.cells (w.heap.size + 1) [.string u, .string d]], [Res.cells w.heap.size (spoolKL s ps)]]) s5)
end Go.Proofs.YtcaknjdolfheaaaDoor
