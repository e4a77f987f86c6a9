/- Contracts: slices.Delete of one element, of rows of a call's own. -/
import Derived.Test.YtfffocfcnigogaaGreatDoorSpoolDoneK
import Derived.Test.YtfffocfcnigogaaGreatDoorRowDelete
import Derived.Deep.RegionHeld3
namespace Go.Proofs.YtfffocfcnigogaaGreatDoor
open Go Go.RowKit

set_option maxHeartbeats 3200000 in
set_option maxRecDepth 100000 in
theorem deleteRcpt_any {X : Nat → Prop} (l : List Res) (g c n i : Nat) (A D B : List Value) (w0 w : World) (h : StX X w0 w (Res.row 105 4 (.slice (some ⟨g, 0, none⟩) n c) n (A ++ (D ++ B)) :: l)) (hA : A.length = i * 4) (hDl : D.length = 4) (hi : i < n) (hone : ∀ u ∈ B, u.oneCell' = true) :
    Calls Tryz.prog 161 #[.slice (some ⟨g, 0, none⟩) n c, .int .i64 i, .int .i64 ((i : Int) + 1)] w fun e w' => e = .returned (.slice (some ⟨g, 0, none⟩) (i + (n - (i + 1))) c) ∧ StX X w0 w' (Res.row 105 4 (.slice (some ⟨g, 0, none⟩) (i + (n - (i + 1))) c) (i + (n - (i + 1))) (A ++ B) :: l) := by
  obtain ⟨i0, hi0, hz0, hz1, hz2⟩ := info_parts infoRcpt
  have HS : Seal _ := ⟨h⟩
  have hrow : w.ownsRow 0 105 4 (.slice (some ⟨g, 0, none⟩) n c) n (A ++ (D ++ B)) := h.head
  have HROW : Seal _ := ⟨hrow⟩
  have hlen : (A ++ (D ++ B)).length = n * 4 := hrow.1
  have hBl : B.length = (n - (i + 1)) * 4 := by
    rw [List.length_append, List.length_append, hA, hDl] at hlen
    omega
  have hnc : n ≤ c := by
    rcases hrow.2 with ⟨_, h0⟩ | ⟨g', c', cur, hv, _, _, hc, _⟩
    · omega
    · simp only [Value.slice.injEq] at hv
      omega
  obtain ⟨Q, hQ, hsrc⟩ : ∃ Q : Addr, (if c = i + 1 then some (⟨g, 0, none⟩ : Addr) else some ⟨g, (i + 1) * 4, none⟩) = some Q ∧ Seal (∀ t u, B[t]? = some u → w.drew.cell? (Q.add t) = some u) := by
    obtain ⟨Q, hQ⟩ : ∃ Q : Addr, (if c = i + 1 then some (⟨g, 0, none⟩ : Addr) else some ⟨g, (i + 1) * 4, none⟩) = some Q := by
      by_cases h : c = i + 1
      · exact ⟨_, if_pos h⟩
      · exact ⟨_, if_neg h⟩
    exact ⟨Q, hQ, ⟨rest_news hrow (i + 1) hi hnc (by rw [← List.append_assoc]) (by rw [List.length_append, hA, hDl]; omega) hQ⟩⟩
  have s1 : Seal (B.length = (n - (i + 1)) * 4) := ⟨hBl⟩
  have s2 : Seal (∀ u ∈ B, u.oneCell' = true) := ⟨hone⟩
  have s3 : Seal (∀ t, t < B.length → (w.drew.cell? ⟨g, 0 + i * 4 + t, none⟩).isSome = true ∧ w.drew.frozen? ⟨g, 0 + i * 4 + t, none⟩ = false) := ⟨fun t ht => by
    have hlt : i * 4 + t < n * 4 := by omega
    rw [Nat.zero_add]
    refine ⟨?_, hrow.frozenAt _⟩
    show (w.cell? _).isSome = true
    rw [hrow.cellAt _ hlt, List.getElem?_eq_getElem (by rw [hlen]; exact hlt)]
    rfl⟩
  obtain ⟨W1, hW1⟩ : ∃ W1, W1 = w.drew.setCells g (0 + i * 4) B := ⟨_, rfl⟩
  have HW : Seal (W1 = w.drew.setCells g (0 + i * 4) B) := ⟨hW1⟩
  have HM : Seal (StX X w0 (W1.setCells g ((i + (n - (i + 1))) * 4) (.agg #[.string ByteArray.empty, .string ByteArray.empty, .int .i64 0, .int .i64 0] : Value).cells.toList) (Res.row 105 4 (.slice (some ⟨g, 0, none⟩) n c) n ((A ++ B) ++ (.agg #[.string ByteArray.empty, .string ByteArray.empty, .int .i64 0, .int .i64 0] : Value).cells.toList) :: l)) := ⟨by
    have hm := StX.moved (Z := (.agg #[.string ByteArray.empty, .string ByteArray.empty, .int .i64 0, .int .i64 0] : Value).cells.toList) (HS.out.later (Below.refl _ w).drew) (by rw [hDl]; rfl)
    rw [hA, hBl] at hm
    rw [hW1, Nat.zero_add, Nat.add_mul]
    exact hm⟩
  have HC : Seal (∀ ty, (Builtin.clear_ #[41] ty #[.slice (some ⟨g, (i + (n - (i + 1))) * 4, none⟩) (n - (i + (n - (i + 1)))) (c - (i + (n - (i + 1))))]).run Tryz.prog W1 = .ok (.tuple #[]) (W1.setCells g ((i + (n - (i + 1))) * 4) (.agg #[.string ByteArray.empty, .string ByteArray.empty, .int .i64 0, .int .i64 0] : Value).cells.toList)) := ⟨fun ty => by
    have hm := StX.moved1 (HS.out.later (Below.refl _ w).drew)
    rw [hA] at hm
    have hr : W1.ownsRow 0 105 4 (.slice (some ⟨g, 0, none⟩) n c) n ((A ++ B) ++ (D ++ B).drop B.length) := by
      rw [hW1, Nat.zero_add]
      exact hm.head
    refine run_clear_one W1 _ 105 ty _ Tryz.underlying41 (fun w => by simp [zeroValue, typeInfo, hi0, hz0]) (by decide) g _ _ _ (by omega) (fun j hj => ?_) (fun j _ => hr.frozenAt _)
    have hj4 : j < 4 := hj
    have hlt : (i + (n - (i + 1))) * 4 + j < n * 4 := by omega
    rw [hr.cellAt _ hlt, List.getElem?_eq_getElem (by rw [hr.1]; exact hlt)]
    rfl⟩
  have hcl := HC.out
  have mixed : Tryz.prog.follows .mixedOrders = true := by kernel_rfl
  have hic : (i : Int) ≤ (c : Int) := by omega
  have hjc : (i : Int) + 1 ≤ (c : Int) := by omega
  have hj0 : (0 : Int) ≤ (i : Int) + 1 := by omega
  have hjn : (i : Int) + 1 ≤ (n : Int) := by omega
  have hne : ¬ (i : Int) = (i : Int) + 1 := by omega
  have hncI : (n : Int) ≤ (c : Int) := by omega
  have hiI : (i : Int) ≤ (n : Int) := by omega
  clear h hrow hlen hBl hone hW1
  go_enter Tryz.func161, Tryz.ntmps161
  go_upto_region 5 with fail
  refine wp_region_held_drew (S := (fun w' => True)) (by kernel_rfl) trivial (fun hHeld => ?_)
  (refine wpAnyH_take (i := 0) (v := ?_) rfl (by kernel_rfl) (by kernel_rfl) (by kernel_rfl) (fun _ _ _ h => h) (Or.inl ⟨by rfl, ?_⟩) (by assumption) ?_; rotate_left; (intro w hSw; (try dsimp only at hSw); go_split_ands; go_simp; first | done | with_reducible rfl); rotate_left; simp only [Act.put, List.getElem_toArray, List.getElem_cons_zero, List.setIfInBounds_toArray, List.set_cons_succ, List.set_cons_zero])
  (refine wpAnyH_take (i := 1) (v := ?_) rfl (by kernel_rfl) (by kernel_rfl) (by kernel_rfl) (fun _ _ _ h => h) (Or.inl ⟨by rfl, ?_⟩) (by assumption) ?_; rotate_left; (intro w hSw; (try dsimp only at hSw); go_split_ands; go_simp; first | done | with_reducible rfl); rotate_left; simp only [Act.put, List.getElem_toArray, List.getElem_cons_succ, List.getElem_cons_zero, List.setIfInBounds_toArray, List.set_cons_succ, List.set_cons_zero])
  (refine wpAnyH_take (i := 2) (v := ?_) rfl (by kernel_rfl) (by kernel_rfl) (by kernel_rfl) (fun _ _ _ h => h) (Or.inl ⟨by rfl, ?_⟩) (by assumption) ?_; rotate_left; (intro w hSw; (try dsimp only at hSw); go_split_ands; go_simp; first | done | with_reducible rfl); rotate_left; simp only [Act.put, List.getElem_toArray, List.getElem_cons_succ, List.getElem_cons_zero, List.setIfInBounds_toArray, List.set_cons_succ, List.set_cons_zero])
  (refine wpAnyH_take (i := 3) (v := ?_) rfl (by kernel_rfl) (by kernel_rfl) (by kernel_rfl) (fun _ _ _ h => h) (Or.inl ⟨by rfl, ?_⟩) (by assumption) ?_; rotate_left; (intro w hSw; (try dsimp only at hSw); go_split_ands; go_simp; first | done | with_reducible rfl); rotate_left; simp only [Act.put, List.getElem_toArray, List.getElem_cons_succ, List.getElem_cons_zero, List.setIfInBounds_toArray, List.set_cons_succ, List.set_cons_zero])
  (refine wpAnyH_take (i := 4) (v := ?_) rfl (by kernel_rfl) (by kernel_rfl) (by kernel_rfl) (fun _ _ _ h => h) (Or.inl ⟨by rfl, ?_⟩) (by assumption) ?_; rotate_left; (intro w hSw; (try dsimp only at hSw); go_split_ands; go_simp; first | done | with_reducible rfl); rotate_left; simp only [Act.put, List.getElem_toArray, List.getElem_cons_succ, List.getElem_cons_zero, List.setIfInBounds_toArray, List.set_cons_succ, List.set_cons_zero])
  (refine wpAnyH_take (i := 5) (v := ?_) rfl (by kernel_rfl) (by kernel_rfl) (by kernel_rfl) (fun _ _ _ h => h) (Or.inl ⟨by rfl, ?_⟩) (by assumption) ?_; rotate_left; (intro w hSw; (try dsimp only at hSw); go_split_ands; go_simp; first | done | with_reducible rfl); rotate_left; simp only [Act.put, List.getElem_toArray, List.getElem_cons_succ, List.getElem_cons_zero, List.setIfInBounds_toArray, List.set_cons_succ, List.set_cons_zero])
  refine wpAnyH_ready (rs := [6]) (by kernel_rfl) (by simp) ?_
  refine AllReadyH.cons rfl (fun K hK => ?_) AllReadyH.nil
  refine step_append_room rfl _ _ 41 rfl 105 i0 4 Tryz.underlying41 hi0 hz1 g 0 i c (by rfl) Q (n - (i + 1)) (c - (i + 1)) B (by rfl) s1.out hsrc.out s2.out (by omega) s3.out ?_
  rw [← HW.out]
  refine hK.out _ _ trivial (fun hHeld => ?_)
  clear hK K
  try simp only [Act.put, List.getElem_toArray, List.getElem_cons_succ, List.getElem_cons_zero, List.setIfInBounds_toArray, List.set_cons_zero, List.set_cons_succ]
  refine wpAnyH_ready (rs := [7]) (by kernel_rfl) (by simp) ?_
  refine AllReadyH.cons rfl (fun K hK => ?_) AllReadyH.nil
  go_simp
  refine hK.out _ _ trivial (fun hHeld => ?_)
  clear hK K
  try simp only [Act.put, List.getElem_toArray, List.getElem_cons_succ, List.getElem_cons_zero, List.setIfInBounds_toArray, List.set_cons_zero, List.set_cons_succ]
  refine wpAnyH_done (by kernel_rfl) ?_ _
  go_wp2
  go_ret
  have hs : StX X w0 (W1.setCells g ((i + (n - (i + 1))) * 4) (.agg #[.string ByteArray.empty, .string ByteArray.empty, .int .i64 0, .int .i64 0] : Value).cells.toList) (Res.row 105 4 (.slice (some ⟨g, 0, none⟩) (i + (n - (i + 1)) + 1) c) (i + (n - (i + 1)) + 1) ((A ++ B) ++ (.agg #[.string ByteArray.empty, .string ByteArray.empty, .int .i64 0, .int .i64 0] : Value).cells.toList) :: l) := by rw [show i + (n - (i + 1)) + 1 = n by omega]; exact HM.out
  exact ⟨rfl, hs.shorter (by rw [List.length_append, hA, s1.out, Nat.add_mul])⟩
set_option maxHeartbeats 3200000 in
set_option maxRecDepth 100000 in
theorem deleteItem_any {X : Nat → Prop} (l : List Res) (g c n i : Nat) (A D B : List Value) (w0 w : World) (h : StX X w0 w (Res.row 43 5 (.slice (some ⟨g, 0, none⟩) n c) n (A ++ (D ++ B)) :: l)) (hA : A.length = i * 5) (hDl : D.length = 5) (hi : i < n) (hone : ∀ u ∈ B, u.oneCell' = true) :
    Calls Tryz.prog 162 #[.slice (some ⟨g, 0, none⟩) n c, .int .i64 i, .int .i64 ((i : Int) + 1)] w fun e w' => e = .returned (.slice (some ⟨g, 0, none⟩) (i + (n - (i + 1))) c) ∧ StX X w0 w' (Res.row 43 5 (.slice (some ⟨g, 0, none⟩) (i + (n - (i + 1))) c) (i + (n - (i + 1))) (A ++ B) :: l) := by
  obtain ⟨i0, hi0, hz0, hz1, hz2⟩ := info_parts infoItem
  have HS : Seal _ := ⟨h⟩
  have hrow : w.ownsRow 0 43 5 (.slice (some ⟨g, 0, none⟩) n c) n (A ++ (D ++ B)) := h.head
  have HROW : Seal _ := ⟨hrow⟩
  have hlen : (A ++ (D ++ B)).length = n * 5 := hrow.1
  have hBl : B.length = (n - (i + 1)) * 5 := by
    rw [List.length_append, List.length_append, hA, hDl] at hlen
    omega
  have hnc : n ≤ c := by
    rcases hrow.2 with ⟨_, h0⟩ | ⟨g', c', cur, hv, _, _, hc, _⟩
    · omega
    · simp only [Value.slice.injEq] at hv
      omega
  obtain ⟨Q, hQ, hsrc⟩ : ∃ Q : Addr, (if c = i + 1 then some (⟨g, 0, none⟩ : Addr) else some ⟨g, (i + 1) * 5, none⟩) = some Q ∧ Seal (∀ t u, B[t]? = some u → w.drew.cell? (Q.add t) = some u) := by
    obtain ⟨Q, hQ⟩ : ∃ Q : Addr, (if c = i + 1 then some (⟨g, 0, none⟩ : Addr) else some ⟨g, (i + 1) * 5, none⟩) = some Q := by
      by_cases h : c = i + 1
      · exact ⟨_, if_pos h⟩
      · exact ⟨_, if_neg h⟩
    exact ⟨Q, hQ, ⟨rest_news hrow (i + 1) hi hnc (by rw [← List.append_assoc]) (by rw [List.length_append, hA, hDl]; omega) hQ⟩⟩
  have s1 : Seal (B.length = (n - (i + 1)) * 5) := ⟨hBl⟩
  have s2 : Seal (∀ u ∈ B, u.oneCell' = true) := ⟨hone⟩
  have s3 : Seal (∀ t, t < B.length → (w.drew.cell? ⟨g, 0 + i * 5 + t, none⟩).isSome = true ∧ w.drew.frozen? ⟨g, 0 + i * 5 + t, none⟩ = false) := ⟨fun t ht => by
    have hlt : i * 5 + t < n * 5 := by omega
    rw [Nat.zero_add]
    refine ⟨?_, hrow.frozenAt _⟩
    show (w.cell? _).isSome = true
    rw [hrow.cellAt _ hlt, List.getElem?_eq_getElem (by rw [hlen]; exact hlt)]
    rfl⟩
  obtain ⟨W1, hW1⟩ : ∃ W1, W1 = w.drew.setCells g (0 + i * 5) B := ⟨_, rfl⟩
  have HW : Seal (W1 = w.drew.setCells g (0 + i * 5) B) := ⟨hW1⟩
  have HM : Seal (StX X w0 (W1.setCells g ((i + (n - (i + 1))) * 5) (.agg #[.int .i64 0, .string ByteArray.empty, .string ByteArray.empty, .slice none 0 0, .slice none 0 0] : Value).cells.toList) (Res.row 43 5 (.slice (some ⟨g, 0, none⟩) n c) n ((A ++ B) ++ (.agg #[.int .i64 0, .string ByteArray.empty, .string ByteArray.empty, .slice none 0 0, .slice none 0 0] : Value).cells.toList) :: l)) := ⟨by
    have hm := StX.moved (Z := (.agg #[.int .i64 0, .string ByteArray.empty, .string ByteArray.empty, .slice none 0 0, .slice none 0 0] : Value).cells.toList) (HS.out.later (Below.refl _ w).drew) (by rw [hDl]; rfl)
    rw [hA, hBl] at hm
    rw [hW1, Nat.zero_add, Nat.add_mul]
    exact hm⟩
  have HC : Seal (∀ ty, (Builtin.clear_ #[23] ty #[.slice (some ⟨g, (i + (n - (i + 1))) * 5, none⟩) (n - (i + (n - (i + 1)))) (c - (i + (n - (i + 1))))]).run Tryz.prog W1 = .ok (.tuple #[]) (W1.setCells g ((i + (n - (i + 1))) * 5) (.agg #[.int .i64 0, .string ByteArray.empty, .string ByteArray.empty, .slice none 0 0, .slice none 0 0] : Value).cells.toList)) := ⟨fun ty => by
    have hm := StX.moved1 (HS.out.later (Below.refl _ w).drew)
    rw [hA] at hm
    have hr : W1.ownsRow 0 43 5 (.slice (some ⟨g, 0, none⟩) n c) n ((A ++ B) ++ (D ++ B).drop B.length) := by
      rw [hW1, Nat.zero_add]
      exact hm.head
    refine run_clear_one W1 _ 43 ty _ Tryz.underlying23 (fun w => by simp [zeroValue, typeInfo, hi0, hz0]) (by decide) g _ _ _ (by omega) (fun j hj => ?_) (fun j _ => hr.frozenAt _)
    have hj4 : j < 5 := hj
    have hlt : (i + (n - (i + 1))) * 5 + j < n * 5 := by omega
    rw [hr.cellAt _ hlt, List.getElem?_eq_getElem (by rw [hr.1]; exact hlt)]
    rfl⟩
  have hcl := HC.out
  have mixed : Tryz.prog.follows .mixedOrders = true := by kernel_rfl
  have hic : (i : Int) ≤ (c : Int) := by omega
  have hjc : (i : Int) + 1 ≤ (c : Int) := by omega
  have hj0 : (0 : Int) ≤ (i : Int) + 1 := by omega
  have hjn : (i : Int) + 1 ≤ (n : Int) := by omega
  have hne : ¬ (i : Int) = (i : Int) + 1 := by omega
  have hncI : (n : Int) ≤ (c : Int) := by omega
  have hiI : (i : Int) ≤ (n : Int) := by omega
  clear h hrow hlen hBl hone hW1
  go_enter Tryz.func162, Tryz.ntmps162
  go_upto_region 5 with fail
  refine wp_region_held_drew (S := (fun w' => True)) (by kernel_rfl) trivial (fun hHeld => ?_)
  (refine wpAnyH_take (i := 0) (v := ?_) rfl (by kernel_rfl) (by kernel_rfl) (by kernel_rfl) (fun _ _ _ h => h) (Or.inl ⟨by rfl, ?_⟩) (by assumption) ?_; rotate_left; (intro w hSw; (try dsimp only at hSw); go_split_ands; go_simp; first | done | with_reducible rfl); rotate_left; simp only [Act.put, List.getElem_toArray, List.getElem_cons_zero, List.setIfInBounds_toArray, List.set_cons_succ, List.set_cons_zero])
  (refine wpAnyH_take (i := 1) (v := ?_) rfl (by kernel_rfl) (by kernel_rfl) (by kernel_rfl) (fun _ _ _ h => h) (Or.inl ⟨by rfl, ?_⟩) (by assumption) ?_; rotate_left; (intro w hSw; (try dsimp only at hSw); go_split_ands; go_simp; first | done | with_reducible rfl); rotate_left; simp only [Act.put, List.getElem_toArray, List.getElem_cons_succ, List.getElem_cons_zero, List.setIfInBounds_toArray, List.set_cons_succ, List.set_cons_zero])
  (refine wpAnyH_take (i := 2) (v := ?_) rfl (by kernel_rfl) (by kernel_rfl) (by kernel_rfl) (fun _ _ _ h => h) (Or.inl ⟨by rfl, ?_⟩) (by assumption) ?_; rotate_left; (intro w hSw; (try dsimp only at hSw); go_split_ands; go_simp; first | done | with_reducible rfl); rotate_left; simp only [Act.put, List.getElem_toArray, List.getElem_cons_succ, List.getElem_cons_zero, List.setIfInBounds_toArray, List.set_cons_succ, List.set_cons_zero])
  (refine wpAnyH_take (i := 3) (v := ?_) rfl (by kernel_rfl) (by kernel_rfl) (by kernel_rfl) (fun _ _ _ h => h) (Or.inl ⟨by rfl, ?_⟩) (by assumption) ?_; rotate_left; (intro w hSw; (try dsimp only at hSw); go_split_ands; go_simp; first | done | with_reducible rfl); rotate_left; simp only [Act.put, List.getElem_toArray, List.getElem_cons_succ, List.getElem_cons_zero, List.setIfInBounds_toArray, List.set_cons_succ, List.set_cons_zero])
  (refine wpAnyH_take (i := 4) (v := ?_) rfl (by kernel_rfl) (by kernel_rfl) (by kernel_rfl) (fun _ _ _ h => h) (Or.inl ⟨by rfl, ?_⟩) (by assumption) ?_; rotate_left; (intro w hSw; (try dsimp only at hSw); go_split_ands; go_simp; first | done | with_reducible rfl); rotate_left; simp only [Act.put, List.getElem_toArray, List.getElem_cons_succ, List.getElem_cons_zero, List.setIfInBounds_toArray, List.set_cons_succ, List.set_cons_zero])
  (refine wpAnyH_take (i := 5) (v := ?_) rfl (by kernel_rfl) (by kernel_rfl) (by kernel_rfl) (fun _ _ _ h => h) (Or.inl ⟨by rfl, ?_⟩) (by assumption) ?_; rotate_left; (intro w hSw; (try dsimp only at hSw); go_split_ands; go_simp; first | done | with_reducible rfl); rotate_left; simp only [Act.put, List.getElem_toArray, List.getElem_cons_succ, List.getElem_cons_zero, List.setIfInBounds_toArray, List.set_cons_succ, List.set_cons_zero])
  refine wpAnyH_ready (rs := [6]) (by kernel_rfl) (by simp) ?_
  refine AllReadyH.cons rfl (fun K hK => ?_) AllReadyH.nil
  refine step_append_room rfl _ _ 23 rfl 43 i0 5 Tryz.underlying23 hi0 hz1 g 0 i c (by rfl) Q (n - (i + 1)) (c - (i + 1)) B (by rfl) s1.out hsrc.out s2.out (by omega) s3.out ?_
  rw [← HW.out]
  refine hK.out _ _ trivial (fun hHeld => ?_)
  clear hK K
  try simp only [Act.put, List.getElem_toArray, List.getElem_cons_succ, List.getElem_cons_zero, List.setIfInBounds_toArray, List.set_cons_zero, List.set_cons_succ]
  refine wpAnyH_ready (rs := [7]) (by kernel_rfl) (by simp) ?_
  refine AllReadyH.cons rfl (fun K hK => ?_) AllReadyH.nil
  go_simp
  refine hK.out _ _ trivial (fun hHeld => ?_)
  clear hK K
  try simp only [Act.put, List.getElem_toArray, List.getElem_cons_succ, List.getElem_cons_zero, List.setIfInBounds_toArray, List.set_cons_zero, List.set_cons_succ]
  refine wpAnyH_done (by kernel_rfl) ?_ _
  go_wp2
  go_ret
  have hs : StX X w0 (W1.setCells g ((i + (n - (i + 1))) * 5) (.agg #[.int .i64 0, .string ByteArray.empty, .string ByteArray.empty, .slice none 0 0, .slice none 0 0] : Value).cells.toList) (Res.row 43 5 (.slice (some ⟨g, 0, none⟩) (i + (n - (i + 1)) + 1) c) (i + (n - (i + 1)) + 1) ((A ++ B) ++ (.agg #[.int .i64 0, .string ByteArray.empty, .string ByteArray.empty, .slice none 0 0, .slice none 0 0] : Value).cells.toList) :: l) := by rw [show i + (n - (i + 1)) + 1 = n by omega]; exact HM.out
  exact ⟨rfl, hs.shorter (by rw [List.length_append, hA, s1.out, Nat.add_mul])⟩
end Go.Proofs.YtfffocfcnigogaaGreatDoor
