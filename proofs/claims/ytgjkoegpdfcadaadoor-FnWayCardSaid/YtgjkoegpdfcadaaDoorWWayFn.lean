/- The walk of FnWay. -/
import Derived.Test.YtgjkoegpdfcadaaDoorDrawWayOf
import Derived.Test.YtgjkoegpdfcadaaDoorWayL
import Derived.Test.YtgjkoegpdfcadaaDoorSpoolOne
import Derived.Deep.RegionHeld3
namespace Go.Proofs.YtgjkoegpdfcadaaDoor
open Go Go.RowKit

set_option maxHeartbeats 16000000 in
set_option maxRecDepth 100000 in
theorem wFnWay.walk (ao : Option Addr) (len cap : Nat) (w : World) (hr : ByteRow w ao len) (hl : len ≤ cap) (hc : cap ≤ maxLen) (hm : HasMax w) :
    Calls Tryd.prog 3 #[.slice ao len cap] w fun e w' => e = .returned (.bool true) ∧ Below w.heap.size w w' := by
  have hc' := hc
  unfold maxLen at hc'
  by_cases hbig : 1048576 < len
  · clear hr
    go_enter Tryd.func3, Tryd.ntmps3
    go_wp2
    go_ret
    exact ⟨rfl, Below.refl _ _⟩
  have CD : Seal _ := ⟨drawWayOf_any ao len cap w hr hl hc⟩
  have HM0 : Seal _ := ⟨hm⟩
  clear hr hc hm
  go_enter Tryd.func3, Tryd.ntmps3
  go_wp2_with fail
  refine CD.out.mono ?_
  rintro e w1 ⟨c, g1, c1, g2, c2, d, rfl, hat, hsz, hd, b1⟩
  obtain ⟨a1, ha1⟩ : ∃ a1 : Option Addr, some ⟨g1, 0, none⟩ = a1 := ⟨_, rfl⟩
  obtain ⟨a2, ha2⟩ : ∃ a2 : Option Addr, some ⟨g2, 0, none⟩ = a2 := ⟨_, rfl⟩
  rw [ha1, ha2] at hat ⊢
  clear ha1 ha2 g1 g2
  have bb : Below w1.heap.size w1 (w1.alloc (.cells (confV c a1 c1 a2 c2) 26)) := (Below.refl _ _).alloc (Nat.le_refl _) _
  have K1 : Seal _ := ⟨CellsM.new w1 (confV c a1 c1 a2 c2) 26⟩
  have A1 : Seal _ := ⟨hat.later bb⟩
  have B1 : Seal _ := ⟨b1.trans (bb.mono b1.size)⟩
  have SZ : Seal (ConfSz 1048576 c) := ⟨⟨Nat.le_trans hsz.nm (by omega), Nat.le_trans hsz.owl (by omega), fun x hx => Nat.le_trans (hsz.ows x hx) (by omega), Nat.le_trans hsz.wal (by omega), fun p hp => ⟨Nat.le_trans (hsz.was p hp).1 (by omega), Nat.le_trans (hsz.was p hp).2 (by omega)⟩⟩⟩
  have z1 := hsz.owl
  have z2 := hsz.wal
  have HM1 : Seal _ := ⟨HM0.out.below B1.out (Nat.le_refl _)⟩
  obtain ⟨t, ht⟩ : ∃ t, wayB c d = t := ⟨_, rfl⟩
  have HT : Seal _ := ⟨ht⟩
  clear CD hat hsz b1 bb ht HM0
  go_wp2_with fail
  obtain ⟨M, hM⟩ : ∃ M, w1.heap.size = M := ⟨_, rfl⟩
  simp only [hM] at *
  generalize w1.alloc (.cells (confV c a1 c1 a2 c2) 26) = W1 at *
  refine (implWayOf_any c a1 c1 a2 c2 d _ HM1.out A1.out SZ.out (by omega)).mono ?_
  rintro e W ⟨rfl, hb2⟩
  rw [HT.out]
  have K2 := K1.out.later hb2
  have HA : Seal _ := ⟨A1.out.later hb2⟩
  have B2 : Seal _ := ⟨B1.out.trans (hb2.mono B1.out.size)⟩
  have HM : Seal _ := ⟨HM1.out.below hb2 (Nat.le_refl _)⟩
  have g0 := K2.c 0 _ rfl
  have g1 := K2.c 1 _ rfl
  have g2 := K2.c 2 _ rfl
  clear K2 hb2 K1 A1 B1 HM1
  go_wp2_with fail
  cases hv : confB c
  · have HV : Seal _ := ⟨hv⟩
    clear hv
    refine wp_region_held_drew (S := (fun w' => w'.cell? ⟨M, 0, none⟩ = some (.string c.name) ∧ w'.cell? ⟨M, 1, none⟩ = some (.slice a1 c.own.length c1) ∧ w'.cell? ⟨M, 2, none⟩ = some (.slice a2 c.ways.length c2) ∧ Below W.heap.size W w')) (by kernel_rfl) ⟨g0, g1, g2, (Below.refl _ _).drew⟩ (fun hHeld => ?_)
    (refine wpAnyH_take (i := 0) (v := ?_) rfl (by kernel_rfl) (by kernel_rfl) (by kernel_rfl) (fun _ _ _ h => h) (Or.inl ⟨by rfl, ?_⟩) (by assumption) ?_; rotate_left; (intro w hSw; (try dsimp only at hSw); go_split_ands; go_simp; first | done | with_reducible rfl); rotate_left; simp only [Act.put, List.getElem_toArray, List.getElem_cons_zero, List.setIfInBounds_toArray, List.set_cons_succ, List.set_cons_zero])
    (refine wpAnyH_take (i := 1) (v := ?_) rfl (by kernel_rfl) (by kernel_rfl) (by kernel_rfl) (fun _ _ _ h => h) (Or.inl ⟨by rfl, ?_⟩) (by assumption) ?_; rotate_left; (intro w hSw; (try dsimp only at hSw); go_split_ands; go_simp; first | done | with_reducible rfl); rotate_left; simp only [Act.put, List.getElem_toArray, List.getElem_cons_succ, List.getElem_cons_zero, List.setIfInBounds_toArray, List.set_cons_succ, List.set_cons_zero])
    (refine wpAnyH_take (i := 2) (v := ?_) rfl (by kernel_rfl) (by kernel_rfl) (by kernel_rfl) (fun _ _ _ h => h) (Or.inl ⟨by rfl, ?_⟩) (by assumption) ?_; rotate_left; (intro w hSw; (try dsimp only at hSw); go_split_ands; go_simp; first | done | with_reducible rfl); rotate_left; simp only [Act.put, List.getElem_toArray, List.getElem_cons_succ, List.getElem_cons_zero, List.setIfInBounds_toArray, List.set_cons_succ, List.set_cons_zero])
    refine wpAnyH_ready (rs := [3]) (by kernel_rfl) (by simp) ?_
    refine AllReadyH.cons rfl (fun K hK => ?_) AllReadyH.nil
    try dsimp only at hHeld
    go_split_ands
    go_simp
    refine (specWayOf_any c a1 c1 a2 c2 d _ (HA.out.later (by assumption : Below W.heap.size W _)) SZ.out (by omega)).mono ?_
    rintro e v3 ⟨rfl, hb3⟩
    rw [HT.out]
    refine hK.out _ _ ⟨heldc (by assumption) hb3, heldc (by assumption) hb3, heldc (by assumption) hb3, (by assumption : Below W.heap.size W _).trans (hb3.mono (by assumption : Below W.heap.size W _).size)⟩ (fun hHeld => ?_)
    clear hK K
    try simp only [Act.put, List.setIfInBounds_toArray, List.set_cons_zero, List.set_cons_succ]
    (refine wpAnyH_take (i := 4) (v := ?_) rfl (by kernel_rfl) (by kernel_rfl) (by kernel_rfl) (fun _ _ _ h => h) (Or.inl ⟨by rfl, ?_⟩) (by assumption) ?_; rotate_left; (intro w hSw; (try dsimp only at hSw); go_split_ands; go_simp; first | done | with_reducible rfl); rotate_left; simp only [Act.put, List.getElem_toArray, List.getElem_cons_succ, List.getElem_cons_zero, List.setIfInBounds_toArray, List.set_cons_succ, List.set_cons_zero])
    (refine wpAnyH_take (i := 5) (v := ?_) rfl (by kernel_rfl) (by kernel_rfl) (by kernel_rfl) (fun _ _ _ h => h) (Or.inl ⟨by rfl, ?_⟩) (by assumption) ?_; rotate_left; (intro w hSw; (try dsimp only at hSw); go_split_ands; go_simp; first | done | with_reducible rfl); rotate_left; simp only [Act.put, List.getElem_toArray, List.getElem_cons_succ, List.getElem_cons_zero, List.setIfInBounds_toArray, List.set_cons_succ, List.set_cons_zero])
    (refine wpAnyH_take (i := 6) (v := ?_) rfl (by kernel_rfl) (by kernel_rfl) (by kernel_rfl) (fun _ _ _ h => h) (Or.inl ⟨by rfl, ?_⟩) (by assumption) ?_; rotate_left; (intro w hSw; (try dsimp only at hSw); go_split_ands; go_simp; first | done | with_reducible rfl); rotate_left; simp only [Act.put, List.getElem_toArray, List.getElem_cons_succ, List.getElem_cons_zero, List.setIfInBounds_toArray, List.set_cons_succ, List.set_cons_zero])
    (refine wpAnyH_take (i := 8) (v := ?_) rfl (by kernel_rfl) (by kernel_rfl) (by kernel_rfl) (fun _ _ _ h => h) (Or.inl ⟨by rfl, ?_⟩) (by assumption) ?_; rotate_left; (intro w hSw; (try dsimp only at hSw); go_split_ands; go_simp; first | done | with_reducible rfl); rotate_left; simp only [Act.put, List.getElem_toArray, List.getElem_cons_succ, List.getElem_cons_zero, List.setIfInBounds_toArray, List.set_cons_succ, List.set_cons_zero])
    refine wpAnyH_ready (rs := [7]) (by kernel_rfl) (by simp) ?_
    refine AllReadyH.cons rfl (fun K hK => ?_) AllReadyH.nil
    try dsimp only at hHeld
    go_split_ands
    go_simp
    refine (implConfOk_any c a1 c1 a2 c2 _ (HM.out.below (by assumption : Below W.heap.size W _) (Nat.le_refl _)) (HA.out.later (by assumption : Below W.heap.size W _)) SZ.out).mono ?_
    rintro e v7 ⟨rfl, hb7⟩
    rw [HV.out]
    refine hK.out _ _ ⟨heldc (by assumption) hb7, heldc (by assumption) hb7, heldc (by assumption) hb7, (by assumption : Below W.heap.size W _).trans (hb7.mono (by assumption : Below W.heap.size W _).size)⟩ (fun hHeld => ?_)
    clear hK K
    try simp only [Act.put, List.setIfInBounds_toArray, List.set_cons_zero, List.set_cons_succ]
    refine wpAnyH_ready (rs := [9]) (by kernel_rfl) (by simp) ?_
    refine AllReadyH.cons rfl (fun K hK => ?_) AllReadyH.nil
    try dsimp only at hHeld
    go_split_ands
    go_simp
    refine (specConfOk_any c a1 c1 a2 c2 _ (HA.out.later (by assumption : Below W.heap.size W _)) SZ.out).mono ?_
    rintro e v9 ⟨rfl, hb9⟩
    rw [HV.out]
    refine hK.out _ _ ⟨heldc (by assumption) hb9, heldc (by assumption) hb9, heldc (by assumption) hb9, (by assumption : Below W.heap.size W _).trans (hb9.mono (by assumption : Below W.heap.size W _).size)⟩ (fun hHeld => ?_)
    clear hK K
    try simp only [Act.put, List.setIfInBounds_toArray, List.set_cons_zero, List.set_cons_succ]
    (refine wpAnyH_take (i := 10) (v := ?_) rfl (by kernel_rfl) (by kernel_rfl) (by kernel_rfl) (fun _ _ _ h => h) (Or.inl ⟨by rfl, ?_⟩) (by assumption) ?_; rotate_left; (intro w hSw; (try dsimp only at hSw); go_split_ands; go_simp; first | done | with_reducible rfl); rotate_left; simp only [Act.put, List.getElem_toArray, List.getElem_cons_succ, List.getElem_cons_zero, List.setIfInBounds_toArray, List.set_cons_succ, List.set_cons_zero])
    (refine wpAnyH_take (i := 11) (v := ?_) rfl (by kernel_rfl) (by kernel_rfl) (by kernel_rfl) (fun _ _ _ h => h) (Or.inl ⟨by rfl, ?_⟩) (by assumption) ?_; rotate_left; (intro w hSw; (try dsimp only at hSw); go_split_ands; go_simp; first | done | with_reducible rfl); rotate_left; simp only [Act.put, List.getElem_toArray, List.getElem_cons_succ, List.getElem_cons_zero, List.setIfInBounds_toArray, List.set_cons_succ, List.set_cons_zero])
    (refine wpAnyH_take (i := 12) (v := ?_) rfl (by kernel_rfl) (by kernel_rfl) (by kernel_rfl) (fun _ _ _ h => h) (Or.inl ⟨by rfl, ?_⟩) (by assumption) ?_; rotate_left; (intro w hSw; (try dsimp only at hSw); go_split_ands; go_simp; first | done | with_reducible rfl); rotate_left; simp only [Act.put, List.getElem_toArray, List.getElem_cons_succ, List.getElem_cons_zero, List.setIfInBounds_toArray, List.set_cons_succ, List.set_cons_zero])
    (refine wpAnyH_take (i := 13) (v := ?_) rfl (by kernel_rfl) (by kernel_rfl) (by kernel_rfl) (fun _ _ _ h => h) (Or.inl ⟨by rfl, ?_⟩) (by assumption) ?_; rotate_left; (intro w hSw; (try dsimp only at hSw); go_split_ands; go_simp; first | done | with_reducible rfl); rotate_left; simp only [Act.put, List.getElem_toArray, List.getElem_cons_succ, List.getElem_cons_zero, List.setIfInBounds_toArray, List.set_cons_succ, List.set_cons_zero])
    refine wpAnyH_ready (rs := [14]) (by kernel_rfl) (by simp) ?_
    refine AllReadyH.cons rfl (fun K hK => ?_) AllReadyH.nil
    try dsimp only at hHeld
    go_split_ands
    go_simp
    refine (implConfOk_any c a1 c1 a2 c2 _ (HM.out.below (by assumption : Below W.heap.size W _) (Nat.le_refl _)) (HA.out.later (by assumption : Below W.heap.size W _)) SZ.out).mono ?_
    rintro e v14 ⟨rfl, hb14⟩
    rw [HV.out]
    refine hK.out _ _ ⟨heldc (by assumption) hb14, heldc (by assumption) hb14, heldc (by assumption) hb14, (by assumption : Below W.heap.size W _).trans (hb14.mono (by assumption : Below W.heap.size W _).size)⟩ (fun hHeld => ?_)
    clear hK K
    try simp only [Act.put, List.setIfInBounds_toArray, List.set_cons_zero, List.set_cons_succ]
    (refine wpAnyH_take (i := 15) (v := ?_) rfl (by kernel_rfl) (by kernel_rfl) (by kernel_rfl) (fun _ _ _ h => h) (Or.inl ⟨by rfl, ?_⟩) (by assumption) ?_; rotate_left; (intro w hSw; (try dsimp only at hSw); go_split_ands; go_simp; first | done | with_reducible rfl); rotate_left; simp only [Act.put, List.getElem_toArray, List.getElem_cons_succ, List.getElem_cons_zero, List.setIfInBounds_toArray, List.set_cons_succ, List.set_cons_zero])
    (refine wpAnyH_take (i := 16) (v := ?_) rfl (by kernel_rfl) (by kernel_rfl) (by kernel_rfl) (fun _ _ _ h => h) (Or.inl ⟨by rfl, ?_⟩) (by assumption) ?_; rotate_left; (intro w hSw; (try dsimp only at hSw); go_split_ands; go_simp; first | done | with_reducible rfl); rotate_left; simp only [Act.put, List.getElem_toArray, List.getElem_cons_succ, List.getElem_cons_zero, List.setIfInBounds_toArray, List.set_cons_succ, List.set_cons_zero])
    (refine wpAnyH_take (i := 17) (v := ?_) rfl (by kernel_rfl) (by kernel_rfl) (by kernel_rfl) (fun _ _ _ h => h) (Or.inl ⟨by rfl, ?_⟩) (by assumption) ?_; rotate_left; (intro w hSw; (try dsimp only at hSw); go_split_ands; go_simp; first | done | with_reducible rfl); rotate_left; simp only [Act.put, List.getElem_toArray, List.getElem_cons_succ, List.getElem_cons_zero, List.setIfInBounds_toArray, List.set_cons_succ, List.set_cons_zero])
    (refine wpAnyH_take (i := 18) (v := undef) rfl (by kernel_rfl) (by kernel_rfl) (by kernel_rfl) (fun _ _ _ h => h) (Or.inr ⟨by rfl, rfl⟩) (by assumption) ?_; simp only [Act.put, List.getElem_toArray, List.getElem_cons_succ, List.getElem_cons_zero, List.setIfInBounds_toArray, List.set_cons_succ, List.set_cons_zero])
    refine wpAnyH_ready (rs := [19]) (by kernel_rfl) (by simp) ?_
    refine AllReadyH.cons rfl (fun K hK => ?_) AllReadyH.nil
    go_simp
    refine hK.out _ _ (by assumption) (fun hHeld => ?_)
    clear hK K
    try simp only [Act.put, List.getElem_toArray, List.getElem_cons_succ, List.getElem_cons_zero, List.setIfInBounds_toArray, List.set_cons_zero, List.set_cons_succ]
    (refine wpAnyH_take (i := 20) (v := undef) rfl (by kernel_rfl) (by kernel_rfl) (by kernel_rfl) (fun _ _ _ h => h) (Or.inr ⟨by rfl, rfl⟩) (by assumption) ?_; simp only [Act.put, List.getElem_toArray, List.getElem_cons_succ, List.getElem_cons_zero, List.setIfInBounds_toArray, List.set_cons_succ, List.set_cons_zero])
    (refine wpAnyH_take (i := 21) (v := ?_) rfl (by kernel_rfl) (by kernel_rfl) (by kernel_rfl) (fun _ _ _ h => h) (Or.inl ⟨by rfl, ?_⟩) (by assumption) ?_; rotate_left; (intro w hSw; (try dsimp only at hSw); go_split_ands; go_simp; first | done | with_reducible rfl); rotate_left; simp only [Act.put, List.getElem_toArray, List.getElem_cons_succ, List.getElem_cons_zero, List.setIfInBounds_toArray, List.set_cons_succ, List.set_cons_zero])
    refine wpAnyH_done (by kernel_rfl) ?_ _
    try dsimp only at hHeld
    obtain ⟨q0, q1, q2, hbx⟩ := hHeld
    go_wp2_with fail
    refine wp_region_held_drew (S := (fun w' => w'.cell? ⟨M, 0, none⟩ = some (.string c.name) ∧ w'.cell? ⟨M, 1, none⟩ = some (.slice a1 c.own.length c1) ∧ w'.cell? ⟨M, 2, none⟩ = some (.slice a2 c.ways.length c2) ∧ Below W.heap.size W w')) (by kernel_rfl) ⟨q0, q1, q2, hbx.drew⟩ (fun hHeld => ?_)
    (refine wpAnyH_take (i := 0) (v := ?_) rfl (by kernel_rfl) (by kernel_rfl) (by kernel_rfl) (fun _ _ _ h => h) (Or.inl ⟨by rfl, ?_⟩) (by assumption) ?_; rotate_left; (intro w hSw; (try dsimp only at hSw); go_split_ands; go_simp; first | done | with_reducible rfl); rotate_left; simp only [Act.put, List.getElem_toArray, List.getElem_cons_zero, List.setIfInBounds_toArray, List.set_cons_succ, List.set_cons_zero])
    (refine wpAnyH_take (i := 1) (v := ?_) rfl (by kernel_rfl) (by kernel_rfl) (by kernel_rfl) (fun _ _ _ h => h) (Or.inl ⟨by rfl, ?_⟩) (by assumption) ?_; rotate_left; (intro w hSw; (try dsimp only at hSw); go_split_ands; go_simp; first | done | with_reducible rfl); rotate_left; simp only [Act.put, List.getElem_toArray, List.getElem_cons_succ, List.getElem_cons_zero, List.setIfInBounds_toArray, List.set_cons_succ, List.set_cons_zero])
    (refine wpAnyH_take (i := 2) (v := ?_) rfl (by kernel_rfl) (by kernel_rfl) (by kernel_rfl) (fun _ _ _ h => h) (Or.inl ⟨by rfl, ?_⟩) (by assumption) ?_; rotate_left; (intro w hSw; (try dsimp only at hSw); go_split_ands; go_simp; first | done | with_reducible rfl); rotate_left; simp only [Act.put, List.getElem_toArray, List.getElem_cons_succ, List.getElem_cons_zero, List.setIfInBounds_toArray, List.set_cons_succ, List.set_cons_zero])
    refine wpAnyH_ready (rs := [3]) (by kernel_rfl) (by simp) ?_
    refine AllReadyH.cons rfl (fun K hK => ?_) AllReadyH.nil
    try dsimp only at hHeld
    go_split_ands
    go_simp
    refine (specWayOf_any c a1 c1 a2 c2 d _ (HA.out.later (by assumption : Below W.heap.size W _)) SZ.out (by omega)).mono ?_
    rintro e v3 ⟨rfl, hb3⟩
    rw [HT.out]
    refine hK.out _ _ ⟨heldc (by assumption) hb3, heldc (by assumption) hb3, heldc (by assumption) hb3, (by assumption : Below W.heap.size W _).trans (hb3.mono (by assumption : Below W.heap.size W _).size)⟩ (fun hHeld => ?_)
    clear hK K
    try simp only [Act.put, List.setIfInBounds_toArray, List.set_cons_zero, List.set_cons_succ]
    (refine wpAnyH_take (i := 4) (v := ?_) rfl (by kernel_rfl) (by kernel_rfl) (by kernel_rfl) (fun _ _ _ h => h) (Or.inl ⟨by rfl, ?_⟩) (by assumption) ?_; rotate_left; (intro w hSw; (try dsimp only at hSw); go_split_ands; go_simp; first | done | with_reducible rfl); rotate_left; simp only [Act.put, List.getElem_toArray, List.getElem_cons_succ, List.getElem_cons_zero, List.setIfInBounds_toArray, List.set_cons_succ, List.set_cons_zero])
    (refine wpAnyH_take (i := 5) (v := ?_) rfl (by kernel_rfl) (by kernel_rfl) (by kernel_rfl) (fun _ _ _ h => h) (Or.inl ⟨by rfl, ?_⟩) (by assumption) ?_; rotate_left; (intro w hSw; (try dsimp only at hSw); go_split_ands; go_simp; first | done | with_reducible rfl); rotate_left; simp only [Act.put, List.getElem_toArray, List.getElem_cons_succ, List.getElem_cons_zero, List.setIfInBounds_toArray, List.set_cons_succ, List.set_cons_zero])
    (refine wpAnyH_take (i := 6) (v := ?_) rfl (by kernel_rfl) (by kernel_rfl) (by kernel_rfl) (fun _ _ _ h => h) (Or.inl ⟨by rfl, ?_⟩) (by assumption) ?_; rotate_left; (intro w hSw; (try dsimp only at hSw); go_split_ands; go_simp; first | done | with_reducible rfl); rotate_left; simp only [Act.put, List.getElem_toArray, List.getElem_cons_succ, List.getElem_cons_zero, List.setIfInBounds_toArray, List.set_cons_succ, List.set_cons_zero])
    (refine wpAnyH_take (i := 8) (v := ?_) rfl (by kernel_rfl) (by kernel_rfl) (by kernel_rfl) (fun _ _ _ h => h) (Or.inl ⟨by rfl, ?_⟩) (by assumption) ?_; rotate_left; (intro w hSw; (try dsimp only at hSw); go_split_ands; go_simp; first | done | with_reducible rfl); rotate_left; simp only [Act.put, List.getElem_toArray, List.getElem_cons_succ, List.getElem_cons_zero, List.setIfInBounds_toArray, List.set_cons_succ, List.set_cons_zero])
    refine wpAnyH_ready (rs := [7]) (by kernel_rfl) (by simp) ?_
    refine AllReadyH.cons rfl (fun K hK => ?_) AllReadyH.nil
    try dsimp only at hHeld
    go_split_ands
    go_simp
    refine (implConfOk_any c a1 c1 a2 c2 _ (HM.out.below (by assumption : Below W.heap.size W _) (Nat.le_refl _)) (HA.out.later (by assumption : Below W.heap.size W _)) SZ.out).mono ?_
    rintro e v7 ⟨rfl, hb7⟩
    rw [HV.out]
    refine hK.out _ _ ⟨heldc (by assumption) hb7, heldc (by assumption) hb7, heldc (by assumption) hb7, (by assumption : Below W.heap.size W _).trans (hb7.mono (by assumption : Below W.heap.size W _).size)⟩ (fun hHeld => ?_)
    clear hK K
    try simp only [Act.put, List.setIfInBounds_toArray, List.set_cons_zero, List.set_cons_succ]
    refine wpAnyH_ready (rs := [9]) (by kernel_rfl) (by simp) ?_
    refine AllReadyH.cons rfl (fun K hK => ?_) AllReadyH.nil
    try dsimp only at hHeld
    go_split_ands
    go_simp
    refine (specConfOk_any c a1 c1 a2 c2 _ (HA.out.later (by assumption : Below W.heap.size W _)) SZ.out).mono ?_
    rintro e v9 ⟨rfl, hb9⟩
    rw [HV.out]
    refine hK.out _ _ ⟨heldc (by assumption) hb9, heldc (by assumption) hb9, heldc (by assumption) hb9, (by assumption : Below W.heap.size W _).trans (hb9.mono (by assumption : Below W.heap.size W _).size)⟩ (fun hHeld => ?_)
    clear hK K
    try simp only [Act.put, List.setIfInBounds_toArray, List.set_cons_zero, List.set_cons_succ]
    (refine wpAnyH_take (i := 10) (v := ?_) rfl (by kernel_rfl) (by kernel_rfl) (by kernel_rfl) (fun _ _ _ h => h) (Or.inl ⟨by rfl, ?_⟩) (by assumption) ?_; rotate_left; (intro w hSw; (try dsimp only at hSw); go_split_ands; go_simp; first | done | with_reducible rfl); rotate_left; simp only [Act.put, List.getElem_toArray, List.getElem_cons_succ, List.getElem_cons_zero, List.setIfInBounds_toArray, List.set_cons_succ, List.set_cons_zero])
    (refine wpAnyH_take (i := 11) (v := ?_) rfl (by kernel_rfl) (by kernel_rfl) (by kernel_rfl) (fun _ _ _ h => h) (Or.inl ⟨by rfl, ?_⟩) (by assumption) ?_; rotate_left; (intro w hSw; (try dsimp only at hSw); go_split_ands; go_simp; first | done | with_reducible rfl); rotate_left; simp only [Act.put, List.getElem_toArray, List.getElem_cons_succ, List.getElem_cons_zero, List.setIfInBounds_toArray, List.set_cons_succ, List.set_cons_zero])
    (refine wpAnyH_take (i := 12) (v := ?_) rfl (by kernel_rfl) (by kernel_rfl) (by kernel_rfl) (fun _ _ _ h => h) (Or.inl ⟨by rfl, ?_⟩) (by assumption) ?_; rotate_left; (intro w hSw; (try dsimp only at hSw); go_split_ands; go_simp; first | done | with_reducible rfl); rotate_left; simp only [Act.put, List.getElem_toArray, List.getElem_cons_succ, List.getElem_cons_zero, List.setIfInBounds_toArray, List.set_cons_succ, List.set_cons_zero])
    refine wpAnyH_done (by kernel_rfl) ?_ _
    try dsimp only at hHeld
    obtain ⟨q0, q1, q2, hbx⟩ := hHeld
    go_wp2
    go_ret
    exact ⟨rfl, B2.out.trans (hbx.mono B2.out.size)⟩
  have HV : Seal _ := ⟨hv⟩
  cases hdd : domB d
  · have HD : Seal _ := ⟨hdd⟩
    clear hv hdd
    refine wp_region_held_drew (S := (fun w' => w'.cell? ⟨M, 0, none⟩ = some (.string c.name) ∧ w'.cell? ⟨M, 1, none⟩ = some (.slice a1 c.own.length c1) ∧ w'.cell? ⟨M, 2, none⟩ = some (.slice a2 c.ways.length c2) ∧ Below W.heap.size W w')) (by kernel_rfl) ⟨g0, g1, g2, (Below.refl _ _).drew⟩ (fun hHeld => ?_)
    (refine wpAnyH_take (i := 0) (v := ?_) rfl (by kernel_rfl) (by kernel_rfl) (by kernel_rfl) (fun _ _ _ h => h) (Or.inl ⟨by rfl, ?_⟩) (by assumption) ?_; rotate_left; (intro w hSw; (try dsimp only at hSw); go_split_ands; go_simp; first | done | with_reducible rfl); rotate_left; simp only [Act.put, List.getElem_toArray, List.getElem_cons_zero, List.setIfInBounds_toArray, List.set_cons_succ, List.set_cons_zero])
    (refine wpAnyH_take (i := 1) (v := ?_) rfl (by kernel_rfl) (by kernel_rfl) (by kernel_rfl) (fun _ _ _ h => h) (Or.inl ⟨by rfl, ?_⟩) (by assumption) ?_; rotate_left; (intro w hSw; (try dsimp only at hSw); go_split_ands; go_simp; first | done | with_reducible rfl); rotate_left; simp only [Act.put, List.getElem_toArray, List.getElem_cons_succ, List.getElem_cons_zero, List.setIfInBounds_toArray, List.set_cons_succ, List.set_cons_zero])
    (refine wpAnyH_take (i := 2) (v := ?_) rfl (by kernel_rfl) (by kernel_rfl) (by kernel_rfl) (fun _ _ _ h => h) (Or.inl ⟨by rfl, ?_⟩) (by assumption) ?_; rotate_left; (intro w hSw; (try dsimp only at hSw); go_split_ands; go_simp; first | done | with_reducible rfl); rotate_left; simp only [Act.put, List.getElem_toArray, List.getElem_cons_succ, List.getElem_cons_zero, List.setIfInBounds_toArray, List.set_cons_succ, List.set_cons_zero])
    refine wpAnyH_ready (rs := [3]) (by kernel_rfl) (by simp) ?_
    refine AllReadyH.cons rfl (fun K hK => ?_) AllReadyH.nil
    try dsimp only at hHeld
    go_split_ands
    go_simp
    refine (specWayOf_any c a1 c1 a2 c2 d _ (HA.out.later (by assumption : Below W.heap.size W _)) SZ.out (by omega)).mono ?_
    rintro e v3 ⟨rfl, hb3⟩
    rw [HT.out]
    refine hK.out _ _ ⟨heldc (by assumption) hb3, heldc (by assumption) hb3, heldc (by assumption) hb3, (by assumption : Below W.heap.size W _).trans (hb3.mono (by assumption : Below W.heap.size W _).size)⟩ (fun hHeld => ?_)
    clear hK K
    try simp only [Act.put, List.setIfInBounds_toArray, List.set_cons_zero, List.set_cons_succ]
    (refine wpAnyH_take (i := 4) (v := ?_) rfl (by kernel_rfl) (by kernel_rfl) (by kernel_rfl) (fun _ _ _ h => h) (Or.inl ⟨by rfl, ?_⟩) (by assumption) ?_; rotate_left; (intro w hSw; (try dsimp only at hSw); go_split_ands; go_simp; first | done | with_reducible rfl); rotate_left; simp only [Act.put, List.getElem_toArray, List.getElem_cons_succ, List.getElem_cons_zero, List.setIfInBounds_toArray, List.set_cons_succ, List.set_cons_zero])
    (refine wpAnyH_take (i := 5) (v := ?_) rfl (by kernel_rfl) (by kernel_rfl) (by kernel_rfl) (fun _ _ _ h => h) (Or.inl ⟨by rfl, ?_⟩) (by assumption) ?_; rotate_left; (intro w hSw; (try dsimp only at hSw); go_split_ands; go_simp; first | done | with_reducible rfl); rotate_left; simp only [Act.put, List.getElem_toArray, List.getElem_cons_succ, List.getElem_cons_zero, List.setIfInBounds_toArray, List.set_cons_succ, List.set_cons_zero])
    (refine wpAnyH_take (i := 6) (v := ?_) rfl (by kernel_rfl) (by kernel_rfl) (by kernel_rfl) (fun _ _ _ h => h) (Or.inl ⟨by rfl, ?_⟩) (by assumption) ?_; rotate_left; (intro w hSw; (try dsimp only at hSw); go_split_ands; go_simp; first | done | with_reducible rfl); rotate_left; simp only [Act.put, List.getElem_toArray, List.getElem_cons_succ, List.getElem_cons_zero, List.setIfInBounds_toArray, List.set_cons_succ, List.set_cons_zero])
    (refine wpAnyH_take (i := 8) (v := ?_) rfl (by kernel_rfl) (by kernel_rfl) (by kernel_rfl) (fun _ _ _ h => h) (Or.inl ⟨by rfl, ?_⟩) (by assumption) ?_; rotate_left; (intro w hSw; (try dsimp only at hSw); go_split_ands; go_simp; first | done | with_reducible rfl); rotate_left; simp only [Act.put, List.getElem_toArray, List.getElem_cons_succ, List.getElem_cons_zero, List.setIfInBounds_toArray, List.set_cons_succ, List.set_cons_zero])
    refine wpAnyH_ready (rs := [7]) (by kernel_rfl) (by simp) ?_
    refine AllReadyH.cons rfl (fun K hK => ?_) AllReadyH.nil
    try dsimp only at hHeld
    go_split_ands
    go_simp
    refine (implConfOk_any c a1 c1 a2 c2 _ (HM.out.below (by assumption : Below W.heap.size W _) (Nat.le_refl _)) (HA.out.later (by assumption : Below W.heap.size W _)) SZ.out).mono ?_
    rintro e v7 ⟨rfl, hb7⟩
    rw [HV.out]
    refine hK.out _ _ ⟨heldc (by assumption) hb7, heldc (by assumption) hb7, heldc (by assumption) hb7, (by assumption : Below W.heap.size W _).trans (hb7.mono (by assumption : Below W.heap.size W _).size)⟩ (fun hHeld => ?_)
    clear hK K
    try simp only [Act.put, List.setIfInBounds_toArray, List.set_cons_zero, List.set_cons_succ]
    refine wpAnyH_ready (rs := [9]) (by kernel_rfl) (by simp) ?_
    refine AllReadyH.cons rfl (fun K hK => ?_) AllReadyH.nil
    try dsimp only at hHeld
    go_split_ands
    go_simp
    refine (specConfOk_any c a1 c1 a2 c2 _ (HA.out.later (by assumption : Below W.heap.size W _)) SZ.out).mono ?_
    rintro e v9 ⟨rfl, hb9⟩
    rw [HV.out]
    refine hK.out _ _ ⟨heldc (by assumption) hb9, heldc (by assumption) hb9, heldc (by assumption) hb9, (by assumption : Below W.heap.size W _).trans (hb9.mono (by assumption : Below W.heap.size W _).size)⟩ (fun hHeld => ?_)
    clear hK K
    try simp only [Act.put, List.setIfInBounds_toArray, List.set_cons_zero, List.set_cons_succ]
    (refine wpAnyH_take (i := 10) (v := ?_) rfl (by kernel_rfl) (by kernel_rfl) (by kernel_rfl) (fun _ _ _ h => h) (Or.inl ⟨by rfl, ?_⟩) (by assumption) ?_; rotate_left; (intro w hSw; (try dsimp only at hSw); go_split_ands; go_simp; first | done | with_reducible rfl); rotate_left; simp only [Act.put, List.getElem_toArray, List.getElem_cons_succ, List.getElem_cons_zero, List.setIfInBounds_toArray, List.set_cons_succ, List.set_cons_zero])
    (refine wpAnyH_take (i := 11) (v := ?_) rfl (by kernel_rfl) (by kernel_rfl) (by kernel_rfl) (fun _ _ _ h => h) (Or.inl ⟨by rfl, ?_⟩) (by assumption) ?_; rotate_left; (intro w hSw; (try dsimp only at hSw); go_split_ands; go_simp; first | done | with_reducible rfl); rotate_left; simp only [Act.put, List.getElem_toArray, List.getElem_cons_succ, List.getElem_cons_zero, List.setIfInBounds_toArray, List.set_cons_succ, List.set_cons_zero])
    (refine wpAnyH_take (i := 12) (v := ?_) rfl (by kernel_rfl) (by kernel_rfl) (by kernel_rfl) (fun _ _ _ h => h) (Or.inl ⟨by rfl, ?_⟩) (by assumption) ?_; rotate_left; (intro w hSw; (try dsimp only at hSw); go_split_ands; go_simp; first | done | with_reducible rfl); rotate_left; simp only [Act.put, List.getElem_toArray, List.getElem_cons_succ, List.getElem_cons_zero, List.setIfInBounds_toArray, List.set_cons_succ, List.set_cons_zero])
    (refine wpAnyH_take (i := 13) (v := ?_) rfl (by kernel_rfl) (by kernel_rfl) (by kernel_rfl) (fun _ _ _ h => h) (Or.inl ⟨by rfl, ?_⟩) (by assumption) ?_; rotate_left; (intro w hSw; (try dsimp only at hSw); go_split_ands; go_simp; first | done | with_reducible rfl); rotate_left; simp only [Act.put, List.getElem_toArray, List.getElem_cons_succ, List.getElem_cons_zero, List.setIfInBounds_toArray, List.set_cons_succ, List.set_cons_zero])
    refine wpAnyH_ready (rs := [14]) (by kernel_rfl) (by simp) ?_
    refine AllReadyH.cons rfl (fun K hK => ?_) AllReadyH.nil
    try dsimp only at hHeld
    go_split_ands
    go_simp
    refine (implConfOk_any c a1 c1 a2 c2 _ (HM.out.below (by assumption : Below W.heap.size W _) (Nat.le_refl _)) (HA.out.later (by assumption : Below W.heap.size W _)) SZ.out).mono ?_
    rintro e v14 ⟨rfl, hb14⟩
    rw [HV.out]
    refine hK.out _ _ ⟨heldc (by assumption) hb14, heldc (by assumption) hb14, heldc (by assumption) hb14, (by assumption : Below W.heap.size W _).trans (hb14.mono (by assumption : Below W.heap.size W _).size)⟩ (fun hHeld => ?_)
    clear hK K
    try simp only [Act.put, List.setIfInBounds_toArray, List.set_cons_zero, List.set_cons_succ]
    (refine wpAnyH_take (i := 15) (v := ?_) rfl (by kernel_rfl) (by kernel_rfl) (by kernel_rfl) (fun _ _ _ h => h) (Or.inl ⟨by rfl, ?_⟩) (by assumption) ?_; rotate_left; (intro w hSw; (try dsimp only at hSw); go_split_ands; go_simp; first | done | with_reducible rfl); rotate_left; simp only [Act.put, List.getElem_toArray, List.getElem_cons_succ, List.getElem_cons_zero, List.setIfInBounds_toArray, List.set_cons_succ, List.set_cons_zero])
    (refine wpAnyH_take (i := 16) (v := ?_) rfl (by kernel_rfl) (by kernel_rfl) (by kernel_rfl) (fun _ _ _ h => h) (Or.inl ⟨by rfl, ?_⟩) (by assumption) ?_; rotate_left; (intro w hSw; (try dsimp only at hSw); go_split_ands; go_simp; first | done | with_reducible rfl); rotate_left; simp only [Act.put, List.getElem_toArray, List.getElem_cons_succ, List.getElem_cons_zero, List.setIfInBounds_toArray, List.set_cons_succ, List.set_cons_zero])
    (refine wpAnyH_take (i := 17) (v := ?_) rfl (by kernel_rfl) (by kernel_rfl) (by kernel_rfl) (fun _ _ _ h => h) (Or.inl ⟨by rfl, ?_⟩) (by assumption) ?_; rotate_left; (intro w hSw; (try dsimp only at hSw); go_split_ands; go_simp; first | done | with_reducible rfl); rotate_left; simp only [Act.put, List.getElem_toArray, List.getElem_cons_succ, List.getElem_cons_zero, List.setIfInBounds_toArray, List.set_cons_succ, List.set_cons_zero])
    (refine wpAnyH_take (i := 18) (v := ?_) rfl (by kernel_rfl) (by kernel_rfl) (by kernel_rfl) (fun _ _ _ h => h) (Or.inl ⟨by rfl, ?_⟩) (by assumption) ?_; rotate_left; (intro w hSw; (try dsimp only at hSw); go_split_ands; go_simp; first | done | with_reducible rfl); rotate_left; simp only [Act.put, List.getElem_toArray, List.getElem_cons_succ, List.getElem_cons_zero, List.setIfInBounds_toArray, List.set_cons_succ, List.set_cons_zero])
    refine wpAnyH_ready (rs := [19]) (by kernel_rfl) (by simp) ?_
    refine AllReadyH.cons rfl (fun K hK => ?_) AllReadyH.nil
    try dsimp only at hHeld
    go_split_ands
    go_simp
    refine (implDomainOk_max d _ (HM.out.below (by assumption : Below W.heap.size W _) (Nat.le_refl _)) (by omega)).mono ?_
    rintro e v19 ⟨rfl, hb19⟩
    rw [HD.out]
    refine hK.out _ _ ⟨heldc (by assumption) hb19, heldc (by assumption) hb19, heldc (by assumption) hb19, (by assumption : Below W.heap.size W _).trans (hb19.mono (by assumption : Below W.heap.size W _).size)⟩ (fun hHeld => ?_)
    clear hK K
    try simp only [Act.put, List.setIfInBounds_toArray, List.set_cons_zero, List.set_cons_succ]
    (refine wpAnyH_take (i := 20) (v := ?_) rfl (by kernel_rfl) (by kernel_rfl) (by kernel_rfl) (fun _ _ _ h => h) (Or.inl ⟨by rfl, ?_⟩) (by assumption) ?_; rotate_left; (intro w hSw; (try dsimp only at hSw); go_split_ands; go_simp; first | done | with_reducible rfl); rotate_left; simp only [Act.put, List.getElem_toArray, List.getElem_cons_succ, List.getElem_cons_zero, List.setIfInBounds_toArray, List.set_cons_succ, List.set_cons_zero])
    (refine wpAnyH_take (i := 21) (v := ?_) rfl (by kernel_rfl) (by kernel_rfl) (by kernel_rfl) (fun _ _ _ h => h) (Or.inl ⟨by rfl, ?_⟩) (by assumption) ?_; rotate_left; (intro w hSw; (try dsimp only at hSw); go_split_ands; go_simp; first | done | with_reducible rfl); rotate_left; simp only [Act.put, List.getElem_toArray, List.getElem_cons_succ, List.getElem_cons_zero, List.setIfInBounds_toArray, List.set_cons_succ, List.set_cons_zero])
    refine wpAnyH_done (by kernel_rfl) ?_ _
    try dsimp only at hHeld
    obtain ⟨q0, q1, q2, hbx⟩ := hHeld
    go_wp2_with fail
    refine wp_region_held_drew (S := (fun w' => w'.cell? ⟨M, 0, none⟩ = some (.string c.name) ∧ w'.cell? ⟨M, 1, none⟩ = some (.slice a1 c.own.length c1) ∧ w'.cell? ⟨M, 2, none⟩ = some (.slice a2 c.ways.length c2) ∧ Below W.heap.size W w')) (by kernel_rfl) ⟨q0, q1, q2, hbx.drew⟩ (fun hHeld => ?_)
    (refine wpAnyH_take (i := 0) (v := ?_) rfl (by kernel_rfl) (by kernel_rfl) (by kernel_rfl) (fun _ _ _ h => h) (Or.inl ⟨by rfl, ?_⟩) (by assumption) ?_; rotate_left; (intro w hSw; (try dsimp only at hSw); go_split_ands; go_simp; first | done | with_reducible rfl); rotate_left; simp only [Act.put, List.getElem_toArray, List.getElem_cons_zero, List.setIfInBounds_toArray, List.set_cons_succ, List.set_cons_zero])
    (refine wpAnyH_take (i := 1) (v := ?_) rfl (by kernel_rfl) (by kernel_rfl) (by kernel_rfl) (fun _ _ _ h => h) (Or.inl ⟨by rfl, ?_⟩) (by assumption) ?_; rotate_left; (intro w hSw; (try dsimp only at hSw); go_split_ands; go_simp; first | done | with_reducible rfl); rotate_left; simp only [Act.put, List.getElem_toArray, List.getElem_cons_succ, List.getElem_cons_zero, List.setIfInBounds_toArray, List.set_cons_succ, List.set_cons_zero])
    (refine wpAnyH_take (i := 2) (v := ?_) rfl (by kernel_rfl) (by kernel_rfl) (by kernel_rfl) (fun _ _ _ h => h) (Or.inl ⟨by rfl, ?_⟩) (by assumption) ?_; rotate_left; (intro w hSw; (try dsimp only at hSw); go_split_ands; go_simp; first | done | with_reducible rfl); rotate_left; simp only [Act.put, List.getElem_toArray, List.getElem_cons_succ, List.getElem_cons_zero, List.setIfInBounds_toArray, List.set_cons_succ, List.set_cons_zero])
    refine wpAnyH_ready (rs := [3]) (by kernel_rfl) (by simp) ?_
    refine AllReadyH.cons rfl (fun K hK => ?_) AllReadyH.nil
    try dsimp only at hHeld
    go_split_ands
    go_simp
    refine (specWayOf_any c a1 c1 a2 c2 d _ (HA.out.later (by assumption : Below W.heap.size W _)) SZ.out (by omega)).mono ?_
    rintro e v3 ⟨rfl, hb3⟩
    rw [HT.out]
    refine hK.out _ _ ⟨heldc (by assumption) hb3, heldc (by assumption) hb3, heldc (by assumption) hb3, (by assumption : Below W.heap.size W _).trans (hb3.mono (by assumption : Below W.heap.size W _).size)⟩ (fun hHeld => ?_)
    clear hK K
    try simp only [Act.put, List.setIfInBounds_toArray, List.set_cons_zero, List.set_cons_succ]
    (refine wpAnyH_take (i := 4) (v := ?_) rfl (by kernel_rfl) (by kernel_rfl) (by kernel_rfl) (fun _ _ _ h => h) (Or.inl ⟨by rfl, ?_⟩) (by assumption) ?_; rotate_left; (intro w hSw; (try dsimp only at hSw); go_split_ands; go_simp; first | done | with_reducible rfl); rotate_left; simp only [Act.put, List.getElem_toArray, List.getElem_cons_succ, List.getElem_cons_zero, List.setIfInBounds_toArray, List.set_cons_succ, List.set_cons_zero])
    (refine wpAnyH_take (i := 5) (v := ?_) rfl (by kernel_rfl) (by kernel_rfl) (by kernel_rfl) (fun _ _ _ h => h) (Or.inl ⟨by rfl, ?_⟩) (by assumption) ?_; rotate_left; (intro w hSw; (try dsimp only at hSw); go_split_ands; go_simp; first | done | with_reducible rfl); rotate_left; simp only [Act.put, List.getElem_toArray, List.getElem_cons_succ, List.getElem_cons_zero, List.setIfInBounds_toArray, List.set_cons_succ, List.set_cons_zero])
    (refine wpAnyH_take (i := 6) (v := ?_) rfl (by kernel_rfl) (by kernel_rfl) (by kernel_rfl) (fun _ _ _ h => h) (Or.inl ⟨by rfl, ?_⟩) (by assumption) ?_; rotate_left; (intro w hSw; (try dsimp only at hSw); go_split_ands; go_simp; first | done | with_reducible rfl); rotate_left; simp only [Act.put, List.getElem_toArray, List.getElem_cons_succ, List.getElem_cons_zero, List.setIfInBounds_toArray, List.set_cons_succ, List.set_cons_zero])
    (refine wpAnyH_take (i := 8) (v := ?_) rfl (by kernel_rfl) (by kernel_rfl) (by kernel_rfl) (fun _ _ _ h => h) (Or.inl ⟨by rfl, ?_⟩) (by assumption) ?_; rotate_left; (intro w hSw; (try dsimp only at hSw); go_split_ands; go_simp; first | done | with_reducible rfl); rotate_left; simp only [Act.put, List.getElem_toArray, List.getElem_cons_succ, List.getElem_cons_zero, List.setIfInBounds_toArray, List.set_cons_succ, List.set_cons_zero])
    refine wpAnyH_ready (rs := [7]) (by kernel_rfl) (by simp) ?_
    refine AllReadyH.cons rfl (fun K hK => ?_) AllReadyH.nil
    try dsimp only at hHeld
    go_split_ands
    go_simp
    refine (implConfOk_any c a1 c1 a2 c2 _ (HM.out.below (by assumption : Below W.heap.size W _) (Nat.le_refl _)) (HA.out.later (by assumption : Below W.heap.size W _)) SZ.out).mono ?_
    rintro e v7 ⟨rfl, hb7⟩
    rw [HV.out]
    refine hK.out _ _ ⟨heldc (by assumption) hb7, heldc (by assumption) hb7, heldc (by assumption) hb7, (by assumption : Below W.heap.size W _).trans (hb7.mono (by assumption : Below W.heap.size W _).size)⟩ (fun hHeld => ?_)
    clear hK K
    try simp only [Act.put, List.setIfInBounds_toArray, List.set_cons_zero, List.set_cons_succ]
    refine wpAnyH_ready (rs := [9]) (by kernel_rfl) (by simp) ?_
    refine AllReadyH.cons rfl (fun K hK => ?_) AllReadyH.nil
    try dsimp only at hHeld
    go_split_ands
    go_simp
    refine (specConfOk_any c a1 c1 a2 c2 _ (HA.out.later (by assumption : Below W.heap.size W _)) SZ.out).mono ?_
    rintro e v9 ⟨rfl, hb9⟩
    rw [HV.out]
    refine hK.out _ _ ⟨heldc (by assumption) hb9, heldc (by assumption) hb9, heldc (by assumption) hb9, (by assumption : Below W.heap.size W _).trans (hb9.mono (by assumption : Below W.heap.size W _).size)⟩ (fun hHeld => ?_)
    clear hK K
    try simp only [Act.put, List.setIfInBounds_toArray, List.set_cons_zero, List.set_cons_succ]
    (refine wpAnyH_take (i := 10) (v := ?_) rfl (by kernel_rfl) (by kernel_rfl) (by kernel_rfl) (fun _ _ _ h => h) (Or.inl ⟨by rfl, ?_⟩) (by assumption) ?_; rotate_left; (intro w hSw; (try dsimp only at hSw); go_split_ands; go_simp; first | done | with_reducible rfl); rotate_left; simp only [Act.put, List.getElem_toArray, List.getElem_cons_succ, List.getElem_cons_zero, List.setIfInBounds_toArray, List.set_cons_succ, List.set_cons_zero])
    (refine wpAnyH_take (i := 11) (v := ?_) rfl (by kernel_rfl) (by kernel_rfl) (by kernel_rfl) (fun _ _ _ h => h) (Or.inl ⟨by rfl, ?_⟩) (by assumption) ?_; rotate_left; (intro w hSw; (try dsimp only at hSw); go_split_ands; go_simp; first | done | with_reducible rfl); rotate_left; simp only [Act.put, List.getElem_toArray, List.getElem_cons_succ, List.getElem_cons_zero, List.setIfInBounds_toArray, List.set_cons_succ, List.set_cons_zero])
    (refine wpAnyH_take (i := 12) (v := ?_) rfl (by kernel_rfl) (by kernel_rfl) (by kernel_rfl) (fun _ _ _ h => h) (Or.inl ⟨by rfl, ?_⟩) (by assumption) ?_; rotate_left; (intro w hSw; (try dsimp only at hSw); go_split_ands; go_simp; first | done | with_reducible rfl); rotate_left; simp only [Act.put, List.getElem_toArray, List.getElem_cons_succ, List.getElem_cons_zero, List.setIfInBounds_toArray, List.set_cons_succ, List.set_cons_zero])
    refine wpAnyH_done (by kernel_rfl) ?_ _
    try dsimp only at hHeld
    obtain ⟨q0, q1, q2, hbx⟩ := hHeld
    go_wp2
    go_ret
    exact ⟨rfl, B2.out.trans (hbx.mono B2.out.size)⟩
  have HD : Seal _ := ⟨hdd⟩
  clear hv hdd
  refine wp_region_held_drew (S := (fun w' => w'.cell? ⟨M, 0, none⟩ = some (.string c.name) ∧ w'.cell? ⟨M, 1, none⟩ = some (.slice a1 c.own.length c1) ∧ w'.cell? ⟨M, 2, none⟩ = some (.slice a2 c.ways.length c2) ∧ Below W.heap.size W w')) (by kernel_rfl) ⟨g0, g1, g2, (Below.refl _ _).drew⟩ (fun hHeld => ?_)
  (refine wpAnyH_take (i := 0) (v := ?_) rfl (by kernel_rfl) (by kernel_rfl) (by kernel_rfl) (fun _ _ _ h => h) (Or.inl ⟨by rfl, ?_⟩) (by assumption) ?_; rotate_left; (intro w hSw; (try dsimp only at hSw); go_split_ands; go_simp; first | done | with_reducible rfl); rotate_left; simp only [Act.put, List.getElem_toArray, List.getElem_cons_zero, List.setIfInBounds_toArray, List.set_cons_succ, List.set_cons_zero])
  (refine wpAnyH_take (i := 1) (v := ?_) rfl (by kernel_rfl) (by kernel_rfl) (by kernel_rfl) (fun _ _ _ h => h) (Or.inl ⟨by rfl, ?_⟩) (by assumption) ?_; rotate_left; (intro w hSw; (try dsimp only at hSw); go_split_ands; go_simp; first | done | with_reducible rfl); rotate_left; simp only [Act.put, List.getElem_toArray, List.getElem_cons_succ, List.getElem_cons_zero, List.setIfInBounds_toArray, List.set_cons_succ, List.set_cons_zero])
  (refine wpAnyH_take (i := 2) (v := ?_) rfl (by kernel_rfl) (by kernel_rfl) (by kernel_rfl) (fun _ _ _ h => h) (Or.inl ⟨by rfl, ?_⟩) (by assumption) ?_; rotate_left; (intro w hSw; (try dsimp only at hSw); go_split_ands; go_simp; first | done | with_reducible rfl); rotate_left; simp only [Act.put, List.getElem_toArray, List.getElem_cons_succ, List.getElem_cons_zero, List.setIfInBounds_toArray, List.set_cons_succ, List.set_cons_zero])
  refine wpAnyH_ready (rs := [3]) (by kernel_rfl) (by simp) ?_
  refine AllReadyH.cons rfl (fun K hK => ?_) AllReadyH.nil
  try dsimp only at hHeld
  go_split_ands
  go_simp
  refine (specWayOf_any c a1 c1 a2 c2 d _ (HA.out.later (by assumption : Below W.heap.size W _)) SZ.out (by omega)).mono ?_
  rintro e v3 ⟨rfl, hb3⟩
  rw [HT.out]
  refine hK.out _ _ ⟨heldc (by assumption) hb3, heldc (by assumption) hb3, heldc (by assumption) hb3, (by assumption : Below W.heap.size W _).trans (hb3.mono (by assumption : Below W.heap.size W _).size)⟩ (fun hHeld => ?_)
  clear hK K
  try simp only [Act.put, List.setIfInBounds_toArray, List.set_cons_zero, List.set_cons_succ]
  (refine wpAnyH_take (i := 4) (v := ?_) rfl (by kernel_rfl) (by kernel_rfl) (by kernel_rfl) (fun _ _ _ h => h) (Or.inl ⟨by rfl, ?_⟩) (by assumption) ?_; rotate_left; (intro w hSw; (try dsimp only at hSw); go_split_ands; go_simp; first | done | with_reducible rfl); rotate_left; simp only [Act.put, List.getElem_toArray, List.getElem_cons_succ, List.getElem_cons_zero, List.setIfInBounds_toArray, List.set_cons_succ, List.set_cons_zero])
  (refine wpAnyH_take (i := 5) (v := ?_) rfl (by kernel_rfl) (by kernel_rfl) (by kernel_rfl) (fun _ _ _ h => h) (Or.inl ⟨by rfl, ?_⟩) (by assumption) ?_; rotate_left; (intro w hSw; (try dsimp only at hSw); go_split_ands; go_simp; first | done | with_reducible rfl); rotate_left; simp only [Act.put, List.getElem_toArray, List.getElem_cons_succ, List.getElem_cons_zero, List.setIfInBounds_toArray, List.set_cons_succ, List.set_cons_zero])
  (refine wpAnyH_take (i := 6) (v := ?_) rfl (by kernel_rfl) (by kernel_rfl) (by kernel_rfl) (fun _ _ _ h => h) (Or.inl ⟨by rfl, ?_⟩) (by assumption) ?_; rotate_left; (intro w hSw; (try dsimp only at hSw); go_split_ands; go_simp; first | done | with_reducible rfl); rotate_left; simp only [Act.put, List.getElem_toArray, List.getElem_cons_succ, List.getElem_cons_zero, List.setIfInBounds_toArray, List.set_cons_succ, List.set_cons_zero])
  (refine wpAnyH_take (i := 8) (v := ?_) rfl (by kernel_rfl) (by kernel_rfl) (by kernel_rfl) (fun _ _ _ h => h) (Or.inl ⟨by rfl, ?_⟩) (by assumption) ?_; rotate_left; (intro w hSw; (try dsimp only at hSw); go_split_ands; go_simp; first | done | with_reducible rfl); rotate_left; simp only [Act.put, List.getElem_toArray, List.getElem_cons_succ, List.getElem_cons_zero, List.setIfInBounds_toArray, List.set_cons_succ, List.set_cons_zero])
  refine wpAnyH_ready (rs := [7]) (by kernel_rfl) (by simp) ?_
  refine AllReadyH.cons rfl (fun K hK => ?_) AllReadyH.nil
  try dsimp only at hHeld
  go_split_ands
  go_simp
  refine (implConfOk_any c a1 c1 a2 c2 _ (HM.out.below (by assumption : Below W.heap.size W _) (Nat.le_refl _)) (HA.out.later (by assumption : Below W.heap.size W _)) SZ.out).mono ?_
  rintro e v7 ⟨rfl, hb7⟩
  rw [HV.out]
  refine hK.out _ _ ⟨heldc (by assumption) hb7, heldc (by assumption) hb7, heldc (by assumption) hb7, (by assumption : Below W.heap.size W _).trans (hb7.mono (by assumption : Below W.heap.size W _).size)⟩ (fun hHeld => ?_)
  clear hK K
  try simp only [Act.put, List.setIfInBounds_toArray, List.set_cons_zero, List.set_cons_succ]
  refine wpAnyH_ready (rs := [9]) (by kernel_rfl) (by simp) ?_
  refine AllReadyH.cons rfl (fun K hK => ?_) AllReadyH.nil
  try dsimp only at hHeld
  go_split_ands
  go_simp
  refine (specConfOk_any c a1 c1 a2 c2 _ (HA.out.later (by assumption : Below W.heap.size W _)) SZ.out).mono ?_
  rintro e v9 ⟨rfl, hb9⟩
  rw [HV.out]
  refine hK.out _ _ ⟨heldc (by assumption) hb9, heldc (by assumption) hb9, heldc (by assumption) hb9, (by assumption : Below W.heap.size W _).trans (hb9.mono (by assumption : Below W.heap.size W _).size)⟩ (fun hHeld => ?_)
  clear hK K
  try simp only [Act.put, List.setIfInBounds_toArray, List.set_cons_zero, List.set_cons_succ]
  (refine wpAnyH_take (i := 10) (v := ?_) rfl (by kernel_rfl) (by kernel_rfl) (by kernel_rfl) (fun _ _ _ h => h) (Or.inl ⟨by rfl, ?_⟩) (by assumption) ?_; rotate_left; (intro w hSw; (try dsimp only at hSw); go_split_ands; go_simp; first | done | with_reducible rfl); rotate_left; simp only [Act.put, List.getElem_toArray, List.getElem_cons_succ, List.getElem_cons_zero, List.setIfInBounds_toArray, List.set_cons_succ, List.set_cons_zero])
  (refine wpAnyH_take (i := 11) (v := ?_) rfl (by kernel_rfl) (by kernel_rfl) (by kernel_rfl) (fun _ _ _ h => h) (Or.inl ⟨by rfl, ?_⟩) (by assumption) ?_; rotate_left; (intro w hSw; (try dsimp only at hSw); go_split_ands; go_simp; first | done | with_reducible rfl); rotate_left; simp only [Act.put, List.getElem_toArray, List.getElem_cons_succ, List.getElem_cons_zero, List.setIfInBounds_toArray, List.set_cons_succ, List.set_cons_zero])
  (refine wpAnyH_take (i := 12) (v := ?_) rfl (by kernel_rfl) (by kernel_rfl) (by kernel_rfl) (fun _ _ _ h => h) (Or.inl ⟨by rfl, ?_⟩) (by assumption) ?_; rotate_left; (intro w hSw; (try dsimp only at hSw); go_split_ands; go_simp; first | done | with_reducible rfl); rotate_left; simp only [Act.put, List.getElem_toArray, List.getElem_cons_succ, List.getElem_cons_zero, List.setIfInBounds_toArray, List.set_cons_succ, List.set_cons_zero])
  (refine wpAnyH_take (i := 13) (v := ?_) rfl (by kernel_rfl) (by kernel_rfl) (by kernel_rfl) (fun _ _ _ h => h) (Or.inl ⟨by rfl, ?_⟩) (by assumption) ?_; rotate_left; (intro w hSw; (try dsimp only at hSw); go_split_ands; go_simp; first | done | with_reducible rfl); rotate_left; simp only [Act.put, List.getElem_toArray, List.getElem_cons_succ, List.getElem_cons_zero, List.setIfInBounds_toArray, List.set_cons_succ, List.set_cons_zero])
  refine wpAnyH_ready (rs := [14]) (by kernel_rfl) (by simp) ?_
  refine AllReadyH.cons rfl (fun K hK => ?_) AllReadyH.nil
  try dsimp only at hHeld
  go_split_ands
  go_simp
  refine (implConfOk_any c a1 c1 a2 c2 _ (HM.out.below (by assumption : Below W.heap.size W _) (Nat.le_refl _)) (HA.out.later (by assumption : Below W.heap.size W _)) SZ.out).mono ?_
  rintro e v14 ⟨rfl, hb14⟩
  rw [HV.out]
  refine hK.out _ _ ⟨heldc (by assumption) hb14, heldc (by assumption) hb14, heldc (by assumption) hb14, (by assumption : Below W.heap.size W _).trans (hb14.mono (by assumption : Below W.heap.size W _).size)⟩ (fun hHeld => ?_)
  clear hK K
  try simp only [Act.put, List.setIfInBounds_toArray, List.set_cons_zero, List.set_cons_succ]
  (refine wpAnyH_take (i := 15) (v := ?_) rfl (by kernel_rfl) (by kernel_rfl) (by kernel_rfl) (fun _ _ _ h => h) (Or.inl ⟨by rfl, ?_⟩) (by assumption) ?_; rotate_left; (intro w hSw; (try dsimp only at hSw); go_split_ands; go_simp; first | done | with_reducible rfl); rotate_left; simp only [Act.put, List.getElem_toArray, List.getElem_cons_succ, List.getElem_cons_zero, List.setIfInBounds_toArray, List.set_cons_succ, List.set_cons_zero])
  (refine wpAnyH_take (i := 16) (v := ?_) rfl (by kernel_rfl) (by kernel_rfl) (by kernel_rfl) (fun _ _ _ h => h) (Or.inl ⟨by rfl, ?_⟩) (by assumption) ?_; rotate_left; (intro w hSw; (try dsimp only at hSw); go_split_ands; go_simp; first | done | with_reducible rfl); rotate_left; simp only [Act.put, List.getElem_toArray, List.getElem_cons_succ, List.getElem_cons_zero, List.setIfInBounds_toArray, List.set_cons_succ, List.set_cons_zero])
  (refine wpAnyH_take (i := 17) (v := ?_) rfl (by kernel_rfl) (by kernel_rfl) (by kernel_rfl) (fun _ _ _ h => h) (Or.inl ⟨by rfl, ?_⟩) (by assumption) ?_; rotate_left; (intro w hSw; (try dsimp only at hSw); go_split_ands; go_simp; first | done | with_reducible rfl); rotate_left; simp only [Act.put, List.getElem_toArray, List.getElem_cons_succ, List.getElem_cons_zero, List.setIfInBounds_toArray, List.set_cons_succ, List.set_cons_zero])
  (refine wpAnyH_take (i := 18) (v := ?_) rfl (by kernel_rfl) (by kernel_rfl) (by kernel_rfl) (fun _ _ _ h => h) (Or.inl ⟨by rfl, ?_⟩) (by assumption) ?_; rotate_left; (intro w hSw; (try dsimp only at hSw); go_split_ands; go_simp; first | done | with_reducible rfl); rotate_left; simp only [Act.put, List.getElem_toArray, List.getElem_cons_succ, List.getElem_cons_zero, List.setIfInBounds_toArray, List.set_cons_succ, List.set_cons_zero])
  refine wpAnyH_ready (rs := [19]) (by kernel_rfl) (by simp) ?_
  refine AllReadyH.cons rfl (fun K hK => ?_) AllReadyH.nil
  try dsimp only at hHeld
  go_split_ands
  go_simp
  refine (implDomainOk_max d _ (HM.out.below (by assumption : Below W.heap.size W _) (Nat.le_refl _)) (by omega)).mono ?_
  rintro e v19 ⟨rfl, hb19⟩
  rw [HD.out]
  refine hK.out _ _ ⟨heldc (by assumption) hb19, heldc (by assumption) hb19, heldc (by assumption) hb19, (by assumption : Below W.heap.size W _).trans (hb19.mono (by assumption : Below W.heap.size W _).size)⟩ (fun hHeld => ?_)
  clear hK K
  try simp only [Act.put, List.setIfInBounds_toArray, List.set_cons_zero, List.set_cons_succ]
  (refine wpAnyH_take (i := 20) (v := ?_) rfl (by kernel_rfl) (by kernel_rfl) (by kernel_rfl) (fun _ _ _ h => h) (Or.inl ⟨by rfl, ?_⟩) (by assumption) ?_; rotate_left; (intro w hSw; (try dsimp only at hSw); go_split_ands; go_simp; first | done | with_reducible rfl); rotate_left; simp only [Act.put, List.getElem_toArray, List.getElem_cons_succ, List.getElem_cons_zero, List.setIfInBounds_toArray, List.set_cons_succ, List.set_cons_zero])
  (refine wpAnyH_take (i := 21) (v := ?_) rfl (by kernel_rfl) (by kernel_rfl) (by kernel_rfl) (fun _ _ _ h => h) (Or.inl ⟨by rfl, ?_⟩) (by assumption) ?_; rotate_left; (intro w hSw; (try dsimp only at hSw); go_split_ands; go_simp; first | done | with_reducible rfl); rotate_left; simp only [Act.put, List.getElem_toArray, List.getElem_cons_succ, List.getElem_cons_zero, List.setIfInBounds_toArray, List.set_cons_succ, List.set_cons_zero])
  refine wpAnyH_done (by kernel_rfl) ?_ _
  try dsimp only at hHeld
  obtain ⟨q0, q1, q2, hbx⟩ := hHeld
  clear g0 g1 g2
  have HO : Seal _ := ⟨(HA.out.later hbx).own⟩
  have B3 : Seal _ := ⟨B2.out.trans (hbx.mono B2.out.size)⟩
  have HA3 : Seal _ := ⟨HA.out.later hbx⟩
  have HM3 : Seal _ := ⟨HM.out.below hbx (Nat.le_refl _)⟩
  clear hbx HA HM B2 hb3 hb7 hb9 hb14
  go_wp2
  go_loop [6, 7] (fun o i => ∃ k : Nat, k ≤ c.own.length ∧ i = .int .i64 k ∧ o = .bool (hasB (c.own.take k) d)) (fun _ i => c.own.length - (intOf i).toNat)
  case atStart => exact ⟨0, Nat.zero_le _, rfl, rfl⟩
  case round =>
    obtain ⟨k, hk, rfl, rfl⟩ := hrel
    by_cases hlt : k < c.own.length
    · obtain ⟨x, hx⟩ : ∃ x, c.own[k]? = some x := ⟨_, List.getElem?_eq_getElem hlt⟩
      obtain ⟨b, off, rfl, hc1⟩ := HO.out k x hx
      have HN : Seal _ := ⟨hasB_snoc (d := d) hx⟩
      clear hx
      cases hp : hasB (c.own.take k) d
      · cases hxd : x.toList == d.toList
        · have HN2 : Seal (hasB (c.own.take (k + 1)) d = false) := ⟨by rw [HN.out, hp, hxd]; rfl⟩
          clear hp
          go_wp2
          go_round
          case rel => exact ⟨k + 1, by omega, by go_num, by rw [HN2.out]⟩
          case measure => simp [intOf]; omega
        · have HN2 : Seal (hasB (c.own.take (k + 1)) d = true) := ⟨by rw [HN.out, hp, hxd]; rfl⟩
          clear hp
          go_wp2
          go_round
          case rel => exact ⟨k + 1, by omega, by go_num, by rw [HN2.out]⟩
          case measure => simp [intOf]; omega
      · have HN2 : Seal (hasB (c.own.take (k + 1)) d = true) := ⟨by rw [HN.out, hp]; rfl⟩
        clear hp
        go_wp2
        go_round
        case rel => exact ⟨k + 1, by omega, by go_num, by rw [HN2.out]⟩
        case measure => simp [intOf]; omega
    · obtain rfl : k = c.own.length := by omega
      simp only [List.take_length]
      obtain ⟨h, hh⟩ : ∃ h, hasB c.own d = h := ⟨_, rfl⟩
      rw [hh]
      have HH : Seal _ := ⟨hh⟩
      clear hh HO
      go_wp2
      go_loopw [8, 9] (fun be i wr => ∃ k n : Nat, k ≤ c.ways.length ∧ i = .int .i64 k ∧ be = .int .i64 n ∧ n ≤ 1048576 ∧ Seal (n = (bestB d (c.ways.take k)).1.size) ∧ wr.cell? ⟨M, 0, none⟩ = some (.string c.name) ∧ wr.cell? ⟨M, 1, none⟩ = some (.slice a1 c.own.length c1) ∧ wr.cell? ⟨M, 2, none⟩ = some (.slice a2 c.ways.length c2) ∧ Seal (Below v19.heap.size v19 wr)) (fun _ i _ => c.ways.length - (intOf i).toNat)
      case atStart => exact ⟨0, 0, Nat.zero_le _, rfl, rfl, by omega, ⟨rfl⟩, q0, q1, q2, ⟨Below.refl _ _⟩⟩
      case round =>
        obtain ⟨k, n, hk, rfl, rfl, hn, HB, r0, r1, r2, hb⟩ := hrel
        clear q0 q1 q2
        by_cases hlt : k < c.ways.length
        · obtain ⟨p, hp⟩ : ∃ p, c.ways[k]? = some p := ⟨_, List.getElem?_eq_getElem hlt⟩
          obtain ⟨b, off, rfl, hc1, hc2⟩ := (HA3.out.later hb.out).ways k p hp
          have s1 := (SZ.out.was p (List.mem_of_getElem? hp)).1
          have HI : Seal _ := ⟨inDom_end HV.out HD.out hp⟩
          have HSN : Seal _ := ⟨bestB_snoc (dom := d) hp⟩
          clear hp
          have HMk : Seal _ := ⟨HM3.out.below hb.out (Nat.le_refl _)⟩
          cases hend : endB d p.1
          · have HN : Seal (n = (bestB d (c.ways.take (k + 1))).1.size) := ⟨by rw [HSN.out, betterB_no (.inl hend)]; exact HB.out⟩
            have HE : Seal (inDomB d p.1 = false) := ⟨HI.out.trans hend⟩
            clear hend
            go_wp2_with fail
            refine (implDomainIn_any d p.1 _ HMk.out (by omega) (by omega)).mono ?_
            rintro e u ⟨rfl, hbu⟩
            rw [HE.out]
            have t0 := heldc r0 hbu
            have t1 := heldc r1 hbu
            have t2 := heldc r2 hbu
            have HBU : Seal _ := ⟨hb.out.trans (hbu.mono hb.out.size)⟩
            clear r0 r1 r2 hbu hc1 hc2
            go_wp2
            go_roundw
            case rel => exact ⟨k + 1, n, by omega, by go_num, rfl, hn, HN, t0, t1, t2, HBU⟩
            case measure => simp [intOf]; omega
          · have HE : Seal (inDomB d p.1 = true) := ⟨HI.out.trans hend⟩
            by_cases hlen : n < p.1.size
            · have HN : Seal (p.1.size = (bestB d (c.ways.take (k + 1))).1.size) := ⟨by rw [HSN.out, betterB_yes hend (by rw [← HB.out]; exact hlen)]⟩
              clear hend
              go_wp2_with fail
              refine (implDomainIn_any d p.1 _ HMk.out (by omega) (by omega)).mono ?_
              rintro e u ⟨rfl, hbu⟩
              rw [HE.out]
              have t0 := heldc r0 hbu
              have t1 := heldc r1 hbu
              have t2 := heldc r2 hbu
              have y1 := heldc hc1 hbu
              have HBU : Seal _ := ⟨hb.out.trans (hbu.mono hb.out.size)⟩
              clear r0 r1 r2 hbu hc1 hc2
              go_wp2
              go_roundw
              case rel => exact ⟨k + 1, p.1.size, by omega, by go_num, rfl, s1, HN, t0, t1, t2, HBU⟩
              case measure => simp [intOf]; omega
            · have HN : Seal (n = (bestB d (c.ways.take (k + 1))).1.size) := ⟨by rw [HSN.out, betterB_no (.inr (by rw [← HB.out]; omega))]; exact HB.out⟩
              clear hend
              go_wp2_with fail
              refine (implDomainIn_any d p.1 _ HMk.out (by omega) (by omega)).mono ?_
              rintro e u ⟨rfl, hbu⟩
              rw [HE.out]
              have t0 := heldc r0 hbu
              have t1 := heldc r1 hbu
              have t2 := heldc r2 hbu
              have y1 := heldc hc1 hbu
              have HBU : Seal _ := ⟨hb.out.trans (hbu.mono hb.out.size)⟩
              clear r0 r1 r2 hbu hc1 hc2
              go_wp2
              go_roundw
              case rel => exact ⟨k + 1, n, by omega, by go_num, rfl, hn, HN, t0, t1, t2, HBU⟩
              case measure => simp [intOf]; omega
        · obtain rfl : k = c.ways.length := by omega
          have HB2 : Seal (n = (bestB d c.ways).1.size) := ⟨by have := HB.out; rwa [List.take_length] at this⟩
          clear HB
          have HN0 : Seal _ := ⟨hn⟩
          cases hz : t.toList.isEmpty <;> cases hy : ((n : Int) == 0)
          · have n0 : 0 < n := by have := ne_of_beq_false hy; omega
            have HY : Seal _ := ⟨n0⟩
            have HZ : Seal _ := ⟨hz⟩
            clear n0
            go_wp2
            clear hy
            go_loopw [10, 11] (fun o i u => ∃ k : Nat, k ≤ c.ways.length ∧ i = .int .i64 k ∧ o = .bool (isB d t n false (c.ways.take k)) ∧ u.cell? ⟨M, 0, none⟩ = some (.string c.name) ∧ u.cell? ⟨M, 1, none⟩ = some (.slice a1 c.own.length c1) ∧ u.cell? ⟨M, 2, none⟩ = some (.slice a2 c.ways.length c2) ∧ Seal (Below wr.heap.size wr u)) (fun _ i _ => c.ways.length - (intOf i).toNat)
            case atStart => exact ⟨0, Nat.zero_le _, rfl, rfl, r0, r1, r2, ⟨Below.refl _ _⟩⟩
            case round =>
              obtain ⟨k, hk, rfl, rfl, u0, u1, u2, hb4⟩ := hrel
              clear r0 r1 r2
              by_cases hlt : k < c.ways.length
              · obtain ⟨p, hp⟩ : ∃ p, c.ways[k]? = some p := ⟨_, List.getElem?_eq_getElem hlt⟩
                obtain ⟨b, off, rfl, hc1, hc2⟩ := (HA3.out.later (hb.out.trans (hb4.out.mono hb.out.size))).ways k p hp
                have s1 := (SZ.out.was p (List.mem_of_getElem? hp)).1
                have HSN : Seal _ := ⟨isB_snoc (d := d) (t := t) (n := n) (b := false) hp⟩
                have HMk : Seal _ := ⟨HM3.out.below (hb.out.trans (hb4.out.mono hb.out.size)) (Nat.le_refl _)⟩
                clear hp
                cases hq : isB d t n false (c.ways.take k)
                · skip
                  cases he : t.toList == p.2.toList
                  · skip
                    have HN : Seal (isB d t n false (c.ways.take (k + 1)) = false) := ⟨by rw [HSN.out, hq]; unfold isOne; rw [HZ.out, he]; rfl⟩
                    clear hq
                    go_wp2
                    go_roundw
                    case rel => exact ⟨k + 1, by omega, by go_num, by rw [HN.out], u0, u1, u2, hb4⟩
                    case measure => simp [intOf]; omega
                  · by_cases hn1 : p.1.size = n
                    · have e1 : ((p.1.size : Int) == (n : Int)) = true := by rw [hn1]; exact beq_self_eq_true _
                      have e2 : (p.1.size == n) = true := by rw [hn1]; exact beq_self_eq_true _
                      obtain ⟨v, hv⟩ : ∃ v, inDomB d p.1 = v := ⟨_, rfl⟩
                      have HE : Seal _ := ⟨hv⟩
                      have HN : Seal (isB d t n false (c.ways.take (k + 1)) = v) := ⟨by rw [HSN.out, hq]; unfold isOne; rw [HZ.out, he, hv, decide_eq_true hn1]; rfl⟩
                      clear hq
                      go_wp2_with fail
                      refine (implDomainIn_any d p.1 _ HMk.out (by omega) (by omega)).mono ?_
                      rintro e u' ⟨rfl, hbu⟩
                      rw [HE.out]
                      have t0 := heldc u0 hbu
                      have t1 := heldc u1 hbu
                      have t2 := heldc u2 hbu
                      have HBU : Seal _ := ⟨hb4.out.trans (hbu.mono hb4.out.size)⟩
                      clear u0 u1 u2 hbu hc1 hc2
                      go_wp2
                      go_roundw
                      case rel => exact ⟨k + 1, by omega, by go_num, by rw [HN.out], t0, t1, t2, HBU⟩
                      case measure => simp [intOf]; omega
                    · have e1 : ((p.1.size : Int) == (n : Int)) = false := by rw [beq_eq_false_iff_ne]; omega
                      have e2 : (p.1.size == n) = false := by rw [beq_eq_false_iff_ne]; exact hn1
                      have HN : Seal (isB d t n false (c.ways.take (k + 1)) = false) := ⟨by rw [HSN.out, hq]; unfold isOne; rw [HZ.out, he, decide_eq_false hn1]; rfl⟩
                      clear hq
                      go_wp2
                      go_roundw
                      case rel => exact ⟨k + 1, by omega, by go_num, by rw [HN.out], u0, u1, u2, hb4⟩
                      case measure => simp [intOf]; omega
                · skip
                  have HN : Seal (isB d t n false (c.ways.take (k + 1)) = true) := ⟨by rw [HSN.out, hq]; rfl⟩
                  clear hq
                  go_wp2
                  go_roundw
                  case rel => exact ⟨k + 1, by omega, by go_num, by rw [HN.out], u0, u1, u2, hb4⟩
                  case measure => simp [intOf]; omega
              · obtain rfl : k = c.ways.length := by omega
                simp only [List.take_length]
                have HMe : Seal _ := ⟨HM3.out.below (hb.out.trans (hb4.out.mono hb.out.size)) (Nat.le_refl _)⟩
                have HAe : Seal _ := ⟨HA3.out.later (hb.out.trans (hb4.out.mono hb.out.size))⟩
                cases h
                · have e0 := takes_way HV.out HD.out HH.out
                  rw [HT.out, ← HB2.out, HZ.out] at e0
                  have HK : Seal (takesB c ⟨#[97]⟩ d = true) := ⟨by rw [e0.1, decide_eq_true HY.out]⟩
                  have HIS : Seal (isB d t n false c.ways = true) := ⟨by have h5 := e0.2; have n3 := HY.out; rw [decide_eq_false (by omega)] at h5; exact h5⟩
                  have n1 := HY.out
                  clear e0
                  rw [HIS.out]
                  go_wp2_with fail
                  refine (implConfTakes_any c a1 c1 a2 c2 ⟨#[97]⟩ d _ HMe.out HAe.out SZ.out (by decide) (by omega)).mono ?_
                  rintro e u' ⟨rfl, hbu⟩
                  rw [HK.out]
                  have HBU : Seal _ := ⟨B3.out.trans ((hb.out.trans ((hb4.out.trans (hbu.mono hb4.out.size)).mono hb.out.size)).mono B3.out.size)⟩
                  clear hbu u0 u1 u2
                  go_wp2
                  go_ret
                  exact ⟨rfl, HBU.out⟩
                · have e0 := (takes_own HV.out HD.out HH.out).2
                  rw [HT.out, HZ.out] at e0
                  exact absurd e0 (by decide)
          · have n0 : n = 0 := by have := eq_of_beq hy; omega
            have HY : Seal _ := ⟨n0⟩
            have HZ : Seal _ := ⟨hz⟩
            clear n0
            go_wp2
            clear hy
            go_loopw [10, 11] (fun o i u => ∃ k : Nat, k ≤ c.ways.length ∧ i = .int .i64 k ∧ o = .bool (isB d t n false (c.ways.take k)) ∧ u.cell? ⟨M, 0, none⟩ = some (.string c.name) ∧ u.cell? ⟨M, 1, none⟩ = some (.slice a1 c.own.length c1) ∧ u.cell? ⟨M, 2, none⟩ = some (.slice a2 c.ways.length c2) ∧ Seal (Below wr.heap.size wr u)) (fun _ i _ => c.ways.length - (intOf i).toNat)
            case atStart => exact ⟨0, Nat.zero_le _, rfl, rfl, r0, r1, r2, ⟨Below.refl _ _⟩⟩
            case round =>
              obtain ⟨k, hk, rfl, rfl, u0, u1, u2, hb4⟩ := hrel
              clear r0 r1 r2
              by_cases hlt : k < c.ways.length
              · obtain ⟨p, hp⟩ : ∃ p, c.ways[k]? = some p := ⟨_, List.getElem?_eq_getElem hlt⟩
                obtain ⟨b, off, rfl, hc1, hc2⟩ := (HA3.out.later (hb.out.trans (hb4.out.mono hb.out.size))).ways k p hp
                have s1 := (SZ.out.was p (List.mem_of_getElem? hp)).1
                have HSN : Seal _ := ⟨isB_snoc (d := d) (t := t) (n := n) (b := false) hp⟩
                have HMk : Seal _ := ⟨HM3.out.below (hb.out.trans (hb4.out.mono hb.out.size)) (Nat.le_refl _)⟩
                clear hp
                cases hq : isB d t n false (c.ways.take k)
                · skip
                  cases he : t.toList == p.2.toList
                  · skip
                    have HN : Seal (isB d t n false (c.ways.take (k + 1)) = false) := ⟨by rw [HSN.out, hq]; unfold isOne; rw [HZ.out, he]; rfl⟩
                    clear hq
                    go_wp2
                    go_roundw
                    case rel => exact ⟨k + 1, by omega, by go_num, by rw [HN.out], u0, u1, u2, hb4⟩
                    case measure => simp [intOf]; omega
                  · by_cases hn1 : p.1.size = n
                    · have e1 : ((p.1.size : Int) == (n : Int)) = true := by rw [hn1]; exact beq_self_eq_true _
                      have e2 : (p.1.size == n) = true := by rw [hn1]; exact beq_self_eq_true _
                      obtain ⟨v, hv⟩ : ∃ v, inDomB d p.1 = v := ⟨_, rfl⟩
                      have HE : Seal _ := ⟨hv⟩
                      have HN : Seal (isB d t n false (c.ways.take (k + 1)) = v) := ⟨by rw [HSN.out, hq]; unfold isOne; rw [HZ.out, he, hv, decide_eq_true hn1]; rfl⟩
                      clear hq
                      go_wp2_with fail
                      refine (implDomainIn_any d p.1 _ HMk.out (by omega) (by omega)).mono ?_
                      rintro e u' ⟨rfl, hbu⟩
                      rw [HE.out]
                      have t0 := heldc u0 hbu
                      have t1 := heldc u1 hbu
                      have t2 := heldc u2 hbu
                      have HBU : Seal _ := ⟨hb4.out.trans (hbu.mono hb4.out.size)⟩
                      clear u0 u1 u2 hbu hc1 hc2
                      go_wp2
                      go_roundw
                      case rel => exact ⟨k + 1, by omega, by go_num, by rw [HN.out], t0, t1, t2, HBU⟩
                      case measure => simp [intOf]; omega
                    · have e1 : ((p.1.size : Int) == (n : Int)) = false := by rw [beq_eq_false_iff_ne]; omega
                      have e2 : (p.1.size == n) = false := by rw [beq_eq_false_iff_ne]; exact hn1
                      have HN : Seal (isB d t n false (c.ways.take (k + 1)) = false) := ⟨by rw [HSN.out, hq]; unfold isOne; rw [HZ.out, he, decide_eq_false hn1]; rfl⟩
                      clear hq
                      go_wp2
                      go_roundw
                      case rel => exact ⟨k + 1, by omega, by go_num, by rw [HN.out], u0, u1, u2, hb4⟩
                      case measure => simp [intOf]; omega
                · skip
                  have HN : Seal (isB d t n false (c.ways.take (k + 1)) = true) := ⟨by rw [HSN.out, hq]; rfl⟩
                  clear hq
                  go_wp2
                  go_roundw
                  case rel => exact ⟨k + 1, by omega, by go_num, by rw [HN.out], u0, u1, u2, hb4⟩
                  case measure => simp [intOf]; omega
              · obtain rfl : k = c.ways.length := by omega
                simp only [List.take_length]
                have HMe : Seal _ := ⟨HM3.out.below (hb.out.trans (hb4.out.mono hb.out.size)) (Nat.le_refl _)⟩
                have HAe : Seal _ := ⟨HA3.out.later (hb.out.trans (hb4.out.mono hb.out.size))⟩
                cases h
                · have e0 := takes_way HV.out HD.out HH.out
                  rw [HT.out, ← HB2.out, HZ.out] at e0
                  have HK : Seal (takesB c ⟨#[97]⟩ d = false) := ⟨by rw [e0.1, HY.out]; rfl⟩
                  have HIS : Seal (isB d t n false c.ways = true) := ⟨by have h5 := e0.2; rw [decide_eq_true HY.out] at h5; exact h5⟩
                  have n1 : decide (0 < n) = false := by rw [HY.out]; rfl
                  clear e0
                  rw [HIS.out]
                  go_wp2_with fail
                  refine (implConfTakes_any c a1 c1 a2 c2 ⟨#[97]⟩ d _ HMe.out HAe.out SZ.out (by decide) (by omega)).mono ?_
                  rintro e u' ⟨rfl, hbu⟩
                  rw [HK.out]
                  have HBU : Seal _ := ⟨B3.out.trans ((hb.out.trans ((hb4.out.trans (hbu.mono hb4.out.size)).mono hb.out.size)).mono B3.out.size)⟩
                  clear hbu u0 u1 u2
                  go_wp2
                  go_ret
                  exact ⟨rfl, HBU.out⟩
                · have e0 := (takes_own HV.out HD.out HH.out).2
                  rw [HT.out, HZ.out] at e0
                  exact absurd e0 (by decide)
          · have n0 : 0 < n := by have := ne_of_beq_false hy; omega
            have HY : Seal _ := ⟨n0⟩
            have HZ : Seal _ := ⟨hz⟩
            clear n0
            go_wp2
            clear hy
            go_loopw [10, 11] (fun o i u => ∃ k : Nat, k ≤ c.ways.length ∧ i = .int .i64 k ∧ o = .bool (isB d t n false (c.ways.take k)) ∧ u.cell? ⟨M, 0, none⟩ = some (.string c.name) ∧ u.cell? ⟨M, 1, none⟩ = some (.slice a1 c.own.length c1) ∧ u.cell? ⟨M, 2, none⟩ = some (.slice a2 c.ways.length c2) ∧ Seal (Below wr.heap.size wr u)) (fun _ i _ => c.ways.length - (intOf i).toNat)
            case atStart => exact ⟨0, Nat.zero_le _, rfl, rfl, r0, r1, r2, ⟨Below.refl _ _⟩⟩
            case round =>
              obtain ⟨k, hk, rfl, rfl, u0, u1, u2, hb4⟩ := hrel
              clear r0 r1 r2
              by_cases hlt : k < c.ways.length
              · obtain ⟨p, hp⟩ : ∃ p, c.ways[k]? = some p := ⟨_, List.getElem?_eq_getElem hlt⟩
                obtain ⟨b, off, rfl, hc1, hc2⟩ := (HA3.out.later (hb.out.trans (hb4.out.mono hb.out.size))).ways k p hp
                have s1 := (SZ.out.was p (List.mem_of_getElem? hp)).1
                have HSN : Seal _ := ⟨isB_snoc (d := d) (t := t) (n := n) (b := false) hp⟩
                have HMk : Seal _ := ⟨HM3.out.below (hb.out.trans (hb4.out.mono hb.out.size)) (Nat.le_refl _)⟩
                clear hp
                cases hq : isB d t n false (c.ways.take k)
                · skip
                  have HN : Seal (isB d t n false (c.ways.take (k + 1)) = false) := ⟨by rw [HSN.out, hq]; unfold isOne; rw [HZ.out]; rfl⟩
                  clear hq
                  go_wp2
                  go_roundw
                  case rel => exact ⟨k + 1, by omega, by go_num, by rw [HN.out], u0, u1, u2, hb4⟩
                  case measure => simp [intOf]; omega
                · skip
                  have HN : Seal (isB d t n false (c.ways.take (k + 1)) = true) := ⟨by rw [HSN.out, hq]; rfl⟩
                  clear hq
                  go_wp2
                  go_roundw
                  case rel => exact ⟨k + 1, by omega, by go_num, by rw [HN.out], u0, u1, u2, hb4⟩
                  case measure => simp [intOf]; omega
              · obtain rfl : k = c.ways.length := by omega
                simp only [List.take_length]
                have HMe : Seal _ := ⟨HM3.out.below (hb.out.trans (hb4.out.mono hb.out.size)) (Nat.le_refl _)⟩
                have HAe : Seal _ := ⟨HA3.out.later (hb.out.trans (hb4.out.mono hb.out.size))⟩
                cases h
                · have e0 := takes_way HV.out HD.out HH.out
                  rw [HT.out, ← HB2.out, HZ.out] at e0
                  have HK : Seal (takesB c ⟨#[97]⟩ d = true) := ⟨by rw [e0.1, decide_eq_true HY.out]⟩
                  have HIS : Seal (isB d t n false c.ways = true) := ⟨by have h5 := e0.2; have n3 := HY.out; rw [decide_eq_false (by omega)] at h5; exact h5⟩
                  have n1 := HY.out
                  clear e0
                  rw [HIS.out]
                  go_wp2_with fail
                  refine (implConfTakes_any c a1 c1 a2 c2 ⟨#[97]⟩ d _ HMe.out HAe.out SZ.out (by decide) (by omega)).mono ?_
                  rintro e u' ⟨rfl, hbu⟩
                  rw [HK.out]
                  have HBU : Seal _ := ⟨B3.out.trans ((hb.out.trans ((hb4.out.trans (hbu.mono hb4.out.size)).mono hb.out.size)).mono B3.out.size)⟩
                  clear hbu u0 u1 u2
                  go_wp2
                  go_ret
                  exact ⟨rfl, HBU.out⟩
                · have HK : Seal _ := ⟨(takes_own HV.out HD.out HH.out).1⟩
                  generalize isB d t n false c.ways = is
                  go_wp2_with fail
                  refine (implConfTakes_any c a1 c1 a2 c2 ⟨#[97]⟩ d _ HMe.out HAe.out SZ.out (by decide) (by omega)).mono ?_
                  rintro e u' ⟨rfl, hbu⟩
                  rw [HK.out]
                  have HBU : Seal _ := ⟨B3.out.trans ((hb.out.trans ((hb4.out.trans (hbu.mono hb4.out.size)).mono hb.out.size)).mono B3.out.size)⟩
                  clear hbu u0 u1 u2
                  go_wp2
                  go_ret
                  exact ⟨rfl, HBU.out⟩
          · have n0 : n = 0 := by have := eq_of_beq hy; omega
            have HY : Seal _ := ⟨n0⟩
            have HZ : Seal _ := ⟨hz⟩
            clear n0
            go_wp2
            clear hy
            go_loopw [10, 11] (fun o i u => ∃ k : Nat, k ≤ c.ways.length ∧ i = .int .i64 k ∧ o = .bool (isB d t n true (c.ways.take k)) ∧ u.cell? ⟨M, 0, none⟩ = some (.string c.name) ∧ u.cell? ⟨M, 1, none⟩ = some (.slice a1 c.own.length c1) ∧ u.cell? ⟨M, 2, none⟩ = some (.slice a2 c.ways.length c2) ∧ Seal (Below wr.heap.size wr u)) (fun _ i _ => c.ways.length - (intOf i).toNat)
            case atStart => exact ⟨0, Nat.zero_le _, rfl, rfl, r0, r1, r2, ⟨Below.refl _ _⟩⟩
            case round =>
              obtain ⟨k, hk, rfl, rfl, u0, u1, u2, hb4⟩ := hrel
              clear r0 r1 r2
              by_cases hlt : k < c.ways.length
              · obtain ⟨p, hp⟩ : ∃ p, c.ways[k]? = some p := ⟨_, List.getElem?_eq_getElem hlt⟩
                obtain ⟨b, off, rfl, hc1, hc2⟩ := (HA3.out.later (hb.out.trans (hb4.out.mono hb.out.size))).ways k p hp
                have s1 := (SZ.out.was p (List.mem_of_getElem? hp)).1
                have HSN : Seal _ := ⟨isB_snoc (d := d) (t := t) (n := n) (b := true) hp⟩
                have HMk : Seal _ := ⟨HM3.out.below (hb.out.trans (hb4.out.mono hb.out.size)) (Nat.le_refl _)⟩
                clear hp
                cases hq : isB d t n true (c.ways.take k)
                · skip
                  have HN : Seal (isB d t n true (c.ways.take (k + 1)) = false) := ⟨by rw [HSN.out, hq]; unfold isOne; rw [HZ.out]; rfl⟩
                  clear hq
                  go_wp2
                  go_roundw
                  case rel => exact ⟨k + 1, by omega, by go_num, by rw [HN.out], u0, u1, u2, hb4⟩
                  case measure => simp [intOf]; omega
                · skip
                  have HN : Seal (isB d t n true (c.ways.take (k + 1)) = true) := ⟨by rw [HSN.out, hq]; rfl⟩
                  clear hq
                  go_wp2
                  go_roundw
                  case rel => exact ⟨k + 1, by omega, by go_num, by rw [HN.out], u0, u1, u2, hb4⟩
                  case measure => simp [intOf]; omega
              · obtain rfl : k = c.ways.length := by omega
                simp only [List.take_length]
                have HMe : Seal _ := ⟨HM3.out.below (hb.out.trans (hb4.out.mono hb.out.size)) (Nat.le_refl _)⟩
                have HAe : Seal _ := ⟨HA3.out.later (hb.out.trans (hb4.out.mono hb.out.size))⟩
                cases h
                · have e0 := takes_way HV.out HD.out HH.out
                  rw [HT.out, ← HB2.out, HZ.out] at e0
                  have HK : Seal (takesB c ⟨#[97]⟩ d = false) := ⟨by rw [e0.1, HY.out]; rfl⟩
                  have HIS : Seal (isB d t n true c.ways = true) := ⟨by have h5 := e0.2; rw [decide_eq_true HY.out] at h5; exact h5⟩
                  have n1 : decide (0 < n) = false := by rw [HY.out]; rfl
                  clear e0
                  rw [HIS.out]
                  go_wp2_with fail
                  refine (implConfTakes_any c a1 c1 a2 c2 ⟨#[97]⟩ d _ HMe.out HAe.out SZ.out (by decide) (by omega)).mono ?_
                  rintro e u' ⟨rfl, hbu⟩
                  rw [HK.out]
                  have HBU : Seal _ := ⟨B3.out.trans ((hb.out.trans ((hb4.out.trans (hbu.mono hb4.out.size)).mono hb.out.size)).mono B3.out.size)⟩
                  clear hbu u0 u1 u2
                  go_wp2
                  go_ret
                  exact ⟨rfl, HBU.out⟩
                · have HK : Seal _ := ⟨(takes_own HV.out HD.out HH.out).1⟩
                  generalize isB d t n true c.ways = is
                  go_wp2_with fail
                  refine (implConfTakes_any c a1 c1 a2 c2 ⟨#[97]⟩ d _ HMe.out HAe.out SZ.out (by decide) (by omega)).mono ?_
                  rintro e u' ⟨rfl, hbu⟩
                  rw [HK.out]
                  have HBU : Seal _ := ⟨B3.out.trans ((hb.out.trans ((hb4.out.trans (hbu.mono hb4.out.size)).mono hb.out.size)).mono B3.out.size)⟩
                  clear hbu u0 u1 u2
                  go_wp2
                  go_ret
                  exact ⟨rfl, HBU.out⟩
end Go.Proofs.YtgjkoegpdfcadaaDoor
