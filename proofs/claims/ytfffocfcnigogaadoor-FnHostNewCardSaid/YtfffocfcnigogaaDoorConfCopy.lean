/- Contracts: a host's settings copied by the model. -/
import Derived.Test.YtfffocfcnigogaaDoorSpoolCopies
import Derived.Test.YtfffocfcnigogaaDoorClone
import Derived.Test.YtfffocfcnigogaaDoorConfOk
import Derived.Deep.RegionHeld3
namespace Go.Proofs.YtfffocfcnigogaaDoor
open Go Go.RowKit

/-- The rows of settings that a call owns. -/
abbrev confR (eA : Option Addr) (dA : Nat) (eB : Option Addr) (dB : Nat) (c : ConfD) : List Res :=
  [Res.row 9 1 (.slice eA c.own.length dA) c.own.length (c.own.map Value.string), Res.row 114 2 (.slice eB c.ways.length dB) c.ways.length (pairCells c.ways)]

set_option maxHeartbeats 16000000 in
set_option maxRecDepth 100000 in
theorem l7CopyConf_any {X : Nat → Prop} (L : List Res) (c : ConfD) (a1 : Option Addr) (c1 : Nat) (a2 : Option Addr) (c2 : Nat) (w0 w : World) (h : StX X w0 w L) (hr : ∀ r ∈ confR a1 c1 a2 c2 c, r ∈ L) (zA : c.own.length ≤ 1048576) (zB : c.ways.length ≤ 1048576) :
    Calls Tryd.prog 62 #[.agg (confV c a1 c1 a2 c2)] w fun e w' => ∃ eA dA eB dB, e = .returned (.agg (confV c eA dA eB dB)) ∧ St w w' (confR eA dA eB dB c) := by
  obtain ⟨iA, iAi, iA0, iA1, iA2⟩ := info_parts infoS
  obtain ⟨iB, iBi, iB0, iB1, iB2⟩ := info_parts infoWay
  have s0 := ((St.start w).alloc (confV c a1 c1 a2 c2) 53).alloc #[.string { data := #[] }, .slice none 0 0, .slice none 0 0] 53
  simp only [World.size_alloc] at s0
  have S0 : Seal _ := ⟨s0⟩
  have HS : Seal _ := ⟨h⟩
  have HRA : Seal _ := ⟨hr _ List.mem_cons_self⟩
  have HRB : Seal _ := ⟨hr _ (List.mem_cons_of_mem _ List.mem_cons_self)⟩
  clear s0 h hr
  go_enter Tryd.func62, Tryd.ntmps62
  go_wp2_with fail
  obtain ⟨W, hW⟩ : ∃ W, W = (w.alloc (.cells (confV c a1 c1 a2 c2) 53)).alloc (.cells #[.string { data := #[] }, .slice none 0 0, .slice none 0 0] 53) := ⟨_, rfl⟩
  rw [← hW] at S0 ⊢
  have SN0 : Seal (St w W.drew [Res.cells (w.heap.size + 1) [.string { data := #[] }, .slice none 0 0, .slice none 0 0], Res.cells w.heap.size [.string c.name, .slice a1 c.own.length c1, .slice a2 c.ways.length c2]]) := ⟨S0.out.drew⟩
  clear S0 hW
  refine wp_region_held_drew (S := (fun w' => w'.cell? ⟨w.heap.size, 0, none⟩ = some (.string c.name) ∧ w'.cell? ⟨w.heap.size, 1, none⟩ = some (.slice a1 c.own.length c1) ∧ w'.cell? ⟨w.heap.size, 2, none⟩ = some (.slice a2 c.ways.length c2) ∧ Below w.heap.size w w')) (by kernel_rfl) ⟨(SN0.out.two.head).c 0 _ rfl, (SN0.out.two.head).c 1 _ rfl, (SN0.out.two.head).c 2 _ rfl, SN0.out.below⟩ (fun hHeld => ?_)
  (refine wpAnyH_take (i := 0) (v := ?_) rfl (by kernel_rfl) (by kernel_rfl) (by kernel_rfl) (fun _ _ _ h => h) (Or.inl ⟨by rfl, ?_⟩) (by assumption) ?_; rotate_left; (intro w hSw; (try dsimp only at hSw); go_split_ands; go_simp; first | done | with_reducible rfl); rotate_left; simp only [Act.put, List.getElem_toArray, List.getElem_cons_zero, List.setIfInBounds_toArray, List.set_cons_succ, List.set_cons_zero])
  (refine wpAnyH_take (i := 1) (v := ?_) rfl (by kernel_rfl) (by kernel_rfl) (by kernel_rfl) (fun _ _ _ h => h) (Or.inl ⟨by rfl, ?_⟩) (by assumption) ?_; rotate_left; (intro w hSw; (try dsimp only at hSw); go_split_ands; go_simp; first | done | with_reducible rfl); rotate_left; simp only [Act.put, List.getElem_toArray, List.getElem_cons_succ, List.getElem_cons_zero, List.setIfInBounds_toArray, List.set_cons_succ, List.set_cons_zero])
  (refine wpAnyH_take (i := 3) (v := ?_) rfl (by kernel_rfl) (by kernel_rfl) (by kernel_rfl) (fun _ _ _ h => h) (Or.inl ⟨by rfl, ?_⟩) (by assumption) ?_; rotate_left; (intro w hSw; (try dsimp only at hSw); go_split_ands; go_simp; first | done | with_reducible rfl); rotate_left; simp only [Act.put, List.getElem_toArray, List.getElem_cons_succ, List.getElem_cons_zero, List.setIfInBounds_toArray, List.set_cons_succ, List.set_cons_zero])
  (refine wpAnyH_take (i := 4) (v := ?_) rfl (by kernel_rfl) (by kernel_rfl) (by kernel_rfl) (fun _ _ _ h => h) (Or.inl ⟨by rfl, ?_⟩) (by assumption) ?_; rotate_left; (intro w hSw; (try dsimp only at hSw); go_split_ands; go_simp; first | done | with_reducible rfl); rotate_left; simp only [Act.put, List.getElem_toArray, List.getElem_cons_succ, List.getElem_cons_zero, List.setIfInBounds_toArray, List.set_cons_succ, List.set_cons_zero])
  (refine wpAnyH_take (i := 7) (v := ?_) rfl (by kernel_rfl) (by kernel_rfl) (by kernel_rfl) (fun _ _ _ h => h) (Or.inl ⟨by rfl, ?_⟩) (by assumption) ?_; rotate_left; (intro w hSw; (try dsimp only at hSw); go_split_ands; go_simp; first | done | with_reducible rfl); rotate_left; simp only [Act.put, List.getElem_toArray, List.getElem_cons_succ, List.getElem_cons_zero, List.setIfInBounds_toArray, List.set_cons_succ, List.set_cons_zero])
  (refine wpAnyH_take (i := 8) (v := ?_) rfl (by kernel_rfl) (by kernel_rfl) (by kernel_rfl) (fun _ _ _ h => h) (Or.inl ⟨by rfl, ?_⟩) (by assumption) ?_; rotate_left; (intro w hSw; (try dsimp only at hSw); go_split_ands; go_simp; first | done | with_reducible rfl); rotate_left; simp only [Act.put, List.getElem_toArray, List.getElem_cons_succ, List.getElem_cons_zero, List.setIfInBounds_toArray, List.set_cons_succ, List.set_cons_zero])
  refine wpAnyH_ready (rs := [2, 6]) (by kernel_rfl) (by simp) ?_
  refine AllReadyH.cons rfl (fun K hK => ?_) (AllReadyH.cons rfl (fun K hK => ?_) AllReadyH.nil)
  · go_simp
    have sn := SN0.out.made 9 1 #[] 0 (Nat.zero_le _) rfl
    try simp only [World.size_drew'] at sn
    have SN1 : Seal _ := ⟨sn⟩
    clear sn
    refine hK.out _ _ ⟨(SN1.out.three.head).c 0 _ rfl, (SN1.out.three.head).c 1 _ rfl, (SN1.out.three.head).c 2 _ rfl, SN1.out.below⟩ (fun hHeld => ?_)
    clear hK K SN0
    try simp only [Act.put, List.getElem_toArray, List.getElem_cons_succ, List.getElem_cons_zero, List.setIfInBounds_toArray, List.set_cons_zero, List.set_cons_succ]
    refine wpAnyH_ready (rs := [5, 6]) (by kernel_rfl) (by simp) ?_
    refine AllReadyH.cons rfl (fun K hK => ?_) (AllReadyH.cons rfl (fun K hK => ?_) AllReadyH.nil)
    · have SH := SN1.out
      have OW : Seal _ := ⟨SH.head⟩
      have SRC : Seal _ := ⟨(HS.out.later SN1.out.below).get HRA.out⟩
      refine step_append_any rfl _ _ 40 rfl 0 9 iA (.string ByteArray.empty) 1 16 Tryd.underlying40 iAi iA0 iA1 iA2 rfl (by decide) _ 0 [] (by rfl) OW.out a1 c.own.length c1 (c.own.map Value.string) (by rfl) SRC.out (strs_one _) (by unfold maxLen; omega) (by omega) (Nat.zero_le _) ?_
      intro v' w' hown hg hat
      rw [Nat.zero_add, List.nil_append] at hown
      obtain ⟨eA, dA, rfl, _⟩ := row_value hown
      have SN2 : Seal _ := ⟨SH.app hown hg hat⟩
      clear hown hg hat OW SRC SH
      refine hK.out _ _ ⟨(SN2.out.three.head).c 0 _ rfl, (SN2.out.three.head).c 1 _ rfl, (SN2.out.three.head).c 2 _ rfl, SN2.out.below⟩ (fun hHeld => ?_)
      clear hK K SN1
      try simp only [Act.put, List.getElem_toArray, List.getElem_cons_succ, List.getElem_cons_zero, List.setIfInBounds_toArray, List.set_cons_zero, List.set_cons_succ]
      refine wpAnyH_ready (rs := [6]) (by kernel_rfl) (by simp) ?_
      refine AllReadyH.cons rfl (fun K hK => ?_) AllReadyH.nil
      · go_simp
        have sn := SN2.out.made 114 2 #[] 0 (Nat.zero_le _) rfl
        try simp only [World.size_alloc, World.size_drew'] at sn
        have SN3 : Seal _ := ⟨sn⟩
        clear sn
        refine hK.out _ _ ⟨(SN3.out.four.head).c 0 _ rfl, (SN3.out.four.head).c 1 _ rfl, (SN3.out.four.head).c 2 _ rfl, SN3.out.below⟩ (fun hHeld => ?_)
        clear hK K SN2
        try simp only [Act.put, List.getElem_toArray, List.getElem_cons_succ, List.getElem_cons_zero, List.setIfInBounds_toArray, List.set_cons_zero, List.set_cons_succ]
        refine wpAnyH_ready (rs := [9]) (by kernel_rfl) (by simp) ?_
        refine AllReadyH.cons rfl (fun K hK => ?_) AllReadyH.nil
        · have SH := SN3.out
          have OW : Seal _ := ⟨SH.head⟩
          have SRC : Seal _ := ⟨(HS.out.later SN3.out.below).get HRB.out⟩
          refine step_append_any rfl _ _ 51 rfl 0 114 iB (.agg #[.string ByteArray.empty, .string ByteArray.empty]) 2 32 Tryd.underlying51 iBi iB0 iB1 iB2 rfl (by decide) _ 0 [] (by rfl) OW.out a2 c.ways.length c2 (pairCells c.ways) (by rfl) SRC.out (pairs_one' _) (by unfold maxLen; omega) (by omega) (Nat.zero_le _) ?_
          intro v' w' hown hg hat
          rw [Nat.zero_add, List.nil_append] at hown
          obtain ⟨eB, dB, rfl, _⟩ := row_value hown
          have SN4 : Seal _ := ⟨SH.app hown hg hat⟩
          clear hown hg hat OW SRC SH
          refine hK.out _ _ ⟨(SN4.out.four.head).c 0 _ rfl, (SN4.out.four.head).c 1 _ rfl, (SN4.out.four.head).c 2 _ rfl, SN4.out.below⟩ (fun hHeld => ?_)
          clear hK K SN3
          try simp only [Act.put, List.getElem_toArray, List.getElem_cons_succ, List.getElem_cons_zero, List.setIfInBounds_toArray, List.set_cons_zero, List.set_cons_succ]
          (refine wpAnyH_take (i := 10) (v := ?_) rfl (by kernel_rfl) (by kernel_rfl) (by kernel_rfl) (fun _ _ _ h => h) (Or.inl ⟨by rfl, ?_⟩) (by assumption) ?_; rotate_left; (intro w hSw; (try dsimp only at hSw); go_split_ands; go_simp; first | done | with_reducible rfl); rotate_left; simp only [Act.put, List.getElem_toArray, List.getElem_cons_succ, List.getElem_cons_zero, List.setIfInBounds_toArray, List.set_cons_succ, List.set_cons_zero])
          have SR4 := SN4.out.three
          have r0 := SR4.head.c 0 _ rfl
          have fr0 := SR4.head.f 0 (by simp)
          have r1 := SR4.head.c 1 _ rfl
          have fr1 := SR4.head.f 1 (by simp)
          have r2 := SR4.head.c 2 _ rfl
          have fr2 := SR4.head.f 2 (by simp)
          refine wpAnyH_ready (rs := [11]) (by kernel_rfl) (by simp) ?_
          refine AllReadyH.cons rfl (fun K hK => ?_) AllReadyH.nil
          go_simp
          have SF : Seal _ := ⟨(((SR4.set 0 (.string c.name) (by simp)).set 1 (.slice eA c.own.length dA) (by simp)).set 2 (.slice eB c.ways.length dB) (by simp))⟩
          refine hK.out _ _ ⟨(SF.out.four.head).c 0 _ rfl, (SF.out.four.head).c 1 _ rfl, (SF.out.four.head).c 2 _ rfl, SF.out.below⟩ (fun _ => ?_)
          clear hK K
          refine wpAnyH_done (by kernel_rfl) ?_ _
          have t0 := SF.out.head.c 0 _ rfl
          have t1 := SF.out.head.c 1 _ rfl
          have t2 := SF.out.head.c 2 _ rfl
          clear SR4 SN4 r0 fr0 r1 fr1 r2 fr2
          go_wp2
          exact bodyPost_ret (v := .agg (confV c eA dA eB dB)) (by simp [results, Tryd.results62, go_sem, t0, t1, t2]) rfl ⟨eA, dA, eB, dB, rfl, (SF.out.tail.two).first (l := confR eA dA eB dB c)⟩
    · go_simp
      have sn := SN1.out.made 114 2 #[] 0 (Nat.zero_le _) rfl
      try simp only [World.size_alloc, World.size_drew'] at sn
      have SN2 : Seal _ := ⟨sn⟩
      clear sn
      refine hK.out _ _ ⟨(SN2.out.four.head).c 0 _ rfl, (SN2.out.four.head).c 1 _ rfl, (SN2.out.four.head).c 2 _ rfl, SN2.out.below⟩ (fun hHeld => ?_)
      clear hK K SN1
      try simp only [Act.put, List.getElem_toArray, List.getElem_cons_succ, List.getElem_cons_zero, List.setIfInBounds_toArray, List.set_cons_zero, List.set_cons_succ]
      refine wpAnyH_ready (rs := [5]) (by kernel_rfl) (by simp) ?_
      refine AllReadyH.cons rfl (fun K hK => ?_) AllReadyH.nil
      · have SH := SN2.out.two
        have OW : Seal _ := ⟨SH.head⟩
        have SRC : Seal _ := ⟨(HS.out.later SN2.out.below).get HRA.out⟩
        refine step_append_any rfl _ _ 40 rfl 0 9 iA (.string ByteArray.empty) 1 16 Tryd.underlying40 iAi iA0 iA1 iA2 rfl (by decide) _ 0 [] (by rfl) OW.out a1 c.own.length c1 (c.own.map Value.string) (by rfl) SRC.out (strs_one _) (by unfold maxLen; omega) (by omega) (Nat.zero_le _) ?_
        intro v' w' hown hg hat
        rw [Nat.zero_add, List.nil_append] at hown
        obtain ⟨eA, dA, rfl, _⟩ := row_value hown
        have SN3 : Seal _ := ⟨SH.app hown hg hat⟩
        clear hown hg hat OW SRC SH
        refine hK.out _ _ ⟨(SN3.out.four.head).c 0 _ rfl, (SN3.out.four.head).c 1 _ rfl, (SN3.out.four.head).c 2 _ rfl, SN3.out.below⟩ (fun hHeld => ?_)
        clear hK K SN2
        try simp only [Act.put, List.getElem_toArray, List.getElem_cons_succ, List.getElem_cons_zero, List.setIfInBounds_toArray, List.set_cons_zero, List.set_cons_succ]
        refine wpAnyH_ready (rs := [9]) (by kernel_rfl) (by simp) ?_
        refine AllReadyH.cons rfl (fun K hK => ?_) AllReadyH.nil
        · have SH := SN3.out.two
          have OW : Seal _ := ⟨SH.head⟩
          have SRC : Seal _ := ⟨(HS.out.later SN3.out.below).get HRB.out⟩
          refine step_append_any rfl _ _ 51 rfl 0 114 iB (.agg #[.string ByteArray.empty, .string ByteArray.empty]) 2 32 Tryd.underlying51 iBi iB0 iB1 iB2 rfl (by decide) _ 0 [] (by rfl) OW.out a2 c.ways.length c2 (pairCells c.ways) (by rfl) SRC.out (pairs_one' _) (by unfold maxLen; omega) (by omega) (Nat.zero_le _) ?_
          intro v' w' hown hg hat
          rw [Nat.zero_add, List.nil_append] at hown
          obtain ⟨eB, dB, rfl, _⟩ := row_value hown
          have SN4 : Seal _ := ⟨SH.app hown hg hat⟩
          clear hown hg hat OW SRC SH
          refine hK.out _ _ ⟨(SN4.out.four.head).c 0 _ rfl, (SN4.out.four.head).c 1 _ rfl, (SN4.out.four.head).c 2 _ rfl, SN4.out.below⟩ (fun hHeld => ?_)
          clear hK K SN3
          try simp only [Act.put, List.getElem_toArray, List.getElem_cons_succ, List.getElem_cons_zero, List.setIfInBounds_toArray, List.set_cons_zero, List.set_cons_succ]
          (refine wpAnyH_take (i := 10) (v := ?_) rfl (by kernel_rfl) (by kernel_rfl) (by kernel_rfl) (fun _ _ _ h => h) (Or.inl ⟨by rfl, ?_⟩) (by assumption) ?_; rotate_left; (intro w hSw; (try dsimp only at hSw); go_split_ands; go_simp; first | done | with_reducible rfl); rotate_left; simp only [Act.put, List.getElem_toArray, List.getElem_cons_succ, List.getElem_cons_zero, List.setIfInBounds_toArray, List.set_cons_succ, List.set_cons_zero])
          have SR4 := SN4.out.three
          have r0 := SR4.head.c 0 _ rfl
          have fr0 := SR4.head.f 0 (by simp)
          have r1 := SR4.head.c 1 _ rfl
          have fr1 := SR4.head.f 1 (by simp)
          have r2 := SR4.head.c 2 _ rfl
          have fr2 := SR4.head.f 2 (by simp)
          refine wpAnyH_ready (rs := [11]) (by kernel_rfl) (by simp) ?_
          refine AllReadyH.cons rfl (fun K hK => ?_) AllReadyH.nil
          go_simp
          have SF : Seal _ := ⟨(((SR4.set 0 (.string c.name) (by simp)).set 1 (.slice eA c.own.length dA) (by simp)).set 2 (.slice eB c.ways.length dB) (by simp))⟩
          refine hK.out _ _ ⟨(SF.out.four.head).c 0 _ rfl, (SF.out.four.head).c 1 _ rfl, (SF.out.four.head).c 2 _ rfl, SF.out.below⟩ (fun _ => ?_)
          clear hK K
          refine wpAnyH_done (by kernel_rfl) ?_ _
          have t0 := SF.out.head.c 0 _ rfl
          have t1 := SF.out.head.c 1 _ rfl
          have t2 := SF.out.head.c 2 _ rfl
          clear SR4 SN4 r0 fr0 r1 fr1 r2 fr2
          go_wp2
          exact bodyPost_ret (v := .agg (confV c eA dA eB dB)) (by simp [results, Tryd.results62, go_sem, t0, t1, t2]) rfl ⟨eA, dA, eB, dB, rfl, (SF.out.tail.two).first (l := confR eA dA eB dB c)⟩
  · go_simp
    have sn := SN0.out.made 114 2 #[] 0 (Nat.zero_le _) rfl
    try simp only [World.size_drew'] at sn
    have SN1 : Seal _ := ⟨sn⟩
    clear sn
    refine hK.out _ _ ⟨(SN1.out.three.head).c 0 _ rfl, (SN1.out.three.head).c 1 _ rfl, (SN1.out.three.head).c 2 _ rfl, SN1.out.below⟩ (fun hHeld => ?_)
    clear hK K SN0
    try simp only [Act.put, List.getElem_toArray, List.getElem_cons_succ, List.getElem_cons_zero, List.setIfInBounds_toArray, List.set_cons_zero, List.set_cons_succ]
    refine wpAnyH_ready (rs := [2]) (by kernel_rfl) (by simp) ?_
    refine AllReadyH.cons rfl (fun K hK => ?_) AllReadyH.nil
    · go_simp
      have sn := SN1.out.made 9 1 #[] 0 (Nat.zero_le _) rfl
      try simp only [World.size_alloc, World.size_drew'] at sn
      have SN2 : Seal _ := ⟨sn⟩
      clear sn
      refine hK.out _ _ ⟨(SN2.out.four.head).c 0 _ rfl, (SN2.out.four.head).c 1 _ rfl, (SN2.out.four.head).c 2 _ rfl, SN2.out.below⟩ (fun hHeld => ?_)
      clear hK K SN1
      try simp only [Act.put, List.getElem_toArray, List.getElem_cons_succ, List.getElem_cons_zero, List.setIfInBounds_toArray, List.set_cons_zero, List.set_cons_succ]
      refine wpAnyH_ready (rs := [5]) (by kernel_rfl) (by simp) ?_
      refine AllReadyH.cons rfl (fun K hK => ?_) AllReadyH.nil
      · have SH := SN2.out
        have OW : Seal _ := ⟨SH.head⟩
        have SRC : Seal _ := ⟨(HS.out.later SN2.out.below).get HRA.out⟩
        refine step_append_any rfl _ _ 40 rfl 0 9 iA (.string ByteArray.empty) 1 16 Tryd.underlying40 iAi iA0 iA1 iA2 rfl (by decide) _ 0 [] (by rfl) OW.out a1 c.own.length c1 (c.own.map Value.string) (by rfl) SRC.out (strs_one _) (by unfold maxLen; omega) (by omega) (Nat.zero_le _) ?_
        intro v' w' hown hg hat
        rw [Nat.zero_add, List.nil_append] at hown
        obtain ⟨eA, dA, rfl, _⟩ := row_value hown
        have SN3 : Seal _ := ⟨SH.app hown hg hat⟩
        clear hown hg hat OW SRC SH
        refine hK.out _ _ ⟨(SN3.out.four.head).c 0 _ rfl, (SN3.out.four.head).c 1 _ rfl, (SN3.out.four.head).c 2 _ rfl, SN3.out.below⟩ (fun hHeld => ?_)
        clear hK K SN2
        try simp only [Act.put, List.getElem_toArray, List.getElem_cons_succ, List.getElem_cons_zero, List.setIfInBounds_toArray, List.set_cons_zero, List.set_cons_succ]
        refine wpAnyH_ready (rs := [9]) (by kernel_rfl) (by simp) ?_
        refine AllReadyH.cons rfl (fun K hK => ?_) AllReadyH.nil
        · have SH := SN3.out.two
          have OW : Seal _ := ⟨SH.head⟩
          have SRC : Seal _ := ⟨(HS.out.later SN3.out.below).get HRB.out⟩
          refine step_append_any rfl _ _ 51 rfl 0 114 iB (.agg #[.string ByteArray.empty, .string ByteArray.empty]) 2 32 Tryd.underlying51 iBi iB0 iB1 iB2 rfl (by decide) _ 0 [] (by rfl) OW.out a2 c.ways.length c2 (pairCells c.ways) (by rfl) SRC.out (pairs_one' _) (by unfold maxLen; omega) (by omega) (Nat.zero_le _) ?_
          intro v' w' hown hg hat
          rw [Nat.zero_add, List.nil_append] at hown
          obtain ⟨eB, dB, rfl, _⟩ := row_value hown
          have SN4 : Seal _ := ⟨SH.app hown hg hat⟩
          clear hown hg hat OW SRC SH
          refine hK.out _ _ ⟨(SN4.out.four.head).c 0 _ rfl, (SN4.out.four.head).c 1 _ rfl, (SN4.out.four.head).c 2 _ rfl, SN4.out.below⟩ (fun hHeld => ?_)
          clear hK K SN3
          try simp only [Act.put, List.getElem_toArray, List.getElem_cons_succ, List.getElem_cons_zero, List.setIfInBounds_toArray, List.set_cons_zero, List.set_cons_succ]
          (refine wpAnyH_take (i := 10) (v := ?_) rfl (by kernel_rfl) (by kernel_rfl) (by kernel_rfl) (fun _ _ _ h => h) (Or.inl ⟨by rfl, ?_⟩) (by assumption) ?_; rotate_left; (intro w hSw; (try dsimp only at hSw); go_split_ands; go_simp; first | done | with_reducible rfl); rotate_left; simp only [Act.put, List.getElem_toArray, List.getElem_cons_succ, List.getElem_cons_zero, List.setIfInBounds_toArray, List.set_cons_succ, List.set_cons_zero])
          have SR4 := SN4.out.three
          have r0 := SR4.head.c 0 _ rfl
          have fr0 := SR4.head.f 0 (by simp)
          have r1 := SR4.head.c 1 _ rfl
          have fr1 := SR4.head.f 1 (by simp)
          have r2 := SR4.head.c 2 _ rfl
          have fr2 := SR4.head.f 2 (by simp)
          refine wpAnyH_ready (rs := [11]) (by kernel_rfl) (by simp) ?_
          refine AllReadyH.cons rfl (fun K hK => ?_) AllReadyH.nil
          go_simp
          have SF : Seal _ := ⟨(((SR4.set 0 (.string c.name) (by simp)).set 1 (.slice eA c.own.length dA) (by simp)).set 2 (.slice eB c.ways.length dB) (by simp))⟩
          refine hK.out _ _ ⟨(SF.out.four.head).c 0 _ rfl, (SF.out.four.head).c 1 _ rfl, (SF.out.four.head).c 2 _ rfl, SF.out.below⟩ (fun _ => ?_)
          clear hK K
          refine wpAnyH_done (by kernel_rfl) ?_ _
          have t0 := SF.out.head.c 0 _ rfl
          have t1 := SF.out.head.c 1 _ rfl
          have t2 := SF.out.head.c 2 _ rfl
          clear SR4 SN4 r0 fr0 r1 fr1 r2 fr2
          go_wp2
          exact bodyPost_ret (v := .agg (confV c eA dA eB dB)) (by simp [results, Tryd.results62, go_sem, t0, t1, t2]) rfl ⟨eA, dA, eB, dB, rfl, (SF.out.tail.two).first (l := confR eA dA eB dB c)⟩
end Go.Proofs.YtfffocfcnigogaaDoor
