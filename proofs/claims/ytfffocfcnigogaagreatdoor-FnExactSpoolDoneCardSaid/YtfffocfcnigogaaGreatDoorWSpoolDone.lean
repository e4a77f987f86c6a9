/- The walk of FnExactSpoolDone. -/
import Derived.Test.YtfffocfcnigogaaGreatDoorSpoolDoneJ
import Derived.Test.YtfffocfcnigogaaGreatDoorKindSpool
import Derived.Deep.RegionHeld3
import Derived.Deep.DeepCutAuto
namespace Go.Proofs.YtfffocfcnigogaaGreatDoor
open Go Go.RowKit


set_option maxHeartbeats 12800000 in
set_option maxRecDepth 100000 in
theorem wFnExactSpoolDone.walk (s : SpoolD) (sa : Option Addr) (sc : Nat) (id : Int) (au ad : ByteArray) (w : World) (has : ItemRow w sa s.items) (hws : SpoolF s) (_ : (Lit.int .i64 id).wf = true) (hwa : au.size ≤ maxLen ∧ ad.size ≤ maxLen) (hm : HasMax w) :
    Calls Tryz.prog 8 #[.agg (spoolV s sa sc), .int .i64 id, .agg #[.string au, .string ad]] w fun e w' => e = .returned (.bool true) ∧ Below w.heap.size w w' := by
  have HM : Seal _ := ⟨hm⟩
  clear hm
  obtain ⟨ps, hps⟩ : ∃ p : SpoolP, (⟨sa, sc, []⟩ : SpoolP) = p := ⟨_, rfl⟩
  obtain rfl : ps.a = sa := by rw [← hps]
  obtain rfl : ps.c = sc := by rw [← hps]
  clear hps
  have HAs : Seal (spoolKA w s ps) := ⟨has⟩
  have HWs : Seal _ := ⟨hws⟩
  clear has hws
  have HWa : Seal _ := ⟨hwa⟩
  clear hwa
  have S0 : Seal (Pt w w []) := ⟨Pt.start w⟩
  have S1 : Seal (Pt w (w.alloc (.cells (spoolKV s ps) 60)) [[Res.cells (w.heap.size) (spoolKL s ps)]]) := ⟨S0.out.alloc (spoolKV s ps) 60⟩
  clear S0
  have S2 : Seal (Pt w ((w.alloc (.cells (spoolKV s ps) 60)).alloc (.cells #[.string au, .string ad] 61)) [[Res.cells (w.heap.size + 1) [.string au, .string ad]], [Res.cells (w.heap.size) (spoolKL s ps)]]) := ⟨by have h := S1.out.alloc #[.string au, .string ad] 61; simp only [World.size_alloc] at h; exact h⟩
  clear S1
  obtain ⟨ls, hls⟩ : ∃ l, leftN (spoolN s) 1048576 = l := ⟨_, rfl⟩
  have HLs : Seal _ := ⟨hls⟩
  have hles : 0 ≤ (1048576 : Int) → ls ≤ 1048576 := fun h => hls ▸ leftN_le (spoolN s) h
  clear hls
  obtain ⟨la, hla⟩ : ∃ l, leftA au ad ls = l := ⟨_, rfl⟩
  have HLa : Seal _ := ⟨hla⟩
  have hlea : 0 ≤ (ls : Int) → la ≤ ls := fun h => hla ▸ leftA_le au ad h
  clear hla
  go_enter Tryz.func8, Tryz.ntmps8
  have g1 := (S2.out.cellsM 1 rfl).c 0 _ rfl
  have g2 := (S2.out.cellsM 1 rfl).c 1 _ rfl
  have g3 := (S2.out.cellsM 1 rfl).lt
  go_wp2_with fail
  refine (szSpool_K s ps 1048576 _ (spoolK_below HAs.out S2.out.below (Nat.le_refl _)) HWs.out (by omega) (by omega)).mono ?_
  rintro e w1 ⟨rfl, hb⟩
  rw [HLs.out]
  have S3 : Seal (Pt w w1 [[Res.cells (w.heap.size + 1) [.string au, .string ad]], [Res.cells (w.heap.size) (spoolKL s ps)]]) := ⟨S2.out.later hb⟩
  clear hb S2 g1 g2 g3
  by_cases hneg : ls < 0
  · go_wp2
    go_ret
    exact ⟨rfl, S3.out.below⟩
  have HZs : Seal (spoolKZ s) := ⟨spoolK_small (by rw [HLs.out]; exact hneg) (by omega) (by omega)⟩
  have hlos : 0 ≤ ls := by omega
  have hups : ls ≤ 1048576 := by omega
  clear hneg
  have g4 := (S3.out.cellsM 0 rfl).c 0 _ rfl
  have g5 := (S3.out.cellsM 0 rfl).c 1 _ rfl
  have g6 := (S3.out.cellsM 0 rfl).lt
  go_wp2_with fail
  refine (szAddr_any au ad ls _ (by omega) (by omega) HWa.out.1 HWa.out.2).mono ?_
  rintro e w2 ⟨rfl, hb⟩
  rw [HLa.out]
  have S4 : Seal (Pt w w2 [[Res.cells (w.heap.size + 1) [.string au, .string ad]], [Res.cells (w.heap.size) (spoolKL s ps)]]) := ⟨S3.out.later hb⟩
  clear hb S3 g4 g5 g6
  by_cases hneg : la < 0
  · go_wp2
    go_ret
    exact ⟨rfl, S4.out.below⟩
  have HZa : Seal (au.size ≤ 1048576 ∧ ad.size ≤ 1048576) := ⟨by have e := HLa.out; unfold leftA at e; split at e <;> omega⟩
  have hloa : 0 ≤ la := by omega
  have hupa : la ≤ 1048576 := by omega
  clear hneg
  obtain ⟨D, hD⟩ : ∃ x, (doneR s id au ad).1 = x := ⟨_, rfl⟩
  have HD : Seal _ := ⟨hD⟩
  have HZD : Seal (spoolKZ D) := ⟨hD ▸ doneR_sz s id au ad HZs.out⟩
  clear hD
  obtain ⟨q, hq⟩ : ∃ x, (doneR s id au ad).2 = x := ⟨_, rfl⟩
  have Hq : Seal _ := ⟨hq⟩
  clear hq
  have CS : Seal (∀ (W : World) (Ls : List (List Res)), ∀ (ps' : SpoolP) (is : Nat), Pt w W Ls → Ls[is]? = some (spoolKR s ps') → spoolKF s ps' → Calls Tryz.prog 43 #[.agg (spoolKV s ps'), .int .i64 id, .agg #[.string au, .string ad]] W (fun e w' => ∃ r, e = .returned (.tuple #[.agg (spoolKV D r), .bool q]) ∧ spoolKF D r ∧ St W w' (spoolKR D r))) := ⟨fun W Ls ps' is h hgs fs => by rw [← HD.out, ← Hq.out]; exact specSpoolDone_K s id au ad HZs.out HZa.out w W Ls ps' is h hgs fs⟩
  have CI : Seal (∀ (W : World) (Ls : List (List Res)), HasMax W → ∀ (ps' : SpoolP) (is : Nat), Pt w W Ls → Ls[is]? = some (spoolKR s ps') → spoolKF s ps' → Calls Tryz.prog 45 #[.agg (spoolKV s ps'), .int .i64 id, .agg #[.string au, .string ad]] W (fun e w' => ∃ r, e = .returned (.tuple #[.agg (spoolKV D r), .bool q]) ∧ spoolKF D r ∧ St W w' (spoolKR D r))) := ⟨fun W Ls hmx ps' is h hgs fs => by rw [← HD.out, ← Hq.out]; exact implSpoolDone_K s id au ad HZs.out HZa.out w W Ls hmx ps' is h hgs fs⟩
  obtain ⟨N0, hN0⟩ : ∃ N : Nat, 1 + spoolKM s = N := ⟨_, rfl⟩
  have mkN0 := spoolK_marks HZs.out
  have PN0 : Seal (1 + spoolKM s ≤ 16777216) := ⟨by omega⟩
  have HN0 : Seal _ := ⟨hN0⟩
  have ngN0 : ¬ (N0 : Int) < 0 := by omega
  obtain ⟨N1, hN1⟩ : ∃ N : Nat, 1 + spoolKM D = N := ⟨_, rfl⟩
  have mkN1 := spoolK_marks HZD.out
  have PN1 : Seal (1 + spoolKM D ≤ 16777216) := ⟨by omega⟩
  have HN1 : Seal _ := ⟨hN1⟩
  have ngN1 : ¬ (N1 : Int) < 0 := by omega
  clear mkN0 hN0 mkN1 hN1
  have qqq : (q != q) = false := by cases q <;> rfl
  go_upto_region 8 with fail
  go_cut [8, 9] (fun s8 s9 wx => ∃ (k7 : Nat) (q8 : SpoolP), s8 = .pointer (some ⟨k7, 0, none⟩) ∧ s9 = .bool q ∧ spoolKF D q8 ∧ Pt w wx [[Res.cells k7 (spoolKL D q8)], spoolKR D q8, [Res.cells (w.heap.size + 1) [.string au, .string ad]], [Res.cells (w.heap.size) (spoolKL s ps)]])
  case first =>
    refine wp_region_held_drew (S := (fun w' => w'.cell? ⟨w.heap.size, 0, none⟩ = some (.int .i64 s.last) ∧ w'.cell? ⟨w.heap.size, 1, none⟩ = some (.slice ps.a s.items.length ps.c) ∧ w'.cell? ⟨w.heap.size + 1, 0, none⟩ = some (.string au) ∧ w'.cell? ⟨w.heap.size + 1, 1, none⟩ = some (.string ad))) (by kernel_rfl) ⟨(S4.out.cellsM 1 rfl).c 0 _ rfl, (S4.out.cellsM 1 rfl).c 1 _ rfl, (S4.out.cellsM 0 rfl).c 0 _ rfl, (S4.out.cellsM 0 rfl).c 1 _ rfl⟩ (fun hHeld => ?_)
    have S5 : Seal (Pt w _ [[Res.cells (w.heap.size + 1) [.string au, .string ad]], [Res.cells (w.heap.size) (spoolKL s ps)]]) := ⟨S4.out.drew⟩
    (refine wpAnyH_take (i := 0) (v := ?_) rfl (by kernel_rfl) (by kernel_rfl) (by kernel_rfl) (fun _ _ _ h => h) (Or.inl ⟨by rfl, ?_⟩) (by assumption) ?_; rotate_left; (intro w hSw; (try dsimp only at hSw); go_split_ands; go_simp; first | done | with_reducible rfl); rotate_left; simp only [Act.put, List.getElem_toArray, List.getElem_cons_zero, List.setIfInBounds_toArray, List.set_cons_succ, List.set_cons_zero])
    (refine wpAnyH_take (i := 2) (v := ?_) rfl (by kernel_rfl) (by kernel_rfl) (by kernel_rfl) (fun _ _ _ h => h) (Or.inl ⟨by rfl, ?_⟩) (by assumption) ?_; rotate_left; (intro w hSw; (try dsimp only at hSw); go_split_ands; go_simp; first | done | with_reducible rfl); rotate_left; simp only [Act.put, List.getElem_toArray, List.getElem_cons_succ, List.getElem_cons_zero, List.setIfInBounds_toArray, List.set_cons_succ, List.set_cons_zero])
    (refine wpAnyH_take (i := 3) (v := ?_) rfl (by kernel_rfl) (by kernel_rfl) (by kernel_rfl) (fun _ _ _ h => h) (Or.inl ⟨by rfl, ?_⟩) (by assumption) ?_; rotate_left; (intro w hSw; (try dsimp only at hSw); go_split_ands; go_simp; first | done | with_reducible rfl); rotate_left; simp only [Act.put, List.getElem_toArray, List.getElem_cons_succ, List.getElem_cons_zero, List.setIfInBounds_toArray, List.set_cons_succ, List.set_cons_zero])
    refine wpAnyH_ready (rs := [1, 9]) (by kernel_rfl) (by simp) ?_
    refine AllReadyH.cons rfl (fun K hK => ?_) (AllReadyH.cons rfl (fun K hK => ?_) AllReadyH.nil)
    · try dsimp only at hHeld
      go_split_ands
      go_simp
      refine (toSpool_K s ps _ (spoolK_below HAs.out S5.out.below (Nat.le_refl _)) HZs.out).mono ?_
      rintro e w3 ⟨p9, rfl, hf, hk⟩
      have HFp9 : Seal _ := ⟨hf⟩
      have S6 : Seal (Pt w w3 [spoolKR s p9, [Res.cells (w.heap.size + 1) [.string au, .string ad]], [Res.cells (w.heap.size) (spoolKL s ps)]]) := ⟨S5.out.join hk⟩
      clear hk hf
      refine hK.out _ _ ⟨(S6.out.cellsM 2 rfl).c 0 _ rfl, (S6.out.cellsM 2 rfl).c 1 _ rfl, (S6.out.cellsM 1 rfl).c 0 _ rfl, (S6.out.cellsM 1 rfl).c 1 _ rfl⟩ (fun hHeld => ?_)
      clear hK K
      try simp only [Act.put, List.getElem_toArray, List.getElem_cons_succ, List.getElem_cons_zero, List.setIfInBounds_toArray, List.set_cons_zero, List.set_cons_succ]
      refine wpAnyH_ready (rs := [4, 9]) (by kernel_rfl) (by simp) ?_
      refine AllReadyH.cons rfl (fun K hK => ?_) (AllReadyH.cons rfl (fun K hK => ?_) AllReadyH.nil)
      · try dsimp only at hHeld
        go_split_ands
        go_simp
        refine (toAddr_any au ad _).mono ?_
        rintro e w4 ⟨rfl, hb⟩
        have S7 : Seal (Pt w w4 [spoolKR s p9, [Res.cells (w.heap.size + 1) [.string au, .string ad]], [Res.cells (w.heap.size) (spoolKL s ps)]]) := ⟨S6.out.later hb⟩
        clear hb
        refine hK.out _ _ ⟨(S7.out.cellsM 2 rfl).c 0 _ rfl, (S7.out.cellsM 2 rfl).c 1 _ rfl, (S7.out.cellsM 1 rfl).c 0 _ rfl, (S7.out.cellsM 1 rfl).c 1 _ rfl⟩ (fun hHeld => ?_)
        clear hK K
        try simp only [Act.put, List.getElem_toArray, List.getElem_cons_succ, List.getElem_cons_zero, List.setIfInBounds_toArray, List.set_cons_zero, List.set_cons_succ]
        refine wpAnyH_ready (rs := [5, 9]) (by kernel_rfl) (by simp) ?_
        refine AllReadyH.cons rfl (fun K hK => ?_) (AllReadyH.cons rfl (fun K hK => ?_) AllReadyH.nil)
        · try dsimp only at hHeld
          go_split_ands
          go_simp
          refine (CS.out _ _ p9 0 S7.out rfl HFp9.out).mono ?_
          rintro e w5 ⟨q10, rfl, hfq10, hk⟩
          have HFq10 : Seal _ := ⟨hfq10⟩
          have S8 : Seal (Pt w w5 [spoolKR D q10, spoolKR s p9, [Res.cells (w.heap.size + 1) [.string au, .string ad]], [Res.cells (w.heap.size) (spoolKL s ps)]]) := ⟨S7.out.join hk⟩
          clear hk hfq10
          refine hK.out _ _ ⟨(S8.out.cellsM 3 rfl).c 0 _ rfl, (S8.out.cellsM 3 rfl).c 1 _ rfl, (S8.out.cellsM 2 rfl).c 0 _ rfl, (S8.out.cellsM 2 rfl).c 1 _ rfl⟩ (fun hHeld => ?_)
          clear hK K
          try simp only [Act.put, List.getElem_toArray, List.getElem_cons_succ, List.getElem_cons_zero, List.setIfInBounds_toArray, List.set_cons_zero, List.set_cons_succ]
          (refine wpAnyH_take (i := 6) (v := ?_) rfl (by kernel_rfl) (by kernel_rfl) (by kernel_rfl) (fun _ _ _ h => h) (Or.inl ⟨by rfl, ?_⟩) (by assumption) ?_; rotate_left; (intro w hSw; (try dsimp only at hSw); go_split_ands; go_simp; first | done | with_reducible rfl); rotate_left; simp only [Act.put, List.getElem_toArray, List.getElem_cons_succ, List.getElem_cons_zero, List.setIfInBounds_toArray, List.set_cons_succ, List.set_cons_zero])
          (refine wpAnyH_take (i := 7) (v := ?_) rfl (by kernel_rfl) (by kernel_rfl) (by kernel_rfl) (fun _ _ _ h => h) (Or.inl ⟨by rfl, ?_⟩) (by assumption) ?_; rotate_left; (intro w hSw; (try dsimp only at hSw); go_split_ands; go_simp; first | done | with_reducible rfl); rotate_left; simp only [Act.put, List.getElem_toArray, List.getElem_cons_succ, List.getElem_cons_zero, List.setIfInBounds_toArray, List.set_cons_succ, List.set_cons_zero])
          (refine wpAnyH_take (i := 8) (v := ?_) rfl (by kernel_rfl) (by kernel_rfl) (by kernel_rfl) (fun _ _ _ h => h) (Or.inl ⟨by rfl, ?_⟩) (by assumption) ?_; rotate_left; (intro w hSw; (try dsimp only at hSw); go_split_ands; go_simp; first | done | with_reducible rfl); rotate_left; simp only [Act.put, List.getElem_toArray, List.getElem_cons_succ, List.getElem_cons_zero, List.setIfInBounds_toArray, List.set_cons_succ, List.set_cons_zero])
          refine wpAnyH_ready (rs := [9]) (by kernel_rfl) (by simp) ?_
          refine AllReadyH.cons rfl (fun K hK => ?_) AllReadyH.nil
          have S9 : Seal (Pt w (w5.alloc (.cells #[.int .i64 0, .slice none 0 0] 25)) [[Res.cells w5.heap.size ((#[.int .i64 0, .slice none 0 0] : Array Value).toList)], spoolKR D q10, spoolKR s p9, [Res.cells (w.heap.size + 1) [.string au, .string ad]], [Res.cells (w.heap.size) (spoolKL s ps)]]) := ⟨S8.out.alloc #[.int .i64 0, .slice none 0 0] 25⟩
          go_simp
          refine hK.out _ _ ⟨(S9.out.cellsM 4 rfl).c 0 _ rfl, (S9.out.cellsM 4 rfl).c 1 _ rfl, (S9.out.cellsM 3 rfl).c 0 _ rfl, (S9.out.cellsM 3 rfl).c 1 _ rfl⟩ (fun hHeld => ?_)
          clear hK K
          try simp only [Act.put, List.getElem_toArray, List.getElem_cons_succ, List.getElem_cons_zero, List.setIfInBounds_toArray, List.set_cons_zero, List.set_cons_succ]
          refine wpAnyH_ready (rs := [10]) (by kernel_rfl) (by simp) ?_
          refine AllReadyH.cons rfl (fun K hK => ?_) AllReadyH.nil
          have oc0 := (S9.out.cellsM 0 rfl).c 0 _ rfl
          have of0 := (S9.out.cellsM 0 rfl).f 0 (by simp)
          have oc1 := (S9.out.cellsM 0 rfl).c 1 _ rfl
          have of1 := (S9.out.cellsM 0 rfl).f 1 (by simp)
          have SB10 : Seal (Pt w (((w5.alloc (.cells #[.int .i64 0, .slice none 0 0] 25)).setCell ⟨w5.heap.size, 0, none⟩ (.int .i64 D.last)).setCell ⟨w5.heap.size, 1, none⟩ (.slice q10.a D.items.length q10.c)) [[Res.cells w5.heap.size (spoolKL D q10)], spoolKR D q10, spoolKR s p9, [Res.cells (w.heap.size + 1) [.string au, .string ad]], [Res.cells (w.heap.size) (spoolKL s ps)]]) := ⟨((S9.out).set 0 (.int .i64 D.last) (by simp)).set 1 (.slice q10.a D.items.length q10.c) (by simp)⟩
          have SA10 : Seal (Pt w (w5.alloc (.cells (spoolKV D q10) 25)) [[Res.cells w5.heap.size (spoolKL D q10)], spoolKR D q10, spoolKR s p9, [Res.cells (w.heap.size + 1) [.string au, .string ad]], [Res.cells (w.heap.size) (spoolKL s ps)]]) := ⟨S8.out.alloc (spoolKV D q10) 25⟩
          go_simp
          refine hK.out _ _ (by first | exact ⟨(SA10.out.cellsM 4 rfl).c 0 _ rfl, (SA10.out.cellsM 4 rfl).c 1 _ rfl, (SA10.out.cellsM 3 rfl).c 0 _ rfl, (SA10.out.cellsM 3 rfl).c 1 _ rfl⟩ | exact ⟨(SB10.out.cellsM 4 rfl).c 0 _ rfl, (SB10.out.cellsM 4 rfl).c 1 _ rfl, (SB10.out.cellsM 3 rfl).c 0 _ rfl, (SB10.out.cellsM 3 rfl).c 1 _ rfl⟩) (fun hHeld => ?_)
          clear hK K
          try simp only [Act.put, List.getElem_toArray, List.getElem_cons_succ, List.getElem_cons_zero, List.setIfInBounds_toArray, List.set_cons_zero, List.set_cons_succ]
          clear oc0 of0 oc1 of1
          refine wpAnyH_ready (rs := [11]) (by kernel_rfl) (by simp) ?_
          refine AllReadyH.cons rfl (fun K hK => ?_) AllReadyH.nil
          go_simp
          refine hK.out _ _ (by assumption) (fun hHeld => ?_)
          clear hK K
          try simp only [Act.put, List.getElem_toArray, List.getElem_cons_succ, List.getElem_cons_zero, List.setIfInBounds_toArray, List.set_cons_zero, List.set_cons_succ]
          refine wpAnyH_done (by kernel_rfl) ?_ _
          go_wp2_with fail
          go_meet
          exact ⟨w5.heap.size, q10, rfl, rfl, HFq10.out, by first | exact (Pt.prefix (As := [[Res.cells w5.heap.size (spoolKL D q10)], spoolKR D q10, [Res.cells (w.heap.size + 1) [.string au, .string ad]], [Res.cells (w.heap.size) (spoolKL s ps)]]) (Bs := [spoolKR s p9]) (Pt.bring ((Pt.bring ((Pt.bring ((Pt.bring (SA10.out) 4 rfl)) 4 rfl)) 3 rfl)) 3 rfl)) | exact (Pt.prefix (As := [[Res.cells w5.heap.size (spoolKL D q10)], spoolKR D q10, [Res.cells (w.heap.size + 1) [.string au, .string ad]], [Res.cells (w.heap.size) (spoolKL s ps)]]) (Bs := [spoolKR s p9]) (Pt.bring ((Pt.bring ((Pt.bring ((Pt.bring (SB10.out) 4 rfl)) 4 rfl)) 3 rfl)) 3 rfl))⟩
        · have S8 : Seal (Pt w (w4.alloc (.cells #[.int .i64 0, .slice none 0 0] 25)) [[Res.cells w4.heap.size ((#[.int .i64 0, .slice none 0 0] : Array Value).toList)], spoolKR s p9, [Res.cells (w.heap.size + 1) [.string au, .string ad]], [Res.cells (w.heap.size) (spoolKL s ps)]]) := ⟨S7.out.alloc #[.int .i64 0, .slice none 0 0] 25⟩
          go_simp
          refine hK.out _ _ ⟨(S8.out.cellsM 3 rfl).c 0 _ rfl, (S8.out.cellsM 3 rfl).c 1 _ rfl, (S8.out.cellsM 2 rfl).c 0 _ rfl, (S8.out.cellsM 2 rfl).c 1 _ rfl⟩ (fun hHeld => ?_)
          clear hK K
          try simp only [Act.put, List.getElem_toArray, List.getElem_cons_succ, List.getElem_cons_zero, List.setIfInBounds_toArray, List.set_cons_zero, List.set_cons_succ]
          refine wpAnyH_ready (rs := [5]) (by kernel_rfl) (by simp) ?_
          refine AllReadyH.cons rfl (fun K hK => ?_) AllReadyH.nil
          try dsimp only at hHeld
          go_split_ands
          go_simp
          refine (CS.out _ _ p9 1 S8.out rfl HFp9.out).mono ?_
          rintro e w6 ⟨q11, rfl, hfq11, hk⟩
          have HFq11 : Seal _ := ⟨hfq11⟩
          have S9 : Seal (Pt w w6 [spoolKR D q11, [Res.cells w4.heap.size ((#[.int .i64 0, .slice none 0 0] : Array Value).toList)], spoolKR s p9, [Res.cells (w.heap.size + 1) [.string au, .string ad]], [Res.cells (w.heap.size) (spoolKL s ps)]]) := ⟨S8.out.join hk⟩
          clear hk hfq11
          refine hK.out _ _ ⟨(S9.out.cellsM 4 rfl).c 0 _ rfl, (S9.out.cellsM 4 rfl).c 1 _ rfl, (S9.out.cellsM 3 rfl).c 0 _ rfl, (S9.out.cellsM 3 rfl).c 1 _ rfl⟩ (fun hHeld => ?_)
          clear hK K
          try simp only [Act.put, List.getElem_toArray, List.getElem_cons_succ, List.getElem_cons_zero, List.setIfInBounds_toArray, List.set_cons_zero, List.set_cons_succ]
          (refine wpAnyH_take (i := 6) (v := ?_) rfl (by kernel_rfl) (by kernel_rfl) (by kernel_rfl) (fun _ _ _ h => h) (Or.inl ⟨by rfl, ?_⟩) (by assumption) ?_; rotate_left; (intro w hSw; (try dsimp only at hSw); go_split_ands; go_simp; first | done | with_reducible rfl); rotate_left; simp only [Act.put, List.getElem_toArray, List.getElem_cons_succ, List.getElem_cons_zero, List.setIfInBounds_toArray, List.set_cons_succ, List.set_cons_zero])
          (refine wpAnyH_take (i := 7) (v := ?_) rfl (by kernel_rfl) (by kernel_rfl) (by kernel_rfl) (fun _ _ _ h => h) (Or.inl ⟨by rfl, ?_⟩) (by assumption) ?_; rotate_left; (intro w hSw; (try dsimp only at hSw); go_split_ands; go_simp; first | done | with_reducible rfl); rotate_left; simp only [Act.put, List.getElem_toArray, List.getElem_cons_succ, List.getElem_cons_zero, List.setIfInBounds_toArray, List.set_cons_succ, List.set_cons_zero])
          (refine wpAnyH_take (i := 8) (v := ?_) rfl (by kernel_rfl) (by kernel_rfl) (by kernel_rfl) (fun _ _ _ h => h) (Or.inl ⟨by rfl, ?_⟩) (by assumption) ?_; rotate_left; (intro w hSw; (try dsimp only at hSw); go_split_ands; go_simp; first | done | with_reducible rfl); rotate_left; simp only [Act.put, List.getElem_toArray, List.getElem_cons_succ, List.getElem_cons_zero, List.setIfInBounds_toArray, List.set_cons_succ, List.set_cons_zero])
          refine wpAnyH_ready (rs := [10]) (by kernel_rfl) (by simp) ?_
          refine AllReadyH.cons rfl (fun K hK => ?_) AllReadyH.nil
          have S10 : Seal (Pt w w6 [[Res.cells w4.heap.size ((#[.int .i64 0, .slice none 0 0] : Array Value).toList)], spoolKR D q11, spoolKR s p9, [Res.cells (w.heap.size + 1) [.string au, .string ad]], [Res.cells (w.heap.size) (spoolKL s ps)]]) := ⟨S9.out.bring 1 rfl⟩
          have oc0 := (S10.out.cellsM 0 rfl).c 0 _ rfl
          have of0 := (S10.out.cellsM 0 rfl).f 0 (by simp)
          have oc1 := (S10.out.cellsM 0 rfl).c 1 _ rfl
          have of1 := (S10.out.cellsM 0 rfl).f 1 (by simp)
          have S11 : Seal (Pt w ((w6.setCell ⟨w4.heap.size, 0, none⟩ (.int .i64 D.last)).setCell ⟨w4.heap.size, 1, none⟩ (.slice q11.a D.items.length q11.c)) [[Res.cells w4.heap.size (spoolKL D q11)], spoolKR D q11, spoolKR s p9, [Res.cells (w.heap.size + 1) [.string au, .string ad]], [Res.cells (w.heap.size) (spoolKL s ps)]]) := ⟨((S10.out).set 0 (.int .i64 D.last) (by simp)).set 1 (.slice q11.a D.items.length q11.c) (by simp)⟩
          go_simp
          refine hK.out _ _ ⟨(S11.out.cellsM 4 rfl).c 0 _ rfl, (S11.out.cellsM 4 rfl).c 1 _ rfl, (S11.out.cellsM 3 rfl).c 0 _ rfl, (S11.out.cellsM 3 rfl).c 1 _ rfl⟩ (fun hHeld => ?_)
          clear hK K
          try simp only [Act.put, List.getElem_toArray, List.getElem_cons_succ, List.getElem_cons_zero, List.setIfInBounds_toArray, List.set_cons_zero, List.set_cons_succ]
          clear oc0 of0 oc1 of1
          refine wpAnyH_ready (rs := [11]) (by kernel_rfl) (by simp) ?_
          refine AllReadyH.cons rfl (fun K hK => ?_) AllReadyH.nil
          go_simp
          refine hK.out _ _ (by assumption) (fun hHeld => ?_)
          clear hK K
          try simp only [Act.put, List.getElem_toArray, List.getElem_cons_succ, List.getElem_cons_zero, List.setIfInBounds_toArray, List.set_cons_zero, List.set_cons_succ]
          refine wpAnyH_done (by kernel_rfl) ?_ _
          go_wp2_with fail
          go_meet
          exact ⟨w4.heap.size, q11, rfl, rfl, HFq11.out, by first | exact (Pt.prefix (As := [[Res.cells w4.heap.size (spoolKL D q11)], spoolKR D q11, [Res.cells (w.heap.size + 1) [.string au, .string ad]], [Res.cells (w.heap.size) (spoolKL s ps)]]) (Bs := [spoolKR s p9]) (Pt.bring ((Pt.bring ((Pt.bring ((Pt.bring (S11.out) 4 rfl)) 4 rfl)) 3 rfl)) 3 rfl))⟩
      · have S7 : Seal (Pt w (w3.alloc (.cells #[.int .i64 0, .slice none 0 0] 25)) [[Res.cells w3.heap.size ((#[.int .i64 0, .slice none 0 0] : Array Value).toList)], spoolKR s p9, [Res.cells (w.heap.size + 1) [.string au, .string ad]], [Res.cells (w.heap.size) (spoolKL s ps)]]) := ⟨S6.out.alloc #[.int .i64 0, .slice none 0 0] 25⟩
        go_simp
        refine hK.out _ _ ⟨(S7.out.cellsM 3 rfl).c 0 _ rfl, (S7.out.cellsM 3 rfl).c 1 _ rfl, (S7.out.cellsM 2 rfl).c 0 _ rfl, (S7.out.cellsM 2 rfl).c 1 _ rfl⟩ (fun hHeld => ?_)
        clear hK K
        try simp only [Act.put, List.getElem_toArray, List.getElem_cons_succ, List.getElem_cons_zero, List.setIfInBounds_toArray, List.set_cons_zero, List.set_cons_succ]
        refine wpAnyH_ready (rs := [4]) (by kernel_rfl) (by simp) ?_
        refine AllReadyH.cons rfl (fun K hK => ?_) AllReadyH.nil
        try dsimp only at hHeld
        go_split_ands
        go_simp
        refine (toAddr_any au ad _).mono ?_
        rintro e w7 ⟨rfl, hb⟩
        have S8 : Seal (Pt w w7 [[Res.cells w3.heap.size ((#[.int .i64 0, .slice none 0 0] : Array Value).toList)], spoolKR s p9, [Res.cells (w.heap.size + 1) [.string au, .string ad]], [Res.cells (w.heap.size) (spoolKL s ps)]]) := ⟨S7.out.later hb⟩
        clear hb
        refine hK.out _ _ ⟨(S8.out.cellsM 3 rfl).c 0 _ rfl, (S8.out.cellsM 3 rfl).c 1 _ rfl, (S8.out.cellsM 2 rfl).c 0 _ rfl, (S8.out.cellsM 2 rfl).c 1 _ rfl⟩ (fun hHeld => ?_)
        clear hK K
        try simp only [Act.put, List.getElem_toArray, List.getElem_cons_succ, List.getElem_cons_zero, List.setIfInBounds_toArray, List.set_cons_zero, List.set_cons_succ]
        refine wpAnyH_ready (rs := [5]) (by kernel_rfl) (by simp) ?_
        refine AllReadyH.cons rfl (fun K hK => ?_) AllReadyH.nil
        try dsimp only at hHeld
        go_split_ands
        go_simp
        refine (CS.out _ _ p9 1 S8.out rfl HFp9.out).mono ?_
        rintro e w8 ⟨q12, rfl, hfq12, hk⟩
        have HFq12 : Seal _ := ⟨hfq12⟩
        have S9 : Seal (Pt w w8 [spoolKR D q12, [Res.cells w3.heap.size ((#[.int .i64 0, .slice none 0 0] : Array Value).toList)], spoolKR s p9, [Res.cells (w.heap.size + 1) [.string au, .string ad]], [Res.cells (w.heap.size) (spoolKL s ps)]]) := ⟨S8.out.join hk⟩
        clear hk hfq12
        refine hK.out _ _ ⟨(S9.out.cellsM 4 rfl).c 0 _ rfl, (S9.out.cellsM 4 rfl).c 1 _ rfl, (S9.out.cellsM 3 rfl).c 0 _ rfl, (S9.out.cellsM 3 rfl).c 1 _ rfl⟩ (fun hHeld => ?_)
        clear hK K
        try simp only [Act.put, List.getElem_toArray, List.getElem_cons_succ, List.getElem_cons_zero, List.setIfInBounds_toArray, List.set_cons_zero, List.set_cons_succ]
        (refine wpAnyH_take (i := 6) (v := ?_) rfl (by kernel_rfl) (by kernel_rfl) (by kernel_rfl) (fun _ _ _ h => h) (Or.inl ⟨by rfl, ?_⟩) (by assumption) ?_; rotate_left; (intro w hSw; (try dsimp only at hSw); go_split_ands; go_simp; first | done | with_reducible rfl); rotate_left; simp only [Act.put, List.getElem_toArray, List.getElem_cons_succ, List.getElem_cons_zero, List.setIfInBounds_toArray, List.set_cons_succ, List.set_cons_zero])
        (refine wpAnyH_take (i := 7) (v := ?_) rfl (by kernel_rfl) (by kernel_rfl) (by kernel_rfl) (fun _ _ _ h => h) (Or.inl ⟨by rfl, ?_⟩) (by assumption) ?_; rotate_left; (intro w hSw; (try dsimp only at hSw); go_split_ands; go_simp; first | done | with_reducible rfl); rotate_left; simp only [Act.put, List.getElem_toArray, List.getElem_cons_succ, List.getElem_cons_zero, List.setIfInBounds_toArray, List.set_cons_succ, List.set_cons_zero])
        (refine wpAnyH_take (i := 8) (v := ?_) rfl (by kernel_rfl) (by kernel_rfl) (by kernel_rfl) (fun _ _ _ h => h) (Or.inl ⟨by rfl, ?_⟩) (by assumption) ?_; rotate_left; (intro w hSw; (try dsimp only at hSw); go_split_ands; go_simp; first | done | with_reducible rfl); rotate_left; simp only [Act.put, List.getElem_toArray, List.getElem_cons_succ, List.getElem_cons_zero, List.setIfInBounds_toArray, List.set_cons_succ, List.set_cons_zero])
        refine wpAnyH_ready (rs := [10]) (by kernel_rfl) (by simp) ?_
        refine AllReadyH.cons rfl (fun K hK => ?_) AllReadyH.nil
        have S10 : Seal (Pt w w8 [[Res.cells w3.heap.size ((#[.int .i64 0, .slice none 0 0] : Array Value).toList)], spoolKR D q12, spoolKR s p9, [Res.cells (w.heap.size + 1) [.string au, .string ad]], [Res.cells (w.heap.size) (spoolKL s ps)]]) := ⟨S9.out.bring 1 rfl⟩
        have oc0 := (S10.out.cellsM 0 rfl).c 0 _ rfl
        have of0 := (S10.out.cellsM 0 rfl).f 0 (by simp)
        have oc1 := (S10.out.cellsM 0 rfl).c 1 _ rfl
        have of1 := (S10.out.cellsM 0 rfl).f 1 (by simp)
        have S11 : Seal (Pt w ((w8.setCell ⟨w3.heap.size, 0, none⟩ (.int .i64 D.last)).setCell ⟨w3.heap.size, 1, none⟩ (.slice q12.a D.items.length q12.c)) [[Res.cells w3.heap.size (spoolKL D q12)], spoolKR D q12, spoolKR s p9, [Res.cells (w.heap.size + 1) [.string au, .string ad]], [Res.cells (w.heap.size) (spoolKL s ps)]]) := ⟨((S10.out).set 0 (.int .i64 D.last) (by simp)).set 1 (.slice q12.a D.items.length q12.c) (by simp)⟩
        go_simp
        refine hK.out _ _ ⟨(S11.out.cellsM 4 rfl).c 0 _ rfl, (S11.out.cellsM 4 rfl).c 1 _ rfl, (S11.out.cellsM 3 rfl).c 0 _ rfl, (S11.out.cellsM 3 rfl).c 1 _ rfl⟩ (fun hHeld => ?_)
        clear hK K
        try simp only [Act.put, List.getElem_toArray, List.getElem_cons_succ, List.getElem_cons_zero, List.setIfInBounds_toArray, List.set_cons_zero, List.set_cons_succ]
        clear oc0 of0 oc1 of1
        refine wpAnyH_ready (rs := [11]) (by kernel_rfl) (by simp) ?_
        refine AllReadyH.cons rfl (fun K hK => ?_) AllReadyH.nil
        go_simp
        refine hK.out _ _ (by assumption) (fun hHeld => ?_)
        clear hK K
        try simp only [Act.put, List.getElem_toArray, List.getElem_cons_succ, List.getElem_cons_zero, List.setIfInBounds_toArray, List.set_cons_zero, List.set_cons_succ]
        refine wpAnyH_done (by kernel_rfl) ?_ _
        go_wp2_with fail
        go_meet
        exact ⟨w3.heap.size, q12, rfl, rfl, HFq12.out, by first | exact (Pt.prefix (As := [[Res.cells w3.heap.size (spoolKL D q12)], spoolKR D q12, [Res.cells (w.heap.size + 1) [.string au, .string ad]], [Res.cells (w.heap.size) (spoolKL s ps)]]) (Bs := [spoolKR s p9]) (Pt.bring ((Pt.bring ((Pt.bring ((Pt.bring (S11.out) 4 rfl)) 4 rfl)) 3 rfl)) 3 rfl))⟩
    · have S6 : Seal (Pt w (w2.drew.alloc (.cells #[.int .i64 0, .slice none 0 0] 25)) [[Res.cells w2.heap.size ((#[.int .i64 0, .slice none 0 0] : Array Value).toList)], [Res.cells (w.heap.size + 1) [.string au, .string ad]], [Res.cells (w.heap.size) (spoolKL s ps)]]) := ⟨S5.out.alloc #[.int .i64 0, .slice none 0 0] 25⟩
      go_simp
      refine hK.out _ _ ⟨(S6.out.cellsM 2 rfl).c 0 _ rfl, (S6.out.cellsM 2 rfl).c 1 _ rfl, (S6.out.cellsM 1 rfl).c 0 _ rfl, (S6.out.cellsM 1 rfl).c 1 _ rfl⟩ (fun hHeld => ?_)
      clear hK K
      try simp only [Act.put, List.getElem_toArray, List.getElem_cons_succ, List.getElem_cons_zero, List.setIfInBounds_toArray, List.set_cons_zero, List.set_cons_succ]
      refine wpAnyH_ready (rs := [1]) (by kernel_rfl) (by simp) ?_
      refine AllReadyH.cons rfl (fun K hK => ?_) AllReadyH.nil
      try dsimp only at hHeld
      go_split_ands
      go_simp
      refine (toSpool_K s ps _ (spoolK_below HAs.out S6.out.below (Nat.le_refl _)) HZs.out).mono ?_
      rintro e w9 ⟨p13, rfl, hf, hk⟩
      have HFp13 : Seal _ := ⟨hf⟩
      have S7 : Seal (Pt w w9 [spoolKR s p13, [Res.cells w2.heap.size ((#[.int .i64 0, .slice none 0 0] : Array Value).toList)], [Res.cells (w.heap.size + 1) [.string au, .string ad]], [Res.cells (w.heap.size) (spoolKL s ps)]]) := ⟨S6.out.join hk⟩
      clear hk hf
      refine hK.out _ _ ⟨(S7.out.cellsM 3 rfl).c 0 _ rfl, (S7.out.cellsM 3 rfl).c 1 _ rfl, (S7.out.cellsM 2 rfl).c 0 _ rfl, (S7.out.cellsM 2 rfl).c 1 _ rfl⟩ (fun hHeld => ?_)
      clear hK K
      try simp only [Act.put, List.getElem_toArray, List.getElem_cons_succ, List.getElem_cons_zero, List.setIfInBounds_toArray, List.set_cons_zero, List.set_cons_succ]
      refine wpAnyH_ready (rs := [4]) (by kernel_rfl) (by simp) ?_
      refine AllReadyH.cons rfl (fun K hK => ?_) AllReadyH.nil
      try dsimp only at hHeld
      go_split_ands
      go_simp
      refine (toAddr_any au ad _).mono ?_
      rintro e w10 ⟨rfl, hb⟩
      have S8 : Seal (Pt w w10 [spoolKR s p13, [Res.cells w2.heap.size ((#[.int .i64 0, .slice none 0 0] : Array Value).toList)], [Res.cells (w.heap.size + 1) [.string au, .string ad]], [Res.cells (w.heap.size) (spoolKL s ps)]]) := ⟨S7.out.later hb⟩
      clear hb
      refine hK.out _ _ ⟨(S8.out.cellsM 3 rfl).c 0 _ rfl, (S8.out.cellsM 3 rfl).c 1 _ rfl, (S8.out.cellsM 2 rfl).c 0 _ rfl, (S8.out.cellsM 2 rfl).c 1 _ rfl⟩ (fun hHeld => ?_)
      clear hK K
      try simp only [Act.put, List.getElem_toArray, List.getElem_cons_succ, List.getElem_cons_zero, List.setIfInBounds_toArray, List.set_cons_zero, List.set_cons_succ]
      refine wpAnyH_ready (rs := [5]) (by kernel_rfl) (by simp) ?_
      refine AllReadyH.cons rfl (fun K hK => ?_) AllReadyH.nil
      try dsimp only at hHeld
      go_split_ands
      go_simp
      refine (CS.out _ _ p13 0 S8.out rfl HFp13.out).mono ?_
      rintro e w11 ⟨q14, rfl, hfq14, hk⟩
      have HFq14 : Seal _ := ⟨hfq14⟩
      have S9 : Seal (Pt w w11 [spoolKR D q14, spoolKR s p13, [Res.cells w2.heap.size ((#[.int .i64 0, .slice none 0 0] : Array Value).toList)], [Res.cells (w.heap.size + 1) [.string au, .string ad]], [Res.cells (w.heap.size) (spoolKL s ps)]]) := ⟨S8.out.join hk⟩
      clear hk hfq14
      refine hK.out _ _ ⟨(S9.out.cellsM 4 rfl).c 0 _ rfl, (S9.out.cellsM 4 rfl).c 1 _ rfl, (S9.out.cellsM 3 rfl).c 0 _ rfl, (S9.out.cellsM 3 rfl).c 1 _ rfl⟩ (fun hHeld => ?_)
      clear hK K
      try simp only [Act.put, List.getElem_toArray, List.getElem_cons_succ, List.getElem_cons_zero, List.setIfInBounds_toArray, List.set_cons_zero, List.set_cons_succ]
      (refine wpAnyH_take (i := 6) (v := ?_) rfl (by kernel_rfl) (by kernel_rfl) (by kernel_rfl) (fun _ _ _ h => h) (Or.inl ⟨by rfl, ?_⟩) (by assumption) ?_; rotate_left; (intro w hSw; (try dsimp only at hSw); go_split_ands; go_simp; first | done | with_reducible rfl); rotate_left; simp only [Act.put, List.getElem_toArray, List.getElem_cons_succ, List.getElem_cons_zero, List.setIfInBounds_toArray, List.set_cons_succ, List.set_cons_zero])
      (refine wpAnyH_take (i := 7) (v := ?_) rfl (by kernel_rfl) (by kernel_rfl) (by kernel_rfl) (fun _ _ _ h => h) (Or.inl ⟨by rfl, ?_⟩) (by assumption) ?_; rotate_left; (intro w hSw; (try dsimp only at hSw); go_split_ands; go_simp; first | done | with_reducible rfl); rotate_left; simp only [Act.put, List.getElem_toArray, List.getElem_cons_succ, List.getElem_cons_zero, List.setIfInBounds_toArray, List.set_cons_succ, List.set_cons_zero])
      (refine wpAnyH_take (i := 8) (v := ?_) rfl (by kernel_rfl) (by kernel_rfl) (by kernel_rfl) (fun _ _ _ h => h) (Or.inl ⟨by rfl, ?_⟩) (by assumption) ?_; rotate_left; (intro w hSw; (try dsimp only at hSw); go_split_ands; go_simp; first | done | with_reducible rfl); rotate_left; simp only [Act.put, List.getElem_toArray, List.getElem_cons_succ, List.getElem_cons_zero, List.setIfInBounds_toArray, List.set_cons_succ, List.set_cons_zero])
      refine wpAnyH_ready (rs := [10]) (by kernel_rfl) (by simp) ?_
      refine AllReadyH.cons rfl (fun K hK => ?_) AllReadyH.nil
      have S10 : Seal (Pt w w11 [[Res.cells w2.heap.size ((#[.int .i64 0, .slice none 0 0] : Array Value).toList)], spoolKR D q14, spoolKR s p13, [Res.cells (w.heap.size + 1) [.string au, .string ad]], [Res.cells (w.heap.size) (spoolKL s ps)]]) := ⟨S9.out.bring 2 rfl⟩
      have oc0 := (S10.out.cellsM 0 rfl).c 0 _ rfl
      have of0 := (S10.out.cellsM 0 rfl).f 0 (by simp)
      have oc1 := (S10.out.cellsM 0 rfl).c 1 _ rfl
      have of1 := (S10.out.cellsM 0 rfl).f 1 (by simp)
      have S11 : Seal (Pt w ((w11.setCell ⟨w2.heap.size, 0, none⟩ (.int .i64 D.last)).setCell ⟨w2.heap.size, 1, none⟩ (.slice q14.a D.items.length q14.c)) [[Res.cells w2.heap.size (spoolKL D q14)], spoolKR D q14, spoolKR s p13, [Res.cells (w.heap.size + 1) [.string au, .string ad]], [Res.cells (w.heap.size) (spoolKL s ps)]]) := ⟨((S10.out).set 0 (.int .i64 D.last) (by simp)).set 1 (.slice q14.a D.items.length q14.c) (by simp)⟩
      go_simp
      refine hK.out _ _ ⟨(S11.out.cellsM 4 rfl).c 0 _ rfl, (S11.out.cellsM 4 rfl).c 1 _ rfl, (S11.out.cellsM 3 rfl).c 0 _ rfl, (S11.out.cellsM 3 rfl).c 1 _ rfl⟩ (fun hHeld => ?_)
      clear hK K
      try simp only [Act.put, List.getElem_toArray, List.getElem_cons_succ, List.getElem_cons_zero, List.setIfInBounds_toArray, List.set_cons_zero, List.set_cons_succ]
      clear oc0 of0 oc1 of1
      refine wpAnyH_ready (rs := [11]) (by kernel_rfl) (by simp) ?_
      refine AllReadyH.cons rfl (fun K hK => ?_) AllReadyH.nil
      go_simp
      refine hK.out _ _ (by assumption) (fun hHeld => ?_)
      clear hK K
      try simp only [Act.put, List.getElem_toArray, List.getElem_cons_succ, List.getElem_cons_zero, List.setIfInBounds_toArray, List.set_cons_zero, List.set_cons_succ]
      refine wpAnyH_done (by kernel_rfl) ?_ _
      go_wp2_with fail
      go_meet
      exact ⟨w2.heap.size, q14, rfl, rfl, HFq14.out, by first | exact (Pt.prefix (As := [[Res.cells w2.heap.size (spoolKL D q14)], spoolKR D q14, [Res.cells (w.heap.size + 1) [.string au, .string ad]], [Res.cells (w.heap.size) (spoolKL s ps)]]) (Bs := [spoolKR s p13]) (Pt.bring ((Pt.bring ((Pt.bring ((Pt.bring (S11.out) 4 rfl)) 4 rfl)) 3 rfl)) 3 rfl))⟩
  case rest =>
  obtain ⟨k7, q8, rfl, rfl, hf, hS⟩ := hcut
  have HFq8 : Seal _ := ⟨hf⟩
  have S5 : Seal (Pt w _ [[Res.cells k7 (spoolKL D q8)], spoolKR D q8, [Res.cells (w.heap.size + 1) [.string au, .string ad]], [Res.cells (w.heap.size) (spoolKL s ps)]]) := ⟨hS⟩
  clear hf hS S4
  generalize wc = w12 at *
  have g15 := (S5.out.cellsM 3 rfl).c 0 _ rfl
  have g16 := (S5.out.cellsM 3 rfl).c 1 _ rfl
  have g17 := (S5.out.cellsM 3 rfl).lt
  go_wp2_with fail
  refine (toSpool_K s ps _ (spoolK_below HAs.out S5.out.below (Nat.le_refl _)) HZs.out).mono ?_
  rintro e w13 ⟨p18, rfl, hf, hk⟩
  have HFp18 : Seal _ := ⟨hf⟩
  have S6 : Seal (Pt w w13 [spoolKR s p18, [Res.cells k7 (spoolKL D q8)], spoolKR D q8, [Res.cells (w.heap.size + 1) [.string au, .string ad]], [Res.cells (w.heap.size) (spoolKL s ps)]]) := ⟨S5.out.join hk⟩
  clear hk hf
  clear S5 g15 g16 g17
  have S7 : Seal (Pt w (w13.alloc (.cells (spoolKV s p18) 25)) [[Res.cells w13.heap.size (spoolKL s p18)], spoolKR s p18, [Res.cells k7 (spoolKL D q8)], spoolKR D q8, [Res.cells (w.heap.size + 1) [.string au, .string ad]], [Res.cells (w.heap.size) (spoolKL s ps)]]) := ⟨S6.out.alloc (spoolKV s p18) 25⟩
  clear S6
  go_upto_region 10 with fail
  generalize w13.alloc (.cells (spoolKV s p18) 25) = w14 at *
  go_cut [11, 12] (fun s11 s12 wx => ∃ (k19 : Nat) (q20 : SpoolP), s11 = .pointer (some ⟨k19, 0, none⟩) ∧ s12 = .bool q ∧ spoolKF D q20 ∧ Pt w wx [[Res.cells k19 (spoolKL D q20)], spoolKR D q20, [Res.cells w13.heap.size (spoolKL s p18)], spoolKR s p18, [Res.cells k7 (spoolKL D q8)], spoolKR D q8, [Res.cells (w.heap.size + 1) [.string au, .string ad]], [Res.cells (w.heap.size) (spoolKL s ps)]])
  case first =>
    refine wp_region_held_drew (S := (fun w' => w'.cell? ⟨w13.heap.size, 0, none⟩ = some (.int .i64 s.last) ∧ w'.cell? ⟨w13.heap.size, 1, none⟩ = some (.slice p18.a s.items.length p18.c) ∧ w'.cell? ⟨w.heap.size + 1, 0, none⟩ = some (.string au) ∧ w'.cell? ⟨w.heap.size + 1, 1, none⟩ = some (.string ad))) (by kernel_rfl) ⟨(S7.out.cellsM 0 rfl).c 0 _ rfl, (S7.out.cellsM 0 rfl).c 1 _ rfl, (S7.out.cellsM 4 rfl).c 0 _ rfl, (S7.out.cellsM 4 rfl).c 1 _ rfl⟩ (fun hHeld => ?_)
    have S8 : Seal (Pt w _ [[Res.cells w13.heap.size (spoolKL s p18)], spoolKR s p18, [Res.cells k7 (spoolKL D q8)], spoolKR D q8, [Res.cells (w.heap.size + 1) [.string au, .string ad]], [Res.cells (w.heap.size) (spoolKL s ps)]]) := ⟨S7.out.drew⟩
    (refine wpAnyH_take (i := 0) (v := ?_) rfl (by kernel_rfl) (by kernel_rfl) (by kernel_rfl) (fun _ _ _ h => h) (Or.inl ⟨by rfl, ?_⟩) (by assumption) ?_; rotate_left; (intro w hSw; (try dsimp only at hSw); go_split_ands; go_simp; first | done | with_reducible rfl); rotate_left; simp only [Act.put, List.getElem_toArray, List.getElem_cons_zero, List.setIfInBounds_toArray, List.set_cons_succ, List.set_cons_zero])
    (refine wpAnyH_take (i := 1) (v := ?_) rfl (by kernel_rfl) (by kernel_rfl) (by kernel_rfl) (fun _ _ _ h => h) (Or.inl ⟨by rfl, ?_⟩) (by assumption) ?_; rotate_left; (intro w hSw; (try dsimp only at hSw); go_split_ands; go_simp; first | done | with_reducible rfl); rotate_left; simp only [Act.put, List.getElem_toArray, List.getElem_cons_succ, List.getElem_cons_zero, List.setIfInBounds_toArray, List.set_cons_succ, List.set_cons_zero])
    (refine wpAnyH_take (i := 2) (v := ?_) rfl (by kernel_rfl) (by kernel_rfl) (by kernel_rfl) (fun _ _ _ h => h) (Or.inl ⟨by rfl, ?_⟩) (by assumption) ?_; rotate_left; (intro w hSw; (try dsimp only at hSw); go_split_ands; go_simp; first | done | with_reducible rfl); rotate_left; simp only [Act.put, List.getElem_toArray, List.getElem_cons_succ, List.getElem_cons_zero, List.setIfInBounds_toArray, List.set_cons_succ, List.set_cons_zero])
    refine wpAnyH_ready (rs := [3, 8]) (by kernel_rfl) (by simp) ?_
    refine AllReadyH.cons rfl (fun K hK => ?_) (AllReadyH.cons rfl (fun K hK => ?_) AllReadyH.nil)
    · try dsimp only at hHeld
      go_split_ands
      go_simp
      refine (toAddr_any au ad _).mono ?_
      rintro e w15 ⟨rfl, hb⟩
      have S9 : Seal (Pt w w15 [[Res.cells w13.heap.size (spoolKL s p18)], spoolKR s p18, [Res.cells k7 (spoolKL D q8)], spoolKR D q8, [Res.cells (w.heap.size + 1) [.string au, .string ad]], [Res.cells (w.heap.size) (spoolKL s ps)]]) := ⟨S8.out.later hb⟩
      clear hb
      refine hK.out _ _ ⟨(S9.out.cellsM 0 rfl).c 0 _ rfl, (S9.out.cellsM 0 rfl).c 1 _ rfl, (S9.out.cellsM 4 rfl).c 0 _ rfl, (S9.out.cellsM 4 rfl).c 1 _ rfl⟩ (fun hHeld => ?_)
      clear hK K
      try simp only [Act.put, List.getElem_toArray, List.getElem_cons_succ, List.getElem_cons_zero, List.setIfInBounds_toArray, List.set_cons_zero, List.set_cons_succ]
      refine wpAnyH_ready (rs := [4, 8]) (by kernel_rfl) (by simp) ?_
      refine AllReadyH.cons rfl (fun K hK => ?_) (AllReadyH.cons rfl (fun K hK => ?_) AllReadyH.nil)
      · try dsimp only at hHeld
        go_split_ands
        go_simp
        refine (CI.out _ _ (HM.out.below S9.out.below (Nat.le_refl _)) p18 1 S9.out rfl HFp18.out).mono ?_
        rintro e w16 ⟨q21, rfl, hfq21, hk⟩
        have HFq21 : Seal _ := ⟨hfq21⟩
        have S10 : Seal (Pt w w16 [spoolKR D q21, [Res.cells w13.heap.size (spoolKL s p18)], spoolKR s p18, [Res.cells k7 (spoolKL D q8)], spoolKR D q8, [Res.cells (w.heap.size + 1) [.string au, .string ad]], [Res.cells (w.heap.size) (spoolKL s ps)]]) := ⟨S9.out.join hk⟩
        clear hk hfq21
        refine hK.out _ _ ⟨(S10.out.cellsM 1 rfl).c 0 _ rfl, (S10.out.cellsM 1 rfl).c 1 _ rfl, (S10.out.cellsM 5 rfl).c 0 _ rfl, (S10.out.cellsM 5 rfl).c 1 _ rfl⟩ (fun hHeld => ?_)
        clear hK K
        try simp only [Act.put, List.getElem_toArray, List.getElem_cons_succ, List.getElem_cons_zero, List.setIfInBounds_toArray, List.set_cons_zero, List.set_cons_succ]
        (refine wpAnyH_take (i := 5) (v := ?_) rfl (by kernel_rfl) (by kernel_rfl) (by kernel_rfl) (fun _ _ _ h => h) (Or.inl ⟨by rfl, ?_⟩) (by assumption) ?_; rotate_left; (intro w hSw; (try dsimp only at hSw); go_split_ands; go_simp; first | done | with_reducible rfl); rotate_left; simp only [Act.put, List.getElem_toArray, List.getElem_cons_succ, List.getElem_cons_zero, List.setIfInBounds_toArray, List.set_cons_succ, List.set_cons_zero])
        (refine wpAnyH_take (i := 6) (v := ?_) rfl (by kernel_rfl) (by kernel_rfl) (by kernel_rfl) (fun _ _ _ h => h) (Or.inl ⟨by rfl, ?_⟩) (by assumption) ?_; rotate_left; (intro w hSw; (try dsimp only at hSw); go_split_ands; go_simp; first | done | with_reducible rfl); rotate_left; simp only [Act.put, List.getElem_toArray, List.getElem_cons_succ, List.getElem_cons_zero, List.setIfInBounds_toArray, List.set_cons_succ, List.set_cons_zero])
        (refine wpAnyH_take (i := 7) (v := ?_) rfl (by kernel_rfl) (by kernel_rfl) (by kernel_rfl) (fun _ _ _ h => h) (Or.inl ⟨by rfl, ?_⟩) (by assumption) ?_; rotate_left; (intro w hSw; (try dsimp only at hSw); go_split_ands; go_simp; first | done | with_reducible rfl); rotate_left; simp only [Act.put, List.getElem_toArray, List.getElem_cons_succ, List.getElem_cons_zero, List.setIfInBounds_toArray, List.set_cons_succ, List.set_cons_zero])
        refine wpAnyH_ready (rs := [8]) (by kernel_rfl) (by simp) ?_
        refine AllReadyH.cons rfl (fun K hK => ?_) AllReadyH.nil
        have S11 : Seal (Pt w (w16.alloc (.cells #[.int .i64 0, .slice none 0 0] 25)) [[Res.cells w16.heap.size ((#[.int .i64 0, .slice none 0 0] : Array Value).toList)], spoolKR D q21, [Res.cells w13.heap.size (spoolKL s p18)], spoolKR s p18, [Res.cells k7 (spoolKL D q8)], spoolKR D q8, [Res.cells (w.heap.size + 1) [.string au, .string ad]], [Res.cells (w.heap.size) (spoolKL s ps)]]) := ⟨S10.out.alloc #[.int .i64 0, .slice none 0 0] 25⟩
        go_simp
        refine hK.out _ _ ⟨(S11.out.cellsM 2 rfl).c 0 _ rfl, (S11.out.cellsM 2 rfl).c 1 _ rfl, (S11.out.cellsM 6 rfl).c 0 _ rfl, (S11.out.cellsM 6 rfl).c 1 _ rfl⟩ (fun hHeld => ?_)
        clear hK K
        try simp only [Act.put, List.getElem_toArray, List.getElem_cons_succ, List.getElem_cons_zero, List.setIfInBounds_toArray, List.set_cons_zero, List.set_cons_succ]
        refine wpAnyH_ready (rs := [9]) (by kernel_rfl) (by simp) ?_
        refine AllReadyH.cons rfl (fun K hK => ?_) AllReadyH.nil
        have oc0 := (S11.out.cellsM 0 rfl).c 0 _ rfl
        have of0 := (S11.out.cellsM 0 rfl).f 0 (by simp)
        have oc1 := (S11.out.cellsM 0 rfl).c 1 _ rfl
        have of1 := (S11.out.cellsM 0 rfl).f 1 (by simp)
        have SB12 : Seal (Pt w (((w16.alloc (.cells #[.int .i64 0, .slice none 0 0] 25)).setCell ⟨w16.heap.size, 0, none⟩ (.int .i64 D.last)).setCell ⟨w16.heap.size, 1, none⟩ (.slice q21.a D.items.length q21.c)) [[Res.cells w16.heap.size (spoolKL D q21)], spoolKR D q21, [Res.cells w13.heap.size (spoolKL s p18)], spoolKR s p18, [Res.cells k7 (spoolKL D q8)], spoolKR D q8, [Res.cells (w.heap.size + 1) [.string au, .string ad]], [Res.cells (w.heap.size) (spoolKL s ps)]]) := ⟨((S11.out).set 0 (.int .i64 D.last) (by simp)).set 1 (.slice q21.a D.items.length q21.c) (by simp)⟩
        have SA12 : Seal (Pt w (w16.alloc (.cells (spoolKV D q21) 25)) [[Res.cells w16.heap.size (spoolKL D q21)], spoolKR D q21, [Res.cells w13.heap.size (spoolKL s p18)], spoolKR s p18, [Res.cells k7 (spoolKL D q8)], spoolKR D q8, [Res.cells (w.heap.size + 1) [.string au, .string ad]], [Res.cells (w.heap.size) (spoolKL s ps)]]) := ⟨S10.out.alloc (spoolKV D q21) 25⟩
        go_simp
        refine hK.out _ _ (by first | exact ⟨(SA12.out.cellsM 2 rfl).c 0 _ rfl, (SA12.out.cellsM 2 rfl).c 1 _ rfl, (SA12.out.cellsM 6 rfl).c 0 _ rfl, (SA12.out.cellsM 6 rfl).c 1 _ rfl⟩ | exact ⟨(SB12.out.cellsM 2 rfl).c 0 _ rfl, (SB12.out.cellsM 2 rfl).c 1 _ rfl, (SB12.out.cellsM 6 rfl).c 0 _ rfl, (SB12.out.cellsM 6 rfl).c 1 _ rfl⟩) (fun hHeld => ?_)
        clear hK K
        try simp only [Act.put, List.getElem_toArray, List.getElem_cons_succ, List.getElem_cons_zero, List.setIfInBounds_toArray, List.set_cons_zero, List.set_cons_succ]
        clear oc0 of0 oc1 of1
        refine wpAnyH_ready (rs := [10]) (by kernel_rfl) (by simp) ?_
        refine AllReadyH.cons rfl (fun K hK => ?_) AllReadyH.nil
        go_simp
        refine hK.out _ _ (by assumption) (fun hHeld => ?_)
        clear hK K
        try simp only [Act.put, List.getElem_toArray, List.getElem_cons_succ, List.getElem_cons_zero, List.setIfInBounds_toArray, List.set_cons_zero, List.set_cons_succ]
        refine wpAnyH_done (by kernel_rfl) ?_ _
        go_wp2_with fail
        go_meet
        exact ⟨w16.heap.size, q21, rfl, rfl, HFq21.out, by first | exact (Pt.prefix (As := [[Res.cells w16.heap.size (spoolKL D q21)], spoolKR D q21, [Res.cells w13.heap.size (spoolKL s p18)], spoolKR s p18, [Res.cells k7 (spoolKL D q8)], spoolKR D q8, [Res.cells (w.heap.size + 1) [.string au, .string ad]], [Res.cells (w.heap.size) (spoolKL s ps)]]) (Bs := []) (Pt.bring ((Pt.bring ((Pt.bring ((Pt.bring ((Pt.bring ((Pt.bring ((Pt.bring ((Pt.bring (SA12.out) 7 rfl)) 7 rfl)) 7 rfl)) 7 rfl)) 7 rfl)) 7 rfl)) 7 rfl)) 7 rfl)) | exact (Pt.prefix (As := [[Res.cells w16.heap.size (spoolKL D q21)], spoolKR D q21, [Res.cells w13.heap.size (spoolKL s p18)], spoolKR s p18, [Res.cells k7 (spoolKL D q8)], spoolKR D q8, [Res.cells (w.heap.size + 1) [.string au, .string ad]], [Res.cells (w.heap.size) (spoolKL s ps)]]) (Bs := []) (Pt.bring ((Pt.bring ((Pt.bring ((Pt.bring ((Pt.bring ((Pt.bring ((Pt.bring ((Pt.bring (SB12.out) 7 rfl)) 7 rfl)) 7 rfl)) 7 rfl)) 7 rfl)) 7 rfl)) 7 rfl)) 7 rfl))⟩
      · have S10 : Seal (Pt w (w15.alloc (.cells #[.int .i64 0, .slice none 0 0] 25)) [[Res.cells w15.heap.size ((#[.int .i64 0, .slice none 0 0] : Array Value).toList)], [Res.cells w13.heap.size (spoolKL s p18)], spoolKR s p18, [Res.cells k7 (spoolKL D q8)], spoolKR D q8, [Res.cells (w.heap.size + 1) [.string au, .string ad]], [Res.cells (w.heap.size) (spoolKL s ps)]]) := ⟨S9.out.alloc #[.int .i64 0, .slice none 0 0] 25⟩
        go_simp
        refine hK.out _ _ ⟨(S10.out.cellsM 1 rfl).c 0 _ rfl, (S10.out.cellsM 1 rfl).c 1 _ rfl, (S10.out.cellsM 5 rfl).c 0 _ rfl, (S10.out.cellsM 5 rfl).c 1 _ rfl⟩ (fun hHeld => ?_)
        clear hK K
        try simp only [Act.put, List.getElem_toArray, List.getElem_cons_succ, List.getElem_cons_zero, List.setIfInBounds_toArray, List.set_cons_zero, List.set_cons_succ]
        refine wpAnyH_ready (rs := [4]) (by kernel_rfl) (by simp) ?_
        refine AllReadyH.cons rfl (fun K hK => ?_) AllReadyH.nil
        try dsimp only at hHeld
        go_split_ands
        go_simp
        refine (CI.out _ _ (HM.out.below S10.out.below (Nat.le_refl _)) p18 2 S10.out rfl HFp18.out).mono ?_
        rintro e w17 ⟨q22, rfl, hfq22, hk⟩
        have HFq22 : Seal _ := ⟨hfq22⟩
        have S11 : Seal (Pt w w17 [spoolKR D q22, [Res.cells w15.heap.size ((#[.int .i64 0, .slice none 0 0] : Array Value).toList)], [Res.cells w13.heap.size (spoolKL s p18)], spoolKR s p18, [Res.cells k7 (spoolKL D q8)], spoolKR D q8, [Res.cells (w.heap.size + 1) [.string au, .string ad]], [Res.cells (w.heap.size) (spoolKL s ps)]]) := ⟨S10.out.join hk⟩
        clear hk hfq22
        refine hK.out _ _ ⟨(S11.out.cellsM 2 rfl).c 0 _ rfl, (S11.out.cellsM 2 rfl).c 1 _ rfl, (S11.out.cellsM 6 rfl).c 0 _ rfl, (S11.out.cellsM 6 rfl).c 1 _ rfl⟩ (fun hHeld => ?_)
        clear hK K
        try simp only [Act.put, List.getElem_toArray, List.getElem_cons_succ, List.getElem_cons_zero, List.setIfInBounds_toArray, List.set_cons_zero, List.set_cons_succ]
        (refine wpAnyH_take (i := 5) (v := ?_) rfl (by kernel_rfl) (by kernel_rfl) (by kernel_rfl) (fun _ _ _ h => h) (Or.inl ⟨by rfl, ?_⟩) (by assumption) ?_; rotate_left; (intro w hSw; (try dsimp only at hSw); go_split_ands; go_simp; first | done | with_reducible rfl); rotate_left; simp only [Act.put, List.getElem_toArray, List.getElem_cons_succ, List.getElem_cons_zero, List.setIfInBounds_toArray, List.set_cons_succ, List.set_cons_zero])
        (refine wpAnyH_take (i := 6) (v := ?_) rfl (by kernel_rfl) (by kernel_rfl) (by kernel_rfl) (fun _ _ _ h => h) (Or.inl ⟨by rfl, ?_⟩) (by assumption) ?_; rotate_left; (intro w hSw; (try dsimp only at hSw); go_split_ands; go_simp; first | done | with_reducible rfl); rotate_left; simp only [Act.put, List.getElem_toArray, List.getElem_cons_succ, List.getElem_cons_zero, List.setIfInBounds_toArray, List.set_cons_succ, List.set_cons_zero])
        (refine wpAnyH_take (i := 7) (v := ?_) rfl (by kernel_rfl) (by kernel_rfl) (by kernel_rfl) (fun _ _ _ h => h) (Or.inl ⟨by rfl, ?_⟩) (by assumption) ?_; rotate_left; (intro w hSw; (try dsimp only at hSw); go_split_ands; go_simp; first | done | with_reducible rfl); rotate_left; simp only [Act.put, List.getElem_toArray, List.getElem_cons_succ, List.getElem_cons_zero, List.setIfInBounds_toArray, List.set_cons_succ, List.set_cons_zero])
        refine wpAnyH_ready (rs := [9]) (by kernel_rfl) (by simp) ?_
        refine AllReadyH.cons rfl (fun K hK => ?_) AllReadyH.nil
        have S12 : Seal (Pt w w17 [[Res.cells w15.heap.size ((#[.int .i64 0, .slice none 0 0] : Array Value).toList)], spoolKR D q22, [Res.cells w13.heap.size (spoolKL s p18)], spoolKR s p18, [Res.cells k7 (spoolKL D q8)], spoolKR D q8, [Res.cells (w.heap.size + 1) [.string au, .string ad]], [Res.cells (w.heap.size) (spoolKL s ps)]]) := ⟨S11.out.bring 1 rfl⟩
        have oc0 := (S12.out.cellsM 0 rfl).c 0 _ rfl
        have of0 := (S12.out.cellsM 0 rfl).f 0 (by simp)
        have oc1 := (S12.out.cellsM 0 rfl).c 1 _ rfl
        have of1 := (S12.out.cellsM 0 rfl).f 1 (by simp)
        have S13 : Seal (Pt w ((w17.setCell ⟨w15.heap.size, 0, none⟩ (.int .i64 D.last)).setCell ⟨w15.heap.size, 1, none⟩ (.slice q22.a D.items.length q22.c)) [[Res.cells w15.heap.size (spoolKL D q22)], spoolKR D q22, [Res.cells w13.heap.size (spoolKL s p18)], spoolKR s p18, [Res.cells k7 (spoolKL D q8)], spoolKR D q8, [Res.cells (w.heap.size + 1) [.string au, .string ad]], [Res.cells (w.heap.size) (spoolKL s ps)]]) := ⟨((S12.out).set 0 (.int .i64 D.last) (by simp)).set 1 (.slice q22.a D.items.length q22.c) (by simp)⟩
        go_simp
        refine hK.out _ _ ⟨(S13.out.cellsM 2 rfl).c 0 _ rfl, (S13.out.cellsM 2 rfl).c 1 _ rfl, (S13.out.cellsM 6 rfl).c 0 _ rfl, (S13.out.cellsM 6 rfl).c 1 _ rfl⟩ (fun hHeld => ?_)
        clear hK K
        try simp only [Act.put, List.getElem_toArray, List.getElem_cons_succ, List.getElem_cons_zero, List.setIfInBounds_toArray, List.set_cons_zero, List.set_cons_succ]
        clear oc0 of0 oc1 of1
        refine wpAnyH_ready (rs := [10]) (by kernel_rfl) (by simp) ?_
        refine AllReadyH.cons rfl (fun K hK => ?_) AllReadyH.nil
        go_simp
        refine hK.out _ _ (by assumption) (fun hHeld => ?_)
        clear hK K
        try simp only [Act.put, List.getElem_toArray, List.getElem_cons_succ, List.getElem_cons_zero, List.setIfInBounds_toArray, List.set_cons_zero, List.set_cons_succ]
        refine wpAnyH_done (by kernel_rfl) ?_ _
        go_wp2_with fail
        go_meet
        exact ⟨w15.heap.size, q22, rfl, rfl, HFq22.out, by first | exact (Pt.prefix (As := [[Res.cells w15.heap.size (spoolKL D q22)], spoolKR D q22, [Res.cells w13.heap.size (spoolKL s p18)], spoolKR s p18, [Res.cells k7 (spoolKL D q8)], spoolKR D q8, [Res.cells (w.heap.size + 1) [.string au, .string ad]], [Res.cells (w.heap.size) (spoolKL s ps)]]) (Bs := []) (Pt.bring ((Pt.bring ((Pt.bring ((Pt.bring ((Pt.bring ((Pt.bring ((Pt.bring ((Pt.bring (S13.out) 7 rfl)) 7 rfl)) 7 rfl)) 7 rfl)) 7 rfl)) 7 rfl)) 7 rfl)) 7 rfl))⟩
    · have S9 : Seal (Pt w (w14.drew.alloc (.cells #[.int .i64 0, .slice none 0 0] 25)) [[Res.cells w14.heap.size ((#[.int .i64 0, .slice none 0 0] : Array Value).toList)], [Res.cells w13.heap.size (spoolKL s p18)], spoolKR s p18, [Res.cells k7 (spoolKL D q8)], spoolKR D q8, [Res.cells (w.heap.size + 1) [.string au, .string ad]], [Res.cells (w.heap.size) (spoolKL s ps)]]) := ⟨S8.out.alloc #[.int .i64 0, .slice none 0 0] 25⟩
      go_simp
      refine hK.out _ _ ⟨(S9.out.cellsM 1 rfl).c 0 _ rfl, (S9.out.cellsM 1 rfl).c 1 _ rfl, (S9.out.cellsM 5 rfl).c 0 _ rfl, (S9.out.cellsM 5 rfl).c 1 _ rfl⟩ (fun hHeld => ?_)
      clear hK K
      try simp only [Act.put, List.getElem_toArray, List.getElem_cons_succ, List.getElem_cons_zero, List.setIfInBounds_toArray, List.set_cons_zero, List.set_cons_succ]
      refine wpAnyH_ready (rs := [3]) (by kernel_rfl) (by simp) ?_
      refine AllReadyH.cons rfl (fun K hK => ?_) AllReadyH.nil
      try dsimp only at hHeld
      go_split_ands
      go_simp
      refine (toAddr_any au ad _).mono ?_
      rintro e w18 ⟨rfl, hb⟩
      have S10 : Seal (Pt w w18 [[Res.cells w14.heap.size ((#[.int .i64 0, .slice none 0 0] : Array Value).toList)], [Res.cells w13.heap.size (spoolKL s p18)], spoolKR s p18, [Res.cells k7 (spoolKL D q8)], spoolKR D q8, [Res.cells (w.heap.size + 1) [.string au, .string ad]], [Res.cells (w.heap.size) (spoolKL s ps)]]) := ⟨S9.out.later hb⟩
      clear hb
      refine hK.out _ _ ⟨(S10.out.cellsM 1 rfl).c 0 _ rfl, (S10.out.cellsM 1 rfl).c 1 _ rfl, (S10.out.cellsM 5 rfl).c 0 _ rfl, (S10.out.cellsM 5 rfl).c 1 _ rfl⟩ (fun hHeld => ?_)
      clear hK K
      try simp only [Act.put, List.getElem_toArray, List.getElem_cons_succ, List.getElem_cons_zero, List.setIfInBounds_toArray, List.set_cons_zero, List.set_cons_succ]
      refine wpAnyH_ready (rs := [4]) (by kernel_rfl) (by simp) ?_
      refine AllReadyH.cons rfl (fun K hK => ?_) AllReadyH.nil
      try dsimp only at hHeld
      go_split_ands
      go_simp
      refine (CI.out _ _ (HM.out.below S10.out.below (Nat.le_refl _)) p18 2 S10.out rfl HFp18.out).mono ?_
      rintro e w19 ⟨q23, rfl, hfq23, hk⟩
      have HFq23 : Seal _ := ⟨hfq23⟩
      have S11 : Seal (Pt w w19 [spoolKR D q23, [Res.cells w14.heap.size ((#[.int .i64 0, .slice none 0 0] : Array Value).toList)], [Res.cells w13.heap.size (spoolKL s p18)], spoolKR s p18, [Res.cells k7 (spoolKL D q8)], spoolKR D q8, [Res.cells (w.heap.size + 1) [.string au, .string ad]], [Res.cells (w.heap.size) (spoolKL s ps)]]) := ⟨S10.out.join hk⟩
      clear hk hfq23
      refine hK.out _ _ ⟨(S11.out.cellsM 2 rfl).c 0 _ rfl, (S11.out.cellsM 2 rfl).c 1 _ rfl, (S11.out.cellsM 6 rfl).c 0 _ rfl, (S11.out.cellsM 6 rfl).c 1 _ rfl⟩ (fun hHeld => ?_)
      clear hK K
      try simp only [Act.put, List.getElem_toArray, List.getElem_cons_succ, List.getElem_cons_zero, List.setIfInBounds_toArray, List.set_cons_zero, List.set_cons_succ]
      (refine wpAnyH_take (i := 5) (v := ?_) rfl (by kernel_rfl) (by kernel_rfl) (by kernel_rfl) (fun _ _ _ h => h) (Or.inl ⟨by rfl, ?_⟩) (by assumption) ?_; rotate_left; (intro w hSw; (try dsimp only at hSw); go_split_ands; go_simp; first | done | with_reducible rfl); rotate_left; simp only [Act.put, List.getElem_toArray, List.getElem_cons_succ, List.getElem_cons_zero, List.setIfInBounds_toArray, List.set_cons_succ, List.set_cons_zero])
      (refine wpAnyH_take (i := 6) (v := ?_) rfl (by kernel_rfl) (by kernel_rfl) (by kernel_rfl) (fun _ _ _ h => h) (Or.inl ⟨by rfl, ?_⟩) (by assumption) ?_; rotate_left; (intro w hSw; (try dsimp only at hSw); go_split_ands; go_simp; first | done | with_reducible rfl); rotate_left; simp only [Act.put, List.getElem_toArray, List.getElem_cons_succ, List.getElem_cons_zero, List.setIfInBounds_toArray, List.set_cons_succ, List.set_cons_zero])
      (refine wpAnyH_take (i := 7) (v := ?_) rfl (by kernel_rfl) (by kernel_rfl) (by kernel_rfl) (fun _ _ _ h => h) (Or.inl ⟨by rfl, ?_⟩) (by assumption) ?_; rotate_left; (intro w hSw; (try dsimp only at hSw); go_split_ands; go_simp; first | done | with_reducible rfl); rotate_left; simp only [Act.put, List.getElem_toArray, List.getElem_cons_succ, List.getElem_cons_zero, List.setIfInBounds_toArray, List.set_cons_succ, List.set_cons_zero])
      refine wpAnyH_ready (rs := [9]) (by kernel_rfl) (by simp) ?_
      refine AllReadyH.cons rfl (fun K hK => ?_) AllReadyH.nil
      have S12 : Seal (Pt w w19 [[Res.cells w14.heap.size ((#[.int .i64 0, .slice none 0 0] : Array Value).toList)], spoolKR D q23, [Res.cells w13.heap.size (spoolKL s p18)], spoolKR s p18, [Res.cells k7 (spoolKL D q8)], spoolKR D q8, [Res.cells (w.heap.size + 1) [.string au, .string ad]], [Res.cells (w.heap.size) (spoolKL s ps)]]) := ⟨S11.out.bring 1 rfl⟩
      have oc0 := (S12.out.cellsM 0 rfl).c 0 _ rfl
      have of0 := (S12.out.cellsM 0 rfl).f 0 (by simp)
      have oc1 := (S12.out.cellsM 0 rfl).c 1 _ rfl
      have of1 := (S12.out.cellsM 0 rfl).f 1 (by simp)
      have S13 : Seal (Pt w ((w19.setCell ⟨w14.heap.size, 0, none⟩ (.int .i64 D.last)).setCell ⟨w14.heap.size, 1, none⟩ (.slice q23.a D.items.length q23.c)) [[Res.cells w14.heap.size (spoolKL D q23)], spoolKR D q23, [Res.cells w13.heap.size (spoolKL s p18)], spoolKR s p18, [Res.cells k7 (spoolKL D q8)], spoolKR D q8, [Res.cells (w.heap.size + 1) [.string au, .string ad]], [Res.cells (w.heap.size) (spoolKL s ps)]]) := ⟨((S12.out).set 0 (.int .i64 D.last) (by simp)).set 1 (.slice q23.a D.items.length q23.c) (by simp)⟩
      go_simp
      refine hK.out _ _ ⟨(S13.out.cellsM 2 rfl).c 0 _ rfl, (S13.out.cellsM 2 rfl).c 1 _ rfl, (S13.out.cellsM 6 rfl).c 0 _ rfl, (S13.out.cellsM 6 rfl).c 1 _ rfl⟩ (fun hHeld => ?_)
      clear hK K
      try simp only [Act.put, List.getElem_toArray, List.getElem_cons_succ, List.getElem_cons_zero, List.setIfInBounds_toArray, List.set_cons_zero, List.set_cons_succ]
      clear oc0 of0 oc1 of1
      refine wpAnyH_ready (rs := [10]) (by kernel_rfl) (by simp) ?_
      refine AllReadyH.cons rfl (fun K hK => ?_) AllReadyH.nil
      go_simp
      refine hK.out _ _ (by assumption) (fun hHeld => ?_)
      clear hK K
      try simp only [Act.put, List.getElem_toArray, List.getElem_cons_succ, List.getElem_cons_zero, List.setIfInBounds_toArray, List.set_cons_zero, List.set_cons_succ]
      refine wpAnyH_done (by kernel_rfl) ?_ _
      go_wp2_with fail
      go_meet
      exact ⟨w14.heap.size, q23, rfl, rfl, HFq23.out, by first | exact (Pt.prefix (As := [[Res.cells w14.heap.size (spoolKL D q23)], spoolKR D q23, [Res.cells w13.heap.size (spoolKL s p18)], spoolKR s p18, [Res.cells k7 (spoolKL D q8)], spoolKR D q8, [Res.cells (w.heap.size + 1) [.string au, .string ad]], [Res.cells (w.heap.size) (spoolKL s ps)]]) (Bs := []) (Pt.bring ((Pt.bring ((Pt.bring ((Pt.bring ((Pt.bring ((Pt.bring ((Pt.bring ((Pt.bring (S13.out) 7 rfl)) 7 rfl)) 7 rfl)) 7 rfl)) 7 rfl)) 7 rfl)) 7 rfl)) 7 rfl))⟩
  case rest =>
  obtain ⟨k19, q20, rfl, rfl, hf, hS⟩ := hcut
  have HFq20 : Seal _ := ⟨hf⟩
  have S8 : Seal (Pt w _ [[Res.cells k19 (spoolKL D q20)], spoolKR D q20, [Res.cells w13.heap.size (spoolKL s p18)], spoolKR s p18, [Res.cells k7 (spoolKL D q8)], spoolKR D q8, [Res.cells (w.heap.size + 1) [.string au, .string ad]], [Res.cells (w.heap.size) (spoolKL s ps)]]) := ⟨hS⟩
  clear hf hS S7
  generalize wc = w20 at *
  have g24 := (S8.out.cellsM 0 rfl).c 0 _ rfl
  have g25 := (S8.out.cellsM 0 rfl).c 1 _ rfl
  have g26 := (S8.out.cellsM 0 rfl).lt
  have g27 := (S8.out.cellsM 4 rfl).c 0 _ rfl
  have g28 := (S8.out.cellsM 4 rfl).c 1 _ rfl
  have g29 := (S8.out.cellsM 4 rfl).lt
  go_wp2_with fail
  refine (eqSpool_K D q20 q8 _ (spoolK_read HFq20.out (S8.out.nth 1 rfl)) (spoolK_read HFq8.out (S8.out.nth 5 rfl)) HZD.out).mono ?_
  rintro e w21 ⟨rfl, hb⟩
  have S9 : Seal (Pt w w21 [[Res.cells k19 (spoolKL D q20)], spoolKR D q20, [Res.cells w13.heap.size (spoolKL s p18)], spoolKR s p18, [Res.cells k7 (spoolKL D q8)], spoolKR D q8, [Res.cells (w.heap.size + 1) [.string au, .string ad]], [Res.cells (w.heap.size) (spoolKL s ps)]]) := ⟨S8.out.later hb⟩
  clear hb
  clear S8 g24 g25 g26 g27 g28 g29
  go_upto_region 13 with fail
  refine wp_region_held_drew (S := (fun w' => w'.cell? ⟨w13.heap.size, 0, none⟩ = some (.int .i64 s.last) ∧ w'.cell? ⟨w13.heap.size, 1, none⟩ = some (.slice p18.a s.items.length p18.c) ∧ w'.cell? ⟨w.heap.size, 0, none⟩ = some (.int .i64 s.last) ∧ w'.cell? ⟨w.heap.size, 1, none⟩ = some (.slice ps.a s.items.length ps.c))) (by kernel_rfl) ⟨(S9.out.cellsM 2 rfl).c 0 _ rfl, (S9.out.cellsM 2 rfl).c 1 _ rfl, (S9.out.cellsM 7 rfl).c 0 _ rfl, (S9.out.cellsM 7 rfl).c 1 _ rfl⟩ (fun hHeld => ?_)
  have S10 : Seal (Pt w _ [[Res.cells k19 (spoolKL D q20)], spoolKR D q20, [Res.cells w13.heap.size (spoolKL s p18)], spoolKR s p18, [Res.cells k7 (spoolKL D q8)], spoolKR D q8, [Res.cells (w.heap.size + 1) [.string au, .string ad]], [Res.cells (w.heap.size) (spoolKL s ps)]]) := ⟨S9.out.drew⟩
  (refine wpAnyH_take (i := 0) (v := ?_) rfl (by kernel_rfl) (by kernel_rfl) (by kernel_rfl) (fun _ _ _ h => h) (Or.inl ⟨by rfl, ?_⟩) (by assumption) ?_; rotate_left; (intro w hSw; (try dsimp only at hSw); go_split_ands; go_simp; first | done | with_reducible rfl); rotate_left; simp only [Act.put, List.getElem_toArray, List.getElem_cons_zero, List.setIfInBounds_toArray, List.set_cons_succ, List.set_cons_zero])
  (refine wpAnyH_take (i := 1) (v := ?_) rfl (by kernel_rfl) (by kernel_rfl) (by kernel_rfl) (fun _ _ _ h => h) (Or.inl ⟨by rfl, ?_⟩) (by assumption) ?_; rotate_left; (intro w hSw; (try dsimp only at hSw); go_split_ands; go_simp; first | done | with_reducible rfl); rotate_left; simp only [Act.put, List.getElem_toArray, List.getElem_cons_succ, List.getElem_cons_zero, List.setIfInBounds_toArray, List.set_cons_succ, List.set_cons_zero])
  refine wpAnyH_ready (rs := [2]) (by kernel_rfl) (by simp) ?_
  refine AllReadyH.cons rfl (fun K hK => ?_) AllReadyH.nil
  try dsimp only at hHeld
  go_split_ands
  go_simp
  refine (toSpool_K s ps _ (spoolK_below HAs.out S10.out.below (Nat.le_refl _)) HZs.out).mono ?_
  rintro e w22 ⟨p30, rfl, hf, hk⟩
  have HFp30 : Seal _ := ⟨hf⟩
  have S11 : Seal (Pt w w22 [spoolKR s p30, [Res.cells k19 (spoolKL D q20)], spoolKR D q20, [Res.cells w13.heap.size (spoolKL s p18)], spoolKR s p18, [Res.cells k7 (spoolKL D q8)], spoolKR D q8, [Res.cells (w.heap.size + 1) [.string au, .string ad]], [Res.cells (w.heap.size) (spoolKL s ps)]]) := ⟨S10.out.join hk⟩
  clear hk hf
  refine hK.out _ _ ⟨(S11.out.cellsM 3 rfl).c 0 _ rfl, (S11.out.cellsM 3 rfl).c 1 _ rfl, (S11.out.cellsM 8 rfl).c 0 _ rfl, (S11.out.cellsM 8 rfl).c 1 _ rfl⟩ (fun hHeld => ?_)
  clear hK K
  try simp only [Act.put, List.getElem_toArray, List.getElem_cons_succ, List.getElem_cons_zero, List.setIfInBounds_toArray, List.set_cons_zero, List.set_cons_succ]
  refine wpAnyH_ready (rs := [3]) (by kernel_rfl) (by simp) ?_
  refine AllReadyH.cons rfl (fun K hK => ?_) AllReadyH.nil
  try dsimp only at hHeld
  go_split_ands
  go_simp
  refine (eqSpool_K s p18 p30 _ (spoolK_read HFp18.out (S11.out.nth 4 rfl)) (spoolK_read HFp30.out (S11.out.nth 0 rfl)) HZs.out).mono ?_
  rintro e w23 ⟨rfl, hb⟩
  have S12 : Seal (Pt w w23 [spoolKR s p30, [Res.cells k19 (spoolKL D q20)], spoolKR D q20, [Res.cells w13.heap.size (spoolKL s p18)], spoolKR s p18, [Res.cells k7 (spoolKL D q8)], spoolKR D q8, [Res.cells (w.heap.size + 1) [.string au, .string ad]], [Res.cells (w.heap.size) (spoolKL s ps)]]) := ⟨S11.out.later hb⟩
  clear hb
  refine hK.out _ _ ⟨(S12.out.cellsM 3 rfl).c 0 _ rfl, (S12.out.cellsM 3 rfl).c 1 _ rfl, (S12.out.cellsM 8 rfl).c 0 _ rfl, (S12.out.cellsM 8 rfl).c 1 _ rfl⟩ (fun hHeld => ?_)
  clear hK K
  try simp only [Act.put, List.getElem_toArray, List.getElem_cons_succ, List.getElem_cons_zero, List.setIfInBounds_toArray, List.set_cons_zero, List.set_cons_succ]
  (refine wpAnyH_take (i := 4) (v := ?_) rfl (by kernel_rfl) (by kernel_rfl) (by kernel_rfl) (fun _ _ _ h => h) (Or.inl ⟨by rfl, ?_⟩) (by assumption) ?_; rotate_left; (intro w hSw; (try dsimp only at hSw); go_split_ands; go_simp; first | done | with_reducible rfl); rotate_left; simp only [Act.put, List.getElem_toArray, List.getElem_cons_succ, List.getElem_cons_zero, List.setIfInBounds_toArray, List.set_cons_succ, List.set_cons_zero])
  refine wpAnyH_done (by kernel_rfl) ?_ _
  have g31 := (S12.out.cellsM 3 rfl).c 0 _ rfl
  have g32 := (S12.out.cellsM 3 rfl).c 1 _ rfl
  have g33 := (S12.out.cellsM 3 rfl).lt
  go_wp2_with fail
  refine (markSpool_K 1 s p18 _ (S12.out.bring 4 rfl) HFp18.out HZs.out PN0.out).mono ?_
  rw [HN0.out]
  rintro e w24 ⟨rfl, hk⟩
  have S13 : Seal (Pt w w24 [spoolKR s p30, [Res.cells k19 (spoolKL D q20)], spoolKR D q20, [Res.cells w13.heap.size (spoolKL s p18)], [Res.cells k7 (spoolKL D q8)], spoolKR D q8, [Res.cells (w.heap.size + 1) [.string au, .string ad]], [Res.cells (w.heap.size) (spoolKL s ps)]]) := ⟨Pt.tail hk⟩
  clear hk
  clear S12 g31 g32 g33
  have g34 := (S13.out.cellsM 1 rfl).c 0 _ rfl
  have g35 := (S13.out.cellsM 1 rfl).c 1 _ rfl
  have g36 := (S13.out.cellsM 1 rfl).lt
  have g37 := (S13.out.cellsM 4 rfl).c 0 _ rfl
  have g38 := (S13.out.cellsM 4 rfl).c 1 _ rfl
  have g39 := (S13.out.cellsM 4 rfl).lt
  go_wp2_with fail
  refine (eqSpool_K D q20 q8 _ (spoolK_read HFq20.out (S13.out.nth 2 rfl)) (spoolK_read HFq8.out (S13.out.nth 5 rfl)) HZD.out).mono ?_
  rintro e w25 ⟨rfl, hb⟩
  have S14 : Seal (Pt w w25 [spoolKR s p30, [Res.cells k19 (spoolKL D q20)], spoolKR D q20, [Res.cells w13.heap.size (spoolKL s p18)], [Res.cells k7 (spoolKL D q8)], spoolKR D q8, [Res.cells (w.heap.size + 1) [.string au, .string ad]], [Res.cells (w.heap.size) (spoolKL s ps)]]) := ⟨S13.out.later hb⟩
  clear hb
  clear S13 g34 g35 g36 g37 g38 g39
  have g40 := (S14.out.cellsM 1 rfl).c 0 _ rfl
  have g41 := (S14.out.cellsM 1 rfl).c 1 _ rfl
  have g42 := (S14.out.cellsM 1 rfl).lt
  go_wp2_with fail
  refine (markSpool_K 1 D q20 _ (S14.out.bring 2 rfl) HFq20.out HZD.out PN1.out).mono ?_
  rw [HN1.out]
  rintro e w26 ⟨rfl, hk⟩
  have S15 : Seal (Pt w w26 [spoolKR (spoolKmk 1 D) q20, spoolKR s p30, [Res.cells k19 (spoolKL D q20)], [Res.cells w13.heap.size (spoolKL s p18)], [Res.cells k7 (spoolKL D q8)], spoolKR D q8, [Res.cells (w.heap.size + 1) [.string au, .string ad]], [Res.cells (w.heap.size) (spoolKL s ps)]]) := ⟨hk⟩
  clear hk
  clear S14 g40 g41 g42
  have g43 := (S15.out.cellsM 2 rfl).c 0 _ rfl
  have g44 := (S15.out.cellsM 2 rfl).c 1 _ rfl
  have g45 := (S15.out.cellsM 2 rfl).lt
  go_wp2_with fail
  refine (heldSpool_K 1 D q20 _ (spoolK_read (spoolK_mkF HFq20.out) (S15.out.nth 0 rfl)) HZD.out PN1.out).mono ?_
  rw [HN1.out]
  rintro e w27 ⟨rfl, hb⟩
  have S16 : Seal (Pt w w27 [spoolKR (spoolKmk 1 D) q20, spoolKR s p30, [Res.cells k19 (spoolKL D q20)], [Res.cells w13.heap.size (spoolKL s p18)], [Res.cells k7 (spoolKL D q8)], spoolKR D q8, [Res.cells (w.heap.size + 1) [.string au, .string ad]], [Res.cells (w.heap.size) (spoolKL s ps)]]) := ⟨S15.out.later hb⟩
  clear hb
  clear S15 g43 g44 g45
  go_upto_region 27 with fail
  go_cut [16, 17] (fun s16 s17 wx => ∃ (k46 : Nat) (q47 : SpoolP), s16 = .pointer (some ⟨k46, 0, none⟩) ∧ s17 = .bool q ∧ spoolKF D q47 ∧ Pt w wx [[Res.cells k46 (spoolKL D q47)], spoolKR D q47, spoolKR (spoolKmk 1 D) q20, spoolKR s p30, [Res.cells k19 (spoolKL D q20)], [Res.cells w13.heap.size (spoolKL s p18)], [Res.cells k7 (spoolKL D q8)], spoolKR D q8, [Res.cells (w.heap.size + 1) [.string au, .string ad]], [Res.cells (w.heap.size) (spoolKL s ps)]])
  case first =>
    refine wp_region_held_drew (S := (fun w' => w'.cell? ⟨w.heap.size, 0, none⟩ = some (.int .i64 s.last) ∧ w'.cell? ⟨w.heap.size, 1, none⟩ = some (.slice ps.a s.items.length ps.c) ∧ w'.cell? ⟨w.heap.size + 1, 0, none⟩ = some (.string au) ∧ w'.cell? ⟨w.heap.size + 1, 1, none⟩ = some (.string ad))) (by kernel_rfl) ⟨(S16.out.cellsM 7 rfl).c 0 _ rfl, (S16.out.cellsM 7 rfl).c 1 _ rfl, (S16.out.cellsM 6 rfl).c 0 _ rfl, (S16.out.cellsM 6 rfl).c 1 _ rfl⟩ (fun hHeld => ?_)
    have S17 : Seal (Pt w _ [spoolKR (spoolKmk 1 D) q20, spoolKR s p30, [Res.cells k19 (spoolKL D q20)], [Res.cells w13.heap.size (spoolKL s p18)], [Res.cells k7 (spoolKL D q8)], spoolKR D q8, [Res.cells (w.heap.size + 1) [.string au, .string ad]], [Res.cells (w.heap.size) (spoolKL s ps)]]) := ⟨S16.out.drew⟩
    (refine wpAnyH_take (i := 0) (v := ?_) rfl (by kernel_rfl) (by kernel_rfl) (by kernel_rfl) (fun _ _ _ h => h) (Or.inl ⟨by rfl, ?_⟩) (by assumption) ?_; rotate_left; (intro w hSw; (try dsimp only at hSw); go_split_ands; go_simp; first | done | with_reducible rfl); rotate_left; simp only [Act.put, List.getElem_toArray, List.getElem_cons_zero, List.setIfInBounds_toArray, List.set_cons_succ, List.set_cons_zero])
    (refine wpAnyH_take (i := 2) (v := ?_) rfl (by kernel_rfl) (by kernel_rfl) (by kernel_rfl) (fun _ _ _ h => h) (Or.inl ⟨by rfl, ?_⟩) (by assumption) ?_; rotate_left; (intro w hSw; (try dsimp only at hSw); go_split_ands; go_simp; first | done | with_reducible rfl); rotate_left; simp only [Act.put, List.getElem_toArray, List.getElem_cons_succ, List.getElem_cons_zero, List.setIfInBounds_toArray, List.set_cons_succ, List.set_cons_zero])
    (refine wpAnyH_take (i := 3) (v := ?_) rfl (by kernel_rfl) (by kernel_rfl) (by kernel_rfl) (fun _ _ _ h => h) (Or.inl ⟨by rfl, ?_⟩) (by assumption) ?_; rotate_left; (intro w hSw; (try dsimp only at hSw); go_split_ands; go_simp; first | done | with_reducible rfl); rotate_left; simp only [Act.put, List.getElem_toArray, List.getElem_cons_succ, List.getElem_cons_zero, List.setIfInBounds_toArray, List.set_cons_succ, List.set_cons_zero])
    refine wpAnyH_ready (rs := [1, 9]) (by kernel_rfl) (by simp) ?_
    refine AllReadyH.cons rfl (fun K hK => ?_) (AllReadyH.cons rfl (fun K hK => ?_) AllReadyH.nil)
    · try dsimp only at hHeld
      go_split_ands
      go_simp
      refine (toSpool_K s ps _ (spoolK_below HAs.out S17.out.below (Nat.le_refl _)) HZs.out).mono ?_
      rintro e w28 ⟨p48, rfl, hf, hk⟩
      have HFp48 : Seal _ := ⟨hf⟩
      have S18 : Seal (Pt w w28 [spoolKR s p48, spoolKR (spoolKmk 1 D) q20, spoolKR s p30, [Res.cells k19 (spoolKL D q20)], [Res.cells w13.heap.size (spoolKL s p18)], [Res.cells k7 (spoolKL D q8)], spoolKR D q8, [Res.cells (w.heap.size + 1) [.string au, .string ad]], [Res.cells (w.heap.size) (spoolKL s ps)]]) := ⟨S17.out.join hk⟩
      clear hk hf
      refine hK.out _ _ ⟨(S18.out.cellsM 8 rfl).c 0 _ rfl, (S18.out.cellsM 8 rfl).c 1 _ rfl, (S18.out.cellsM 7 rfl).c 0 _ rfl, (S18.out.cellsM 7 rfl).c 1 _ rfl⟩ (fun hHeld => ?_)
      clear hK K
      try simp only [Act.put, List.getElem_toArray, List.getElem_cons_succ, List.getElem_cons_zero, List.setIfInBounds_toArray, List.set_cons_zero, List.set_cons_succ]
      refine wpAnyH_ready (rs := [4, 9]) (by kernel_rfl) (by simp) ?_
      refine AllReadyH.cons rfl (fun K hK => ?_) (AllReadyH.cons rfl (fun K hK => ?_) AllReadyH.nil)
      · try dsimp only at hHeld
        go_split_ands
        go_simp
        refine (toAddr_any au ad _).mono ?_
        rintro e w29 ⟨rfl, hb⟩
        have S19 : Seal (Pt w w29 [spoolKR s p48, spoolKR (spoolKmk 1 D) q20, spoolKR s p30, [Res.cells k19 (spoolKL D q20)], [Res.cells w13.heap.size (spoolKL s p18)], [Res.cells k7 (spoolKL D q8)], spoolKR D q8, [Res.cells (w.heap.size + 1) [.string au, .string ad]], [Res.cells (w.heap.size) (spoolKL s ps)]]) := ⟨S18.out.later hb⟩
        clear hb
        refine hK.out _ _ ⟨(S19.out.cellsM 8 rfl).c 0 _ rfl, (S19.out.cellsM 8 rfl).c 1 _ rfl, (S19.out.cellsM 7 rfl).c 0 _ rfl, (S19.out.cellsM 7 rfl).c 1 _ rfl⟩ (fun hHeld => ?_)
        clear hK K
        try simp only [Act.put, List.getElem_toArray, List.getElem_cons_succ, List.getElem_cons_zero, List.setIfInBounds_toArray, List.set_cons_zero, List.set_cons_succ]
        refine wpAnyH_ready (rs := [5, 9]) (by kernel_rfl) (by simp) ?_
        refine AllReadyH.cons rfl (fun K hK => ?_) (AllReadyH.cons rfl (fun K hK => ?_) AllReadyH.nil)
        · try dsimp only at hHeld
          go_split_ands
          go_simp
          refine (CI.out _ _ (HM.out.below S19.out.below (Nat.le_refl _)) p48 0 S19.out rfl HFp48.out).mono ?_
          rintro e w30 ⟨q49, rfl, hfq49, hk⟩
          have HFq49 : Seal _ := ⟨hfq49⟩
          have S20 : Seal (Pt w w30 [spoolKR D q49, spoolKR s p48, spoolKR (spoolKmk 1 D) q20, spoolKR s p30, [Res.cells k19 (spoolKL D q20)], [Res.cells w13.heap.size (spoolKL s p18)], [Res.cells k7 (spoolKL D q8)], spoolKR D q8, [Res.cells (w.heap.size + 1) [.string au, .string ad]], [Res.cells (w.heap.size) (spoolKL s ps)]]) := ⟨S19.out.join hk⟩
          clear hk hfq49
          refine hK.out _ _ ⟨(S20.out.cellsM 9 rfl).c 0 _ rfl, (S20.out.cellsM 9 rfl).c 1 _ rfl, (S20.out.cellsM 8 rfl).c 0 _ rfl, (S20.out.cellsM 8 rfl).c 1 _ rfl⟩ (fun hHeld => ?_)
          clear hK K
          try simp only [Act.put, List.getElem_toArray, List.getElem_cons_succ, List.getElem_cons_zero, List.setIfInBounds_toArray, List.set_cons_zero, List.set_cons_succ]
          (refine wpAnyH_take (i := 6) (v := ?_) rfl (by kernel_rfl) (by kernel_rfl) (by kernel_rfl) (fun _ _ _ h => h) (Or.inl ⟨by rfl, ?_⟩) (by assumption) ?_; rotate_left; (intro w hSw; (try dsimp only at hSw); go_split_ands; go_simp; first | done | with_reducible rfl); rotate_left; simp only [Act.put, List.getElem_toArray, List.getElem_cons_succ, List.getElem_cons_zero, List.setIfInBounds_toArray, List.set_cons_succ, List.set_cons_zero])
          (refine wpAnyH_take (i := 7) (v := ?_) rfl (by kernel_rfl) (by kernel_rfl) (by kernel_rfl) (fun _ _ _ h => h) (Or.inl ⟨by rfl, ?_⟩) (by assumption) ?_; rotate_left; (intro w hSw; (try dsimp only at hSw); go_split_ands; go_simp; first | done | with_reducible rfl); rotate_left; simp only [Act.put, List.getElem_toArray, List.getElem_cons_succ, List.getElem_cons_zero, List.setIfInBounds_toArray, List.set_cons_succ, List.set_cons_zero])
          (refine wpAnyH_take (i := 8) (v := ?_) rfl (by kernel_rfl) (by kernel_rfl) (by kernel_rfl) (fun _ _ _ h => h) (Or.inl ⟨by rfl, ?_⟩) (by assumption) ?_; rotate_left; (intro w hSw; (try dsimp only at hSw); go_split_ands; go_simp; first | done | with_reducible rfl); rotate_left; simp only [Act.put, List.getElem_toArray, List.getElem_cons_succ, List.getElem_cons_zero, List.setIfInBounds_toArray, List.set_cons_succ, List.set_cons_zero])
          refine wpAnyH_ready (rs := [9]) (by kernel_rfl) (by simp) ?_
          refine AllReadyH.cons rfl (fun K hK => ?_) AllReadyH.nil
          have S21 : Seal (Pt w (w30.alloc (.cells #[.int .i64 0, .slice none 0 0] 25)) [[Res.cells w30.heap.size ((#[.int .i64 0, .slice none 0 0] : Array Value).toList)], spoolKR D q49, spoolKR s p48, spoolKR (spoolKmk 1 D) q20, spoolKR s p30, [Res.cells k19 (spoolKL D q20)], [Res.cells w13.heap.size (spoolKL s p18)], [Res.cells k7 (spoolKL D q8)], spoolKR D q8, [Res.cells (w.heap.size + 1) [.string au, .string ad]], [Res.cells (w.heap.size) (spoolKL s ps)]]) := ⟨S20.out.alloc #[.int .i64 0, .slice none 0 0] 25⟩
          go_simp
          refine hK.out _ _ ⟨(S21.out.cellsM 10 rfl).c 0 _ rfl, (S21.out.cellsM 10 rfl).c 1 _ rfl, (S21.out.cellsM 9 rfl).c 0 _ rfl, (S21.out.cellsM 9 rfl).c 1 _ rfl⟩ (fun hHeld => ?_)
          clear hK K
          try simp only [Act.put, List.getElem_toArray, List.getElem_cons_succ, List.getElem_cons_zero, List.setIfInBounds_toArray, List.set_cons_zero, List.set_cons_succ]
          refine wpAnyH_ready (rs := [10]) (by kernel_rfl) (by simp) ?_
          refine AllReadyH.cons rfl (fun K hK => ?_) AllReadyH.nil
          have oc0 := (S21.out.cellsM 0 rfl).c 0 _ rfl
          have of0 := (S21.out.cellsM 0 rfl).f 0 (by simp)
          have oc1 := (S21.out.cellsM 0 rfl).c 1 _ rfl
          have of1 := (S21.out.cellsM 0 rfl).f 1 (by simp)
          have SB22 : Seal (Pt w (((w30.alloc (.cells #[.int .i64 0, .slice none 0 0] 25)).setCell ⟨w30.heap.size, 0, none⟩ (.int .i64 D.last)).setCell ⟨w30.heap.size, 1, none⟩ (.slice q49.a D.items.length q49.c)) [[Res.cells w30.heap.size (spoolKL D q49)], spoolKR D q49, spoolKR s p48, spoolKR (spoolKmk 1 D) q20, spoolKR s p30, [Res.cells k19 (spoolKL D q20)], [Res.cells w13.heap.size (spoolKL s p18)], [Res.cells k7 (spoolKL D q8)], spoolKR D q8, [Res.cells (w.heap.size + 1) [.string au, .string ad]], [Res.cells (w.heap.size) (spoolKL s ps)]]) := ⟨((S21.out).set 0 (.int .i64 D.last) (by simp)).set 1 (.slice q49.a D.items.length q49.c) (by simp)⟩
          have SA22 : Seal (Pt w (w30.alloc (.cells (spoolKV D q49) 25)) [[Res.cells w30.heap.size (spoolKL D q49)], spoolKR D q49, spoolKR s p48, spoolKR (spoolKmk 1 D) q20, spoolKR s p30, [Res.cells k19 (spoolKL D q20)], [Res.cells w13.heap.size (spoolKL s p18)], [Res.cells k7 (spoolKL D q8)], spoolKR D q8, [Res.cells (w.heap.size + 1) [.string au, .string ad]], [Res.cells (w.heap.size) (spoolKL s ps)]]) := ⟨S20.out.alloc (spoolKV D q49) 25⟩
          go_simp
          refine hK.out _ _ (by first | exact ⟨(SA22.out.cellsM 10 rfl).c 0 _ rfl, (SA22.out.cellsM 10 rfl).c 1 _ rfl, (SA22.out.cellsM 9 rfl).c 0 _ rfl, (SA22.out.cellsM 9 rfl).c 1 _ rfl⟩ | exact ⟨(SB22.out.cellsM 10 rfl).c 0 _ rfl, (SB22.out.cellsM 10 rfl).c 1 _ rfl, (SB22.out.cellsM 9 rfl).c 0 _ rfl, (SB22.out.cellsM 9 rfl).c 1 _ rfl⟩) (fun hHeld => ?_)
          clear hK K
          try simp only [Act.put, List.getElem_toArray, List.getElem_cons_succ, List.getElem_cons_zero, List.setIfInBounds_toArray, List.set_cons_zero, List.set_cons_succ]
          clear oc0 of0 oc1 of1
          refine wpAnyH_ready (rs := [11]) (by kernel_rfl) (by simp) ?_
          refine AllReadyH.cons rfl (fun K hK => ?_) AllReadyH.nil
          go_simp
          refine hK.out _ _ (by assumption) (fun hHeld => ?_)
          clear hK K
          try simp only [Act.put, List.getElem_toArray, List.getElem_cons_succ, List.getElem_cons_zero, List.setIfInBounds_toArray, List.set_cons_zero, List.set_cons_succ]
          refine wpAnyH_done (by kernel_rfl) ?_ _
          go_wp2_with fail
          go_meet
          exact ⟨w30.heap.size, q49, rfl, rfl, HFq49.out, by first | exact (Pt.prefix (As := [[Res.cells w30.heap.size (spoolKL D q49)], spoolKR D q49, spoolKR (spoolKmk 1 D) q20, spoolKR s p30, [Res.cells k19 (spoolKL D q20)], [Res.cells w13.heap.size (spoolKL s p18)], [Res.cells k7 (spoolKL D q8)], spoolKR D q8, [Res.cells (w.heap.size + 1) [.string au, .string ad]], [Res.cells (w.heap.size) (spoolKL s ps)]]) (Bs := [spoolKR s p48]) (Pt.bring ((Pt.bring ((Pt.bring ((Pt.bring ((Pt.bring ((Pt.bring ((Pt.bring ((Pt.bring ((Pt.bring ((Pt.bring (SA22.out) 10 rfl)) 10 rfl)) 10 rfl)) 10 rfl)) 10 rfl)) 10 rfl)) 10 rfl)) 10 rfl)) 9 rfl)) 9 rfl)) | exact (Pt.prefix (As := [[Res.cells w30.heap.size (spoolKL D q49)], spoolKR D q49, spoolKR (spoolKmk 1 D) q20, spoolKR s p30, [Res.cells k19 (spoolKL D q20)], [Res.cells w13.heap.size (spoolKL s p18)], [Res.cells k7 (spoolKL D q8)], spoolKR D q8, [Res.cells (w.heap.size + 1) [.string au, .string ad]], [Res.cells (w.heap.size) (spoolKL s ps)]]) (Bs := [spoolKR s p48]) (Pt.bring ((Pt.bring ((Pt.bring ((Pt.bring ((Pt.bring ((Pt.bring ((Pt.bring ((Pt.bring ((Pt.bring ((Pt.bring (SB22.out) 10 rfl)) 10 rfl)) 10 rfl)) 10 rfl)) 10 rfl)) 10 rfl)) 10 rfl)) 10 rfl)) 9 rfl)) 9 rfl))⟩
        · have S20 : Seal (Pt w (w29.alloc (.cells #[.int .i64 0, .slice none 0 0] 25)) [[Res.cells w29.heap.size ((#[.int .i64 0, .slice none 0 0] : Array Value).toList)], spoolKR s p48, spoolKR (spoolKmk 1 D) q20, spoolKR s p30, [Res.cells k19 (spoolKL D q20)], [Res.cells w13.heap.size (spoolKL s p18)], [Res.cells k7 (spoolKL D q8)], spoolKR D q8, [Res.cells (w.heap.size + 1) [.string au, .string ad]], [Res.cells (w.heap.size) (spoolKL s ps)]]) := ⟨S19.out.alloc #[.int .i64 0, .slice none 0 0] 25⟩
          go_simp
          refine hK.out _ _ ⟨(S20.out.cellsM 9 rfl).c 0 _ rfl, (S20.out.cellsM 9 rfl).c 1 _ rfl, (S20.out.cellsM 8 rfl).c 0 _ rfl, (S20.out.cellsM 8 rfl).c 1 _ rfl⟩ (fun hHeld => ?_)
          clear hK K
          try simp only [Act.put, List.getElem_toArray, List.getElem_cons_succ, List.getElem_cons_zero, List.setIfInBounds_toArray, List.set_cons_zero, List.set_cons_succ]
          refine wpAnyH_ready (rs := [5]) (by kernel_rfl) (by simp) ?_
          refine AllReadyH.cons rfl (fun K hK => ?_) AllReadyH.nil
          try dsimp only at hHeld
          go_split_ands
          go_simp
          refine (CI.out _ _ (HM.out.below S20.out.below (Nat.le_refl _)) p48 1 S20.out rfl HFp48.out).mono ?_
          rintro e w31 ⟨q50, rfl, hfq50, hk⟩
          have HFq50 : Seal _ := ⟨hfq50⟩
          have S21 : Seal (Pt w w31 [spoolKR D q50, [Res.cells w29.heap.size ((#[.int .i64 0, .slice none 0 0] : Array Value).toList)], spoolKR s p48, spoolKR (spoolKmk 1 D) q20, spoolKR s p30, [Res.cells k19 (spoolKL D q20)], [Res.cells w13.heap.size (spoolKL s p18)], [Res.cells k7 (spoolKL D q8)], spoolKR D q8, [Res.cells (w.heap.size + 1) [.string au, .string ad]], [Res.cells (w.heap.size) (spoolKL s ps)]]) := ⟨S20.out.join hk⟩
          clear hk hfq50
          refine hK.out _ _ ⟨(S21.out.cellsM 10 rfl).c 0 _ rfl, (S21.out.cellsM 10 rfl).c 1 _ rfl, (S21.out.cellsM 9 rfl).c 0 _ rfl, (S21.out.cellsM 9 rfl).c 1 _ rfl⟩ (fun hHeld => ?_)
          clear hK K
          try simp only [Act.put, List.getElem_toArray, List.getElem_cons_succ, List.getElem_cons_zero, List.setIfInBounds_toArray, List.set_cons_zero, List.set_cons_succ]
          (refine wpAnyH_take (i := 6) (v := ?_) rfl (by kernel_rfl) (by kernel_rfl) (by kernel_rfl) (fun _ _ _ h => h) (Or.inl ⟨by rfl, ?_⟩) (by assumption) ?_; rotate_left; (intro w hSw; (try dsimp only at hSw); go_split_ands; go_simp; first | done | with_reducible rfl); rotate_left; simp only [Act.put, List.getElem_toArray, List.getElem_cons_succ, List.getElem_cons_zero, List.setIfInBounds_toArray, List.set_cons_succ, List.set_cons_zero])
          (refine wpAnyH_take (i := 7) (v := ?_) rfl (by kernel_rfl) (by kernel_rfl) (by kernel_rfl) (fun _ _ _ h => h) (Or.inl ⟨by rfl, ?_⟩) (by assumption) ?_; rotate_left; (intro w hSw; (try dsimp only at hSw); go_split_ands; go_simp; first | done | with_reducible rfl); rotate_left; simp only [Act.put, List.getElem_toArray, List.getElem_cons_succ, List.getElem_cons_zero, List.setIfInBounds_toArray, List.set_cons_succ, List.set_cons_zero])
          (refine wpAnyH_take (i := 8) (v := ?_) rfl (by kernel_rfl) (by kernel_rfl) (by kernel_rfl) (fun _ _ _ h => h) (Or.inl ⟨by rfl, ?_⟩) (by assumption) ?_; rotate_left; (intro w hSw; (try dsimp only at hSw); go_split_ands; go_simp; first | done | with_reducible rfl); rotate_left; simp only [Act.put, List.getElem_toArray, List.getElem_cons_succ, List.getElem_cons_zero, List.setIfInBounds_toArray, List.set_cons_succ, List.set_cons_zero])
          refine wpAnyH_ready (rs := [10]) (by kernel_rfl) (by simp) ?_
          refine AllReadyH.cons rfl (fun K hK => ?_) AllReadyH.nil
          have S22 : Seal (Pt w w31 [[Res.cells w29.heap.size ((#[.int .i64 0, .slice none 0 0] : Array Value).toList)], spoolKR D q50, spoolKR s p48, spoolKR (spoolKmk 1 D) q20, spoolKR s p30, [Res.cells k19 (spoolKL D q20)], [Res.cells w13.heap.size (spoolKL s p18)], [Res.cells k7 (spoolKL D q8)], spoolKR D q8, [Res.cells (w.heap.size + 1) [.string au, .string ad]], [Res.cells (w.heap.size) (spoolKL s ps)]]) := ⟨S21.out.bring 1 rfl⟩
          have oc0 := (S22.out.cellsM 0 rfl).c 0 _ rfl
          have of0 := (S22.out.cellsM 0 rfl).f 0 (by simp)
          have oc1 := (S22.out.cellsM 0 rfl).c 1 _ rfl
          have of1 := (S22.out.cellsM 0 rfl).f 1 (by simp)
          have S23 : Seal (Pt w ((w31.setCell ⟨w29.heap.size, 0, none⟩ (.int .i64 D.last)).setCell ⟨w29.heap.size, 1, none⟩ (.slice q50.a D.items.length q50.c)) [[Res.cells w29.heap.size (spoolKL D q50)], spoolKR D q50, spoolKR s p48, spoolKR (spoolKmk 1 D) q20, spoolKR s p30, [Res.cells k19 (spoolKL D q20)], [Res.cells w13.heap.size (spoolKL s p18)], [Res.cells k7 (spoolKL D q8)], spoolKR D q8, [Res.cells (w.heap.size + 1) [.string au, .string ad]], [Res.cells (w.heap.size) (spoolKL s ps)]]) := ⟨((S22.out).set 0 (.int .i64 D.last) (by simp)).set 1 (.slice q50.a D.items.length q50.c) (by simp)⟩
          go_simp
          refine hK.out _ _ ⟨(S23.out.cellsM 10 rfl).c 0 _ rfl, (S23.out.cellsM 10 rfl).c 1 _ rfl, (S23.out.cellsM 9 rfl).c 0 _ rfl, (S23.out.cellsM 9 rfl).c 1 _ rfl⟩ (fun hHeld => ?_)
          clear hK K
          try simp only [Act.put, List.getElem_toArray, List.getElem_cons_succ, List.getElem_cons_zero, List.setIfInBounds_toArray, List.set_cons_zero, List.set_cons_succ]
          clear oc0 of0 oc1 of1
          refine wpAnyH_ready (rs := [11]) (by kernel_rfl) (by simp) ?_
          refine AllReadyH.cons rfl (fun K hK => ?_) AllReadyH.nil
          go_simp
          refine hK.out _ _ (by assumption) (fun hHeld => ?_)
          clear hK K
          try simp only [Act.put, List.getElem_toArray, List.getElem_cons_succ, List.getElem_cons_zero, List.setIfInBounds_toArray, List.set_cons_zero, List.set_cons_succ]
          refine wpAnyH_done (by kernel_rfl) ?_ _
          go_wp2_with fail
          go_meet
          exact ⟨w29.heap.size, q50, rfl, rfl, HFq50.out, by first | exact (Pt.prefix (As := [[Res.cells w29.heap.size (spoolKL D q50)], spoolKR D q50, spoolKR (spoolKmk 1 D) q20, spoolKR s p30, [Res.cells k19 (spoolKL D q20)], [Res.cells w13.heap.size (spoolKL s p18)], [Res.cells k7 (spoolKL D q8)], spoolKR D q8, [Res.cells (w.heap.size + 1) [.string au, .string ad]], [Res.cells (w.heap.size) (spoolKL s ps)]]) (Bs := [spoolKR s p48]) (Pt.bring ((Pt.bring ((Pt.bring ((Pt.bring ((Pt.bring ((Pt.bring ((Pt.bring ((Pt.bring ((Pt.bring ((Pt.bring (S23.out) 10 rfl)) 10 rfl)) 10 rfl)) 10 rfl)) 10 rfl)) 10 rfl)) 10 rfl)) 10 rfl)) 9 rfl)) 9 rfl))⟩
      · have S19 : Seal (Pt w (w28.alloc (.cells #[.int .i64 0, .slice none 0 0] 25)) [[Res.cells w28.heap.size ((#[.int .i64 0, .slice none 0 0] : Array Value).toList)], spoolKR s p48, spoolKR (spoolKmk 1 D) q20, spoolKR s p30, [Res.cells k19 (spoolKL D q20)], [Res.cells w13.heap.size (spoolKL s p18)], [Res.cells k7 (spoolKL D q8)], spoolKR D q8, [Res.cells (w.heap.size + 1) [.string au, .string ad]], [Res.cells (w.heap.size) (spoolKL s ps)]]) := ⟨S18.out.alloc #[.int .i64 0, .slice none 0 0] 25⟩
        go_simp
        refine hK.out _ _ ⟨(S19.out.cellsM 9 rfl).c 0 _ rfl, (S19.out.cellsM 9 rfl).c 1 _ rfl, (S19.out.cellsM 8 rfl).c 0 _ rfl, (S19.out.cellsM 8 rfl).c 1 _ rfl⟩ (fun hHeld => ?_)
        clear hK K
        try simp only [Act.put, List.getElem_toArray, List.getElem_cons_succ, List.getElem_cons_zero, List.setIfInBounds_toArray, List.set_cons_zero, List.set_cons_succ]
        refine wpAnyH_ready (rs := [4]) (by kernel_rfl) (by simp) ?_
        refine AllReadyH.cons rfl (fun K hK => ?_) AllReadyH.nil
        try dsimp only at hHeld
        go_split_ands
        go_simp
        refine (toAddr_any au ad _).mono ?_
        rintro e w32 ⟨rfl, hb⟩
        have S20 : Seal (Pt w w32 [[Res.cells w28.heap.size ((#[.int .i64 0, .slice none 0 0] : Array Value).toList)], spoolKR s p48, spoolKR (spoolKmk 1 D) q20, spoolKR s p30, [Res.cells k19 (spoolKL D q20)], [Res.cells w13.heap.size (spoolKL s p18)], [Res.cells k7 (spoolKL D q8)], spoolKR D q8, [Res.cells (w.heap.size + 1) [.string au, .string ad]], [Res.cells (w.heap.size) (spoolKL s ps)]]) := ⟨S19.out.later hb⟩
        clear hb
        refine hK.out _ _ ⟨(S20.out.cellsM 9 rfl).c 0 _ rfl, (S20.out.cellsM 9 rfl).c 1 _ rfl, (S20.out.cellsM 8 rfl).c 0 _ rfl, (S20.out.cellsM 8 rfl).c 1 _ rfl⟩ (fun hHeld => ?_)
        clear hK K
        try simp only [Act.put, List.getElem_toArray, List.getElem_cons_succ, List.getElem_cons_zero, List.setIfInBounds_toArray, List.set_cons_zero, List.set_cons_succ]
        refine wpAnyH_ready (rs := [5]) (by kernel_rfl) (by simp) ?_
        refine AllReadyH.cons rfl (fun K hK => ?_) AllReadyH.nil
        try dsimp only at hHeld
        go_split_ands
        go_simp
        refine (CI.out _ _ (HM.out.below S20.out.below (Nat.le_refl _)) p48 1 S20.out rfl HFp48.out).mono ?_
        rintro e w33 ⟨q51, rfl, hfq51, hk⟩
        have HFq51 : Seal _ := ⟨hfq51⟩
        have S21 : Seal (Pt w w33 [spoolKR D q51, [Res.cells w28.heap.size ((#[.int .i64 0, .slice none 0 0] : Array Value).toList)], spoolKR s p48, spoolKR (spoolKmk 1 D) q20, spoolKR s p30, [Res.cells k19 (spoolKL D q20)], [Res.cells w13.heap.size (spoolKL s p18)], [Res.cells k7 (spoolKL D q8)], spoolKR D q8, [Res.cells (w.heap.size + 1) [.string au, .string ad]], [Res.cells (w.heap.size) (spoolKL s ps)]]) := ⟨S20.out.join hk⟩
        clear hk hfq51
        refine hK.out _ _ ⟨(S21.out.cellsM 10 rfl).c 0 _ rfl, (S21.out.cellsM 10 rfl).c 1 _ rfl, (S21.out.cellsM 9 rfl).c 0 _ rfl, (S21.out.cellsM 9 rfl).c 1 _ rfl⟩ (fun hHeld => ?_)
        clear hK K
        try simp only [Act.put, List.getElem_toArray, List.getElem_cons_succ, List.getElem_cons_zero, List.setIfInBounds_toArray, List.set_cons_zero, List.set_cons_succ]
        (refine wpAnyH_take (i := 6) (v := ?_) rfl (by kernel_rfl) (by kernel_rfl) (by kernel_rfl) (fun _ _ _ h => h) (Or.inl ⟨by rfl, ?_⟩) (by assumption) ?_; rotate_left; (intro w hSw; (try dsimp only at hSw); go_split_ands; go_simp; first | done | with_reducible rfl); rotate_left; simp only [Act.put, List.getElem_toArray, List.getElem_cons_succ, List.getElem_cons_zero, List.setIfInBounds_toArray, List.set_cons_succ, List.set_cons_zero])
        (refine wpAnyH_take (i := 7) (v := ?_) rfl (by kernel_rfl) (by kernel_rfl) (by kernel_rfl) (fun _ _ _ h => h) (Or.inl ⟨by rfl, ?_⟩) (by assumption) ?_; rotate_left; (intro w hSw; (try dsimp only at hSw); go_split_ands; go_simp; first | done | with_reducible rfl); rotate_left; simp only [Act.put, List.getElem_toArray, List.getElem_cons_succ, List.getElem_cons_zero, List.setIfInBounds_toArray, List.set_cons_succ, List.set_cons_zero])
        (refine wpAnyH_take (i := 8) (v := ?_) rfl (by kernel_rfl) (by kernel_rfl) (by kernel_rfl) (fun _ _ _ h => h) (Or.inl ⟨by rfl, ?_⟩) (by assumption) ?_; rotate_left; (intro w hSw; (try dsimp only at hSw); go_split_ands; go_simp; first | done | with_reducible rfl); rotate_left; simp only [Act.put, List.getElem_toArray, List.getElem_cons_succ, List.getElem_cons_zero, List.setIfInBounds_toArray, List.set_cons_succ, List.set_cons_zero])
        refine wpAnyH_ready (rs := [10]) (by kernel_rfl) (by simp) ?_
        refine AllReadyH.cons rfl (fun K hK => ?_) AllReadyH.nil
        have S22 : Seal (Pt w w33 [[Res.cells w28.heap.size ((#[.int .i64 0, .slice none 0 0] : Array Value).toList)], spoolKR D q51, spoolKR s p48, spoolKR (spoolKmk 1 D) q20, spoolKR s p30, [Res.cells k19 (spoolKL D q20)], [Res.cells w13.heap.size (spoolKL s p18)], [Res.cells k7 (spoolKL D q8)], spoolKR D q8, [Res.cells (w.heap.size + 1) [.string au, .string ad]], [Res.cells (w.heap.size) (spoolKL s ps)]]) := ⟨S21.out.bring 1 rfl⟩
        have oc0 := (S22.out.cellsM 0 rfl).c 0 _ rfl
        have of0 := (S22.out.cellsM 0 rfl).f 0 (by simp)
        have oc1 := (S22.out.cellsM 0 rfl).c 1 _ rfl
        have of1 := (S22.out.cellsM 0 rfl).f 1 (by simp)
        have S23 : Seal (Pt w ((w33.setCell ⟨w28.heap.size, 0, none⟩ (.int .i64 D.last)).setCell ⟨w28.heap.size, 1, none⟩ (.slice q51.a D.items.length q51.c)) [[Res.cells w28.heap.size (spoolKL D q51)], spoolKR D q51, spoolKR s p48, spoolKR (spoolKmk 1 D) q20, spoolKR s p30, [Res.cells k19 (spoolKL D q20)], [Res.cells w13.heap.size (spoolKL s p18)], [Res.cells k7 (spoolKL D q8)], spoolKR D q8, [Res.cells (w.heap.size + 1) [.string au, .string ad]], [Res.cells (w.heap.size) (spoolKL s ps)]]) := ⟨((S22.out).set 0 (.int .i64 D.last) (by simp)).set 1 (.slice q51.a D.items.length q51.c) (by simp)⟩
        go_simp
        refine hK.out _ _ ⟨(S23.out.cellsM 10 rfl).c 0 _ rfl, (S23.out.cellsM 10 rfl).c 1 _ rfl, (S23.out.cellsM 9 rfl).c 0 _ rfl, (S23.out.cellsM 9 rfl).c 1 _ rfl⟩ (fun hHeld => ?_)
        clear hK K
        try simp only [Act.put, List.getElem_toArray, List.getElem_cons_succ, List.getElem_cons_zero, List.setIfInBounds_toArray, List.set_cons_zero, List.set_cons_succ]
        clear oc0 of0 oc1 of1
        refine wpAnyH_ready (rs := [11]) (by kernel_rfl) (by simp) ?_
        refine AllReadyH.cons rfl (fun K hK => ?_) AllReadyH.nil
        go_simp
        refine hK.out _ _ (by assumption) (fun hHeld => ?_)
        clear hK K
        try simp only [Act.put, List.getElem_toArray, List.getElem_cons_succ, List.getElem_cons_zero, List.setIfInBounds_toArray, List.set_cons_zero, List.set_cons_succ]
        refine wpAnyH_done (by kernel_rfl) ?_ _
        go_wp2_with fail
        go_meet
        exact ⟨w28.heap.size, q51, rfl, rfl, HFq51.out, by first | exact (Pt.prefix (As := [[Res.cells w28.heap.size (spoolKL D q51)], spoolKR D q51, spoolKR (spoolKmk 1 D) q20, spoolKR s p30, [Res.cells k19 (spoolKL D q20)], [Res.cells w13.heap.size (spoolKL s p18)], [Res.cells k7 (spoolKL D q8)], spoolKR D q8, [Res.cells (w.heap.size + 1) [.string au, .string ad]], [Res.cells (w.heap.size) (spoolKL s ps)]]) (Bs := [spoolKR s p48]) (Pt.bring ((Pt.bring ((Pt.bring ((Pt.bring ((Pt.bring ((Pt.bring ((Pt.bring ((Pt.bring ((Pt.bring ((Pt.bring (S23.out) 10 rfl)) 10 rfl)) 10 rfl)) 10 rfl)) 10 rfl)) 10 rfl)) 10 rfl)) 10 rfl)) 9 rfl)) 9 rfl))⟩
    · have S18 : Seal (Pt w (w27.drew.alloc (.cells #[.int .i64 0, .slice none 0 0] 25)) [[Res.cells w27.heap.size ((#[.int .i64 0, .slice none 0 0] : Array Value).toList)], spoolKR (spoolKmk 1 D) q20, spoolKR s p30, [Res.cells k19 (spoolKL D q20)], [Res.cells w13.heap.size (spoolKL s p18)], [Res.cells k7 (spoolKL D q8)], spoolKR D q8, [Res.cells (w.heap.size + 1) [.string au, .string ad]], [Res.cells (w.heap.size) (spoolKL s ps)]]) := ⟨S17.out.alloc #[.int .i64 0, .slice none 0 0] 25⟩
      go_simp
      refine hK.out _ _ ⟨(S18.out.cellsM 8 rfl).c 0 _ rfl, (S18.out.cellsM 8 rfl).c 1 _ rfl, (S18.out.cellsM 7 rfl).c 0 _ rfl, (S18.out.cellsM 7 rfl).c 1 _ rfl⟩ (fun hHeld => ?_)
      clear hK K
      try simp only [Act.put, List.getElem_toArray, List.getElem_cons_succ, List.getElem_cons_zero, List.setIfInBounds_toArray, List.set_cons_zero, List.set_cons_succ]
      refine wpAnyH_ready (rs := [1]) (by kernel_rfl) (by simp) ?_
      refine AllReadyH.cons rfl (fun K hK => ?_) AllReadyH.nil
      try dsimp only at hHeld
      go_split_ands
      go_simp
      refine (toSpool_K s ps _ (spoolK_below HAs.out S18.out.below (Nat.le_refl _)) HZs.out).mono ?_
      rintro e w34 ⟨p52, rfl, hf, hk⟩
      have HFp52 : Seal _ := ⟨hf⟩
      have S19 : Seal (Pt w w34 [spoolKR s p52, [Res.cells w27.heap.size ((#[.int .i64 0, .slice none 0 0] : Array Value).toList)], spoolKR (spoolKmk 1 D) q20, spoolKR s p30, [Res.cells k19 (spoolKL D q20)], [Res.cells w13.heap.size (spoolKL s p18)], [Res.cells k7 (spoolKL D q8)], spoolKR D q8, [Res.cells (w.heap.size + 1) [.string au, .string ad]], [Res.cells (w.heap.size) (spoolKL s ps)]]) := ⟨S18.out.join hk⟩
      clear hk hf
      refine hK.out _ _ ⟨(S19.out.cellsM 9 rfl).c 0 _ rfl, (S19.out.cellsM 9 rfl).c 1 _ rfl, (S19.out.cellsM 8 rfl).c 0 _ rfl, (S19.out.cellsM 8 rfl).c 1 _ rfl⟩ (fun hHeld => ?_)
      clear hK K
      try simp only [Act.put, List.getElem_toArray, List.getElem_cons_succ, List.getElem_cons_zero, List.setIfInBounds_toArray, List.set_cons_zero, List.set_cons_succ]
      refine wpAnyH_ready (rs := [4]) (by kernel_rfl) (by simp) ?_
      refine AllReadyH.cons rfl (fun K hK => ?_) AllReadyH.nil
      try dsimp only at hHeld
      go_split_ands
      go_simp
      refine (toAddr_any au ad _).mono ?_
      rintro e w35 ⟨rfl, hb⟩
      have S20 : Seal (Pt w w35 [spoolKR s p52, [Res.cells w27.heap.size ((#[.int .i64 0, .slice none 0 0] : Array Value).toList)], spoolKR (spoolKmk 1 D) q20, spoolKR s p30, [Res.cells k19 (spoolKL D q20)], [Res.cells w13.heap.size (spoolKL s p18)], [Res.cells k7 (spoolKL D q8)], spoolKR D q8, [Res.cells (w.heap.size + 1) [.string au, .string ad]], [Res.cells (w.heap.size) (spoolKL s ps)]]) := ⟨S19.out.later hb⟩
      clear hb
      refine hK.out _ _ ⟨(S20.out.cellsM 9 rfl).c 0 _ rfl, (S20.out.cellsM 9 rfl).c 1 _ rfl, (S20.out.cellsM 8 rfl).c 0 _ rfl, (S20.out.cellsM 8 rfl).c 1 _ rfl⟩ (fun hHeld => ?_)
      clear hK K
      try simp only [Act.put, List.getElem_toArray, List.getElem_cons_succ, List.getElem_cons_zero, List.setIfInBounds_toArray, List.set_cons_zero, List.set_cons_succ]
      refine wpAnyH_ready (rs := [5]) (by kernel_rfl) (by simp) ?_
      refine AllReadyH.cons rfl (fun K hK => ?_) AllReadyH.nil
      try dsimp only at hHeld
      go_split_ands
      go_simp
      refine (CI.out _ _ (HM.out.below S20.out.below (Nat.le_refl _)) p52 0 S20.out rfl HFp52.out).mono ?_
      rintro e w36 ⟨q53, rfl, hfq53, hk⟩
      have HFq53 : Seal _ := ⟨hfq53⟩
      have S21 : Seal (Pt w w36 [spoolKR D q53, spoolKR s p52, [Res.cells w27.heap.size ((#[.int .i64 0, .slice none 0 0] : Array Value).toList)], spoolKR (spoolKmk 1 D) q20, spoolKR s p30, [Res.cells k19 (spoolKL D q20)], [Res.cells w13.heap.size (spoolKL s p18)], [Res.cells k7 (spoolKL D q8)], spoolKR D q8, [Res.cells (w.heap.size + 1) [.string au, .string ad]], [Res.cells (w.heap.size) (spoolKL s ps)]]) := ⟨S20.out.join hk⟩
      clear hk hfq53
      refine hK.out _ _ ⟨(S21.out.cellsM 10 rfl).c 0 _ rfl, (S21.out.cellsM 10 rfl).c 1 _ rfl, (S21.out.cellsM 9 rfl).c 0 _ rfl, (S21.out.cellsM 9 rfl).c 1 _ rfl⟩ (fun hHeld => ?_)
      clear hK K
      try simp only [Act.put, List.getElem_toArray, List.getElem_cons_succ, List.getElem_cons_zero, List.setIfInBounds_toArray, List.set_cons_zero, List.set_cons_succ]
      (refine wpAnyH_take (i := 6) (v := ?_) rfl (by kernel_rfl) (by kernel_rfl) (by kernel_rfl) (fun _ _ _ h => h) (Or.inl ⟨by rfl, ?_⟩) (by assumption) ?_; rotate_left; (intro w hSw; (try dsimp only at hSw); go_split_ands; go_simp; first | done | with_reducible rfl); rotate_left; simp only [Act.put, List.getElem_toArray, List.getElem_cons_succ, List.getElem_cons_zero, List.setIfInBounds_toArray, List.set_cons_succ, List.set_cons_zero])
      (refine wpAnyH_take (i := 7) (v := ?_) rfl (by kernel_rfl) (by kernel_rfl) (by kernel_rfl) (fun _ _ _ h => h) (Or.inl ⟨by rfl, ?_⟩) (by assumption) ?_; rotate_left; (intro w hSw; (try dsimp only at hSw); go_split_ands; go_simp; first | done | with_reducible rfl); rotate_left; simp only [Act.put, List.getElem_toArray, List.getElem_cons_succ, List.getElem_cons_zero, List.setIfInBounds_toArray, List.set_cons_succ, List.set_cons_zero])
      (refine wpAnyH_take (i := 8) (v := ?_) rfl (by kernel_rfl) (by kernel_rfl) (by kernel_rfl) (fun _ _ _ h => h) (Or.inl ⟨by rfl, ?_⟩) (by assumption) ?_; rotate_left; (intro w hSw; (try dsimp only at hSw); go_split_ands; go_simp; first | done | with_reducible rfl); rotate_left; simp only [Act.put, List.getElem_toArray, List.getElem_cons_succ, List.getElem_cons_zero, List.setIfInBounds_toArray, List.set_cons_succ, List.set_cons_zero])
      refine wpAnyH_ready (rs := [10]) (by kernel_rfl) (by simp) ?_
      refine AllReadyH.cons rfl (fun K hK => ?_) AllReadyH.nil
      have S22 : Seal (Pt w w36 [[Res.cells w27.heap.size ((#[.int .i64 0, .slice none 0 0] : Array Value).toList)], spoolKR D q53, spoolKR s p52, spoolKR (spoolKmk 1 D) q20, spoolKR s p30, [Res.cells k19 (spoolKL D q20)], [Res.cells w13.heap.size (spoolKL s p18)], [Res.cells k7 (spoolKL D q8)], spoolKR D q8, [Res.cells (w.heap.size + 1) [.string au, .string ad]], [Res.cells (w.heap.size) (spoolKL s ps)]]) := ⟨S21.out.bring 2 rfl⟩
      have oc0 := (S22.out.cellsM 0 rfl).c 0 _ rfl
      have of0 := (S22.out.cellsM 0 rfl).f 0 (by simp)
      have oc1 := (S22.out.cellsM 0 rfl).c 1 _ rfl
      have of1 := (S22.out.cellsM 0 rfl).f 1 (by simp)
      have S23 : Seal (Pt w ((w36.setCell ⟨w27.heap.size, 0, none⟩ (.int .i64 D.last)).setCell ⟨w27.heap.size, 1, none⟩ (.slice q53.a D.items.length q53.c)) [[Res.cells w27.heap.size (spoolKL D q53)], spoolKR D q53, spoolKR s p52, spoolKR (spoolKmk 1 D) q20, spoolKR s p30, [Res.cells k19 (spoolKL D q20)], [Res.cells w13.heap.size (spoolKL s p18)], [Res.cells k7 (spoolKL D q8)], spoolKR D q8, [Res.cells (w.heap.size + 1) [.string au, .string ad]], [Res.cells (w.heap.size) (spoolKL s ps)]]) := ⟨((S22.out).set 0 (.int .i64 D.last) (by simp)).set 1 (.slice q53.a D.items.length q53.c) (by simp)⟩
      go_simp
      refine hK.out _ _ ⟨(S23.out.cellsM 10 rfl).c 0 _ rfl, (S23.out.cellsM 10 rfl).c 1 _ rfl, (S23.out.cellsM 9 rfl).c 0 _ rfl, (S23.out.cellsM 9 rfl).c 1 _ rfl⟩ (fun hHeld => ?_)
      clear hK K
      try simp only [Act.put, List.getElem_toArray, List.getElem_cons_succ, List.getElem_cons_zero, List.setIfInBounds_toArray, List.set_cons_zero, List.set_cons_succ]
      clear oc0 of0 oc1 of1
      refine wpAnyH_ready (rs := [11]) (by kernel_rfl) (by simp) ?_
      refine AllReadyH.cons rfl (fun K hK => ?_) AllReadyH.nil
      go_simp
      refine hK.out _ _ (by assumption) (fun hHeld => ?_)
      clear hK K
      try simp only [Act.put, List.getElem_toArray, List.getElem_cons_succ, List.getElem_cons_zero, List.setIfInBounds_toArray, List.set_cons_zero, List.set_cons_succ]
      refine wpAnyH_done (by kernel_rfl) ?_ _
      go_wp2_with fail
      go_meet
      exact ⟨w27.heap.size, q53, rfl, rfl, HFq53.out, by first | exact (Pt.prefix (As := [[Res.cells w27.heap.size (spoolKL D q53)], spoolKR D q53, spoolKR (spoolKmk 1 D) q20, spoolKR s p30, [Res.cells k19 (spoolKL D q20)], [Res.cells w13.heap.size (spoolKL s p18)], [Res.cells k7 (spoolKL D q8)], spoolKR D q8, [Res.cells (w.heap.size + 1) [.string au, .string ad]], [Res.cells (w.heap.size) (spoolKL s ps)]]) (Bs := [spoolKR s p52]) (Pt.bring ((Pt.bring ((Pt.bring ((Pt.bring ((Pt.bring ((Pt.bring ((Pt.bring ((Pt.bring ((Pt.bring ((Pt.bring (S23.out) 10 rfl)) 10 rfl)) 10 rfl)) 10 rfl)) 10 rfl)) 10 rfl)) 10 rfl)) 10 rfl)) 9 rfl)) 9 rfl))⟩
  case rest =>
  obtain ⟨k46, q47, rfl, rfl, hf, hS⟩ := hcut
  have HFq47 : Seal _ := ⟨hf⟩
  have S17 : Seal (Pt w _ [[Res.cells k46 (spoolKL D q47)], spoolKR D q47, spoolKR (spoolKmk 1 D) q20, spoolKR s p30, [Res.cells k19 (spoolKL D q20)], [Res.cells w13.heap.size (spoolKL s p18)], [Res.cells k7 (spoolKL D q8)], spoolKR D q8, [Res.cells (w.heap.size + 1) [.string au, .string ad]], [Res.cells (w.heap.size) (spoolKL s ps)]]) := ⟨hS⟩
  clear hf hS S16
  generalize wc = w37 at *
  have g54 := (S17.out.cellsM 0 rfl).c 0 _ rfl
  have g55 := (S17.out.cellsM 0 rfl).c 1 _ rfl
  have g56 := (S17.out.cellsM 0 rfl).lt
  have g57 := (S17.out.cellsM 6 rfl).c 0 _ rfl
  have g58 := (S17.out.cellsM 6 rfl).c 1 _ rfl
  have g59 := (S17.out.cellsM 6 rfl).lt
  go_wp2_with fail
  refine (eqSpool_K D q47 q8 _ (spoolK_read HFq47.out (S17.out.nth 1 rfl)) (spoolK_read HFq8.out (S17.out.nth 7 rfl)) HZD.out).mono ?_
  rintro e w38 ⟨rfl, hb⟩
  have S18 : Seal (Pt w w38 [[Res.cells k46 (spoolKL D q47)], spoolKR D q47, spoolKR (spoolKmk 1 D) q20, spoolKR s p30, [Res.cells k19 (spoolKL D q20)], [Res.cells w13.heap.size (spoolKL s p18)], [Res.cells k7 (spoolKL D q8)], spoolKR D q8, [Res.cells (w.heap.size + 1) [.string au, .string ad]], [Res.cells (w.heap.size) (spoolKL s ps)]]) := ⟨S17.out.later hb⟩
  clear hb
  clear S17 g54 g55 g56 g57 g58 g59
  have g60 := (S18.out.cellsM 4 rfl).c 0 _ rfl
  have g61 := (S18.out.cellsM 4 rfl).c 1 _ rfl
  have g62 := (S18.out.cellsM 4 rfl).lt
  go_wp2_with fail
  refine (heldSpool_K 1 D q20 _ (spoolK_read (spoolK_mkF HFq20.out) (S18.out.nth 2 rfl)) HZD.out PN1.out).mono ?_
  rw [HN1.out]
  rintro e w39 ⟨rfl, hb⟩
  have S19 : Seal (Pt w w39 [[Res.cells k46 (spoolKL D q47)], spoolKR D q47, spoolKR (spoolKmk 1 D) q20, spoolKR s p30, [Res.cells k19 (spoolKL D q20)], [Res.cells w13.heap.size (spoolKL s p18)], [Res.cells k7 (spoolKL D q8)], spoolKR D q8, [Res.cells (w.heap.size + 1) [.string au, .string ad]], [Res.cells (w.heap.size) (spoolKL s ps)]]) := ⟨S18.out.later hb⟩
  clear hb
  clear S18 g60 g61 g62
  go_wp2
  go_ret
  exact ⟨rfl, S19.out.below⟩
end Go.Proofs.YtfffocfcnigogaaGreatDoor
