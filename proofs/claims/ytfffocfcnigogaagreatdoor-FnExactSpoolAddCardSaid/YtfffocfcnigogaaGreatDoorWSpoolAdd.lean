/- The walk of FnExactSpoolAdd. -/
import Derived.Test.YtfffocfcnigogaaGreatDoorSpoolAdds
import Derived.Test.YtfffocfcnigogaaGreatDoorKindSpool
import Derived.Deep.RegionHeld3
import Derived.Deep.DeepCutAuto
namespace Go.Proofs.YtfffocfcnigogaaGreatDoor
open Go Go.RowKit


set_option maxHeartbeats 12800000 in
set_option maxRecDepth 100000 in
theorem wFnExactSpoolAdd.walk (s : SpoolD) (sa : Option Addr) (sc : Nat) (m : MailD) (ma : Option Addr) (mc : Nat) (mb : Option Addr) (me : Nat) (now : Int) (w : World) (has : ItemRow w sa s.items) (hws : SpoolF s) (ham : MailAt w m ma mb) (hwm : MailSz maxLen m) (_ : (Lit.int .i64 now).wf = true) (hm : HasMax w) :
    Calls Tryz.prog 7 #[.agg (spoolV s sa sc), .agg (mailV m ma mc mb me), .int .i64 now] w fun e w' => e = .returned (.bool true) ∧ Below w.heap.size w w' := by
  have HM : Seal _ := ⟨hm⟩
  clear hm
  obtain ⟨ps, hps⟩ : ∃ p : SpoolP, (⟨sa, sc, []⟩ : SpoolP) = p := ⟨_, rfl⟩
  obtain rfl : ps.a = sa := by rw [← hps]
  obtain rfl : ps.c = sc := by rw [← hps]
  clear hps
  have HAs : Seal (spoolKA w s ps) := ⟨has⟩
  have HWs : Seal _ := ⟨hws⟩
  clear has hws
  obtain ⟨pm, hpm⟩ : ∃ p : MailP, (⟨ma, mc, mb, me⟩ : MailP) = p := ⟨_, rfl⟩
  obtain rfl : pm.a1 = ma := by rw [← hpm]
  obtain rfl : pm.c1 = mc := by rw [← hpm]
  obtain rfl : pm.a2 = mb := by rw [← hpm]
  obtain rfl : pm.c2 = me := by rw [← hpm]
  clear hpm
  have HAm : Seal (mailKA w m pm) := ⟨ham⟩
  have HWm : Seal _ := ⟨hwm⟩
  clear ham hwm
  have S0 : Seal (Pt w w []) := ⟨Pt.start w⟩
  have S1 : Seal (Pt w (w.alloc (.cells (spoolKV s ps) 60)) [[Res.cells (w.heap.size) (spoolKL s ps)]]) := ⟨S0.out.alloc (spoolKV s ps) 60⟩
  clear S0
  have S2 : Seal (Pt w ((w.alloc (.cells (spoolKV s ps) 60)).alloc (.cells (mailKV m pm) 64)) [[Res.cells (w.heap.size + 1) (mailKL m pm)], [Res.cells (w.heap.size) (spoolKL s ps)]]) := ⟨by have h := S1.out.alloc (mailKV m pm) 64; simp only [World.size_alloc] at h; exact h⟩
  clear S1
  obtain ⟨ls, hls⟩ : ∃ l, leftN (spoolN s) 1048576 = l := ⟨_, rfl⟩
  have HLs : Seal _ := ⟨hls⟩
  have hles : 0 ≤ (1048576 : Int) → ls ≤ 1048576 := fun h => hls ▸ leftN_le (spoolN s) h
  clear hls
  obtain ⟨lm, hlm⟩ : ∃ l, leftM m ls = l := ⟨_, rfl⟩
  have HLm : Seal _ := ⟨hlm⟩
  have hlem : 0 ≤ (ls : Int) → lm ≤ ls := fun h => hlm ▸ leftM_le (m := m) h
  clear hlm
  go_enter Tryz.func7, Tryz.ntmps7
  have g1 := (S2.out.cellsM 1 rfl).c 0 _ rfl
  have g2 := (S2.out.cellsM 1 rfl).c 1 _ rfl
  have g3 := (S2.out.cellsM 1 rfl).lt
  go_wp2_with fail
  refine (szSpool_K s ps 1048576 _ (spoolK_below HAs.out S2.out.below (Nat.le_refl _)) HWs.out (by omega) (by omega)).mono ?_
  rintro e w1 ⟨rfl, hb⟩
  rw [HLs.out]
  have S3 : Seal (Pt w w1 [[Res.cells (w.heap.size + 1) (mailKL m pm)], [Res.cells (w.heap.size) (spoolKL s ps)]]) := ⟨S2.out.later hb⟩
  clear hb S2 g1 g2 g3
  by_cases hneg : ls < 0
  · go_wp2
    go_ret
    exact ⟨rfl, S3.out.below⟩
  have HZs : Seal (spoolKZ s) := ⟨spoolK_small (by rw [HLs.out]; exact hneg) (by omega) (by omega)⟩
  have hlos : 0 ≤ ls := by omega
  have hups : ls ≤ 1048576 := by omega
  clear hneg
  have g4 := (S3.out.cellsM 0 rfl).c 0 _ rfl
  have g5 := (S3.out.cellsM 0 rfl).c 1 _ rfl
  have g6 := (S3.out.cellsM 0 rfl).c 2 _ rfl
  have g7 := (S3.out.cellsM 0 rfl).c 3 _ rfl
  have g8 := (S3.out.cellsM 0 rfl).lt
  go_wp2_with fail
  refine (szMail_K m pm ls _ (mailK_below HAm.out S3.out.below (Nat.le_refl _)) HWm.out (by omega) (by omega)).mono ?_
  rintro e w2 ⟨rfl, hb⟩
  rw [HLm.out]
  have S4 : Seal (Pt w w2 [[Res.cells (w.heap.size + 1) (mailKL m pm)], [Res.cells (w.heap.size) (spoolKL s ps)]]) := ⟨S3.out.later hb⟩
  clear hb S3 g4 g5 g6 g7 g8
  by_cases hneg : lm < 0
  · go_wp2
    go_ret
    exact ⟨rfl, S4.out.below⟩
  have HZm : Seal (mailKZ m) := ⟨mailK_small (by rw [HLm.out]; exact hneg) (by omega) (by omega)⟩
  have hlom : 0 ≤ lm := by omega
  have hupm : lm ≤ 1048576 := by omega
  clear hneg
  obtain ⟨D, hD⟩ : ∃ x, (addR s m now).1 = x := ⟨_, rfl⟩
  have HD : Seal _ := ⟨hD⟩
  have HZD : Seal (spoolKZ D) := ⟨hD ▸ addR_sz s m now HZs.out⟩
  clear hD
  obtain ⟨q, hq⟩ : ∃ x, (addR s m now).2 = x := ⟨_, rfl⟩
  have Hq : Seal _ := ⟨hq⟩
  clear hq
  have CS : Seal (∀ (W : World) (Ls : List (List Res)), ∀ (ps' : SpoolP) (pm' : MailP) (is : Nat) (im : Nat), Pt w W Ls → Ls[is]? = some (spoolKR s ps') → Ls[im]? = some (mailKR m pm') → spoolKF s ps' → mailKF m pm' → Calls Tryz.prog 14 #[.agg (spoolKV s ps'), .agg (mailKV m pm'), .int .i64 now] W (fun e w' => ∃ r, e = .returned (.tuple #[.agg (spoolKV D r), .bool q]) ∧ spoolKF D r ∧ St W w' (spoolKR D r))) := ⟨fun W Ls ps' pm' is im h hgs hgm fs fm => by rw [← HD.out, ← Hq.out]; exact specSpoolAdd_K s m now HZs.out HZm.out w W Ls ps' pm' is im h hgs hgm fs fm⟩
  have CI : Seal (∀ (W : World) (Ls : List (List Res)), HasMax W → ∀ (ps' : SpoolP) (pm' : MailP) (is : Nat) (im : Nat), Pt w W Ls → Ls[is]? = some (spoolKR s ps') → Ls[im]? = some (mailKR m pm') → spoolKF s ps' → mailKF m pm' → Calls Tryz.prog 13 #[.agg (spoolKV s ps'), .agg (mailKV m pm'), .int .i64 now] W (fun e w' => ∃ r, e = .returned (.tuple #[.agg (spoolKV D r), .bool q]) ∧ spoolKF D r ∧ St W w' (spoolKR D r))) := ⟨fun W Ls hmx ps' pm' is im h hgs hgm fs fm => by rw [← HD.out, ← Hq.out]; exact implSpoolAdd_K s m now HZs.out HZm.out w W Ls hmx ps' pm' is im h hgs hgm fs fm⟩
  obtain ⟨N0, hN0⟩ : ∃ N : Nat, 1 + spoolKM s = N := ⟨_, rfl⟩
  have mkN0 := spoolK_marks HZs.out
  have PN0 : Seal (1 + spoolKM s ≤ 16777216) := ⟨by omega⟩
  have HN0 : Seal _ := ⟨hN0⟩
  have ngN0 : ¬ (N0 : Int) < 0 := by omega
  obtain ⟨N1, hN1⟩ : ∃ N : Nat, N0 + mailKM m = N := ⟨_, rfl⟩
  have mkN1 := mailK_marks HZm.out
  have PN1 : Seal (N0 + mailKM m ≤ 16777216) := ⟨by omega⟩
  have HN1 : Seal _ := ⟨hN1⟩
  have ngN1 : ¬ (N1 : Int) < 0 := by omega
  obtain ⟨N2, hN2⟩ : ∃ N : Nat, 1 + spoolKM D = N := ⟨_, rfl⟩
  have mkN2 := spoolK_marks HZD.out
  have PN2 : Seal (1 + spoolKM D ≤ 16777216) := ⟨by omega⟩
  have HN2 : Seal _ := ⟨hN2⟩
  have ngN2 : ¬ (N2 : Int) < 0 := by omega
  clear mkN0 hN0 mkN1 hN1 mkN2 hN2
  have qqq : (q != q) = false := by cases q <;> rfl
  go_upto_region 8 with fail
  go_cut [8, 9] (fun s8 s9 wx => ∃ (k9 : Nat) (q10 : SpoolP), s8 = .pointer (some ⟨k9, 0, none⟩) ∧ s9 = .bool q ∧ spoolKF D q10 ∧ Pt w wx [[Res.cells k9 (spoolKL D q10)], spoolKR D q10, [Res.cells (w.heap.size + 1) (mailKL m pm)], [Res.cells (w.heap.size) (spoolKL s ps)]])
  case first =>
    refine wp_region_held_drew (S := (fun w' => w'.cell? ⟨w.heap.size, 0, none⟩ = some (.int .i64 s.last) ∧ w'.cell? ⟨w.heap.size, 1, none⟩ = some (.slice ps.a s.items.length ps.c) ∧ w'.cell? ⟨w.heap.size + 1, 0, none⟩ = some (.string m.fu) ∧ w'.cell? ⟨w.heap.size + 1, 1, none⟩ = some (.string m.fd) ∧ w'.cell? ⟨w.heap.size + 1, 2, none⟩ = some (.slice pm.a1 m.rc.length pm.c1) ∧ w'.cell? ⟨w.heap.size + 1, 3, none⟩ = some (.slice pm.a2 m.body.length pm.c2))) (by kernel_rfl) ⟨(S4.out.cellsM 1 rfl).c 0 _ rfl, (S4.out.cellsM 1 rfl).c 1 _ rfl, (S4.out.cellsM 0 rfl).c 0 _ rfl, (S4.out.cellsM 0 rfl).c 1 _ rfl, (S4.out.cellsM 0 rfl).c 2 _ rfl, (S4.out.cellsM 0 rfl).c 3 _ rfl⟩ (fun hHeld => ?_)
    have S5 : Seal (Pt w _ [[Res.cells (w.heap.size + 1) (mailKL m pm)], [Res.cells (w.heap.size) (spoolKL s ps)]]) := ⟨S4.out.drew⟩
    (refine wpAnyH_take (i := 0) (v := ?_) rfl (by kernel_rfl) (by kernel_rfl) (by kernel_rfl) (fun _ _ _ h => h) (Or.inl ⟨by rfl, ?_⟩) (by assumption) ?_; rotate_left; (intro w hSw; (try dsimp only at hSw); go_split_ands; go_simp; first | done | with_reducible rfl); rotate_left; simp only [Act.put, List.getElem_toArray, List.getElem_cons_zero, List.setIfInBounds_toArray, List.set_cons_succ, List.set_cons_zero])
    (refine wpAnyH_take (i := 2) (v := ?_) rfl (by kernel_rfl) (by kernel_rfl) (by kernel_rfl) (fun _ _ _ h => h) (Or.inl ⟨by rfl, ?_⟩) (by assumption) ?_; rotate_left; (intro w hSw; (try dsimp only at hSw); go_split_ands; go_simp; first | done | with_reducible rfl); rotate_left; simp only [Act.put, List.getElem_toArray, List.getElem_cons_succ, List.getElem_cons_zero, List.setIfInBounds_toArray, List.set_cons_succ, List.set_cons_zero])
    (refine wpAnyH_take (i := 4) (v := ?_) rfl (by kernel_rfl) (by kernel_rfl) (by kernel_rfl) (fun _ _ _ h => h) (Or.inl ⟨by rfl, ?_⟩) (by assumption) ?_; rotate_left; (intro w hSw; (try dsimp only at hSw); go_split_ands; go_simp; first | done | with_reducible rfl); rotate_left; simp only [Act.put, List.getElem_toArray, List.getElem_cons_succ, List.getElem_cons_zero, List.setIfInBounds_toArray, List.set_cons_succ, List.set_cons_zero])
    refine wpAnyH_ready (rs := [1, 9]) (by kernel_rfl) (by simp) ?_
    refine AllReadyH.cons rfl (fun K hK => ?_) (AllReadyH.cons rfl (fun K hK => ?_) AllReadyH.nil)
    · try dsimp only at hHeld
      go_split_ands
      go_simp
      refine (toSpool_K s ps _ (spoolK_below HAs.out S5.out.below (Nat.le_refl _)) HZs.out).mono ?_
      rintro e w3 ⟨p11, rfl, hf, hk⟩
      have HFp11 : Seal _ := ⟨hf⟩
      have S6 : Seal (Pt w w3 [spoolKR s p11, [Res.cells (w.heap.size + 1) (mailKL m pm)], [Res.cells (w.heap.size) (spoolKL s ps)]]) := ⟨S5.out.join hk⟩
      clear hk hf
      refine hK.out _ _ ⟨(S6.out.cellsM 2 rfl).c 0 _ rfl, (S6.out.cellsM 2 rfl).c 1 _ rfl, (S6.out.cellsM 1 rfl).c 0 _ rfl, (S6.out.cellsM 1 rfl).c 1 _ rfl, (S6.out.cellsM 1 rfl).c 2 _ rfl, (S6.out.cellsM 1 rfl).c 3 _ rfl⟩ (fun hHeld => ?_)
      clear hK K
      try simp only [Act.put, List.getElem_toArray, List.getElem_cons_succ, List.getElem_cons_zero, List.setIfInBounds_toArray, List.set_cons_zero, List.set_cons_succ]
      refine wpAnyH_ready (rs := [3, 9]) (by kernel_rfl) (by simp) ?_
      refine AllReadyH.cons rfl (fun K hK => ?_) (AllReadyH.cons rfl (fun K hK => ?_) AllReadyH.nil)
      · try dsimp only at hHeld
        go_split_ands
        go_simp
        refine (toMail_K m pm _ (mailK_below HAm.out S6.out.below (Nat.le_refl _)) HZm.out).mono ?_
        rintro e w4 ⟨p12, rfl, hf, hk⟩
        have HFp12 : Seal _ := ⟨hf⟩
        have S7 : Seal (Pt w w4 [mailKR m p12, spoolKR s p11, [Res.cells (w.heap.size + 1) (mailKL m pm)], [Res.cells (w.heap.size) (spoolKL s ps)]]) := ⟨S6.out.join hk⟩
        clear hk hf
        refine hK.out _ _ ⟨(S7.out.cellsM 3 rfl).c 0 _ rfl, (S7.out.cellsM 3 rfl).c 1 _ rfl, (S7.out.cellsM 2 rfl).c 0 _ rfl, (S7.out.cellsM 2 rfl).c 1 _ rfl, (S7.out.cellsM 2 rfl).c 2 _ rfl, (S7.out.cellsM 2 rfl).c 3 _ rfl⟩ (fun hHeld => ?_)
        clear hK K
        try simp only [Act.put, List.getElem_toArray, List.getElem_cons_succ, List.getElem_cons_zero, List.setIfInBounds_toArray, List.set_cons_zero, List.set_cons_succ]
        refine wpAnyH_ready (rs := [5, 9]) (by kernel_rfl) (by simp) ?_
        refine AllReadyH.cons rfl (fun K hK => ?_) (AllReadyH.cons rfl (fun K hK => ?_) AllReadyH.nil)
        · try dsimp only at hHeld
          go_split_ands
          go_simp
          refine (CS.out _ _ p11 p12 1 0 S7.out rfl rfl HFp11.out HFp12.out).mono ?_
          rintro e w5 ⟨q13, rfl, hfq13, hk⟩
          have HFq13 : Seal _ := ⟨hfq13⟩
          have S8 : Seal (Pt w w5 [spoolKR D q13, mailKR m p12, spoolKR s p11, [Res.cells (w.heap.size + 1) (mailKL m pm)], [Res.cells (w.heap.size) (spoolKL s ps)]]) := ⟨S7.out.join hk⟩
          clear hk hfq13
          refine hK.out _ _ ⟨(S8.out.cellsM 4 rfl).c 0 _ rfl, (S8.out.cellsM 4 rfl).c 1 _ rfl, (S8.out.cellsM 3 rfl).c 0 _ rfl, (S8.out.cellsM 3 rfl).c 1 _ rfl, (S8.out.cellsM 3 rfl).c 2 _ rfl, (S8.out.cellsM 3 rfl).c 3 _ rfl⟩ (fun hHeld => ?_)
          clear hK K
          try simp only [Act.put, List.getElem_toArray, List.getElem_cons_succ, List.getElem_cons_zero, List.setIfInBounds_toArray, List.set_cons_zero, List.set_cons_succ]
          (refine wpAnyH_take (i := 6) (v := ?_) rfl (by kernel_rfl) (by kernel_rfl) (by kernel_rfl) (fun _ _ _ h => h) (Or.inl ⟨by rfl, ?_⟩) (by assumption) ?_; rotate_left; (intro w hSw; (try dsimp only at hSw); go_split_ands; go_simp; first | done | with_reducible rfl); rotate_left; simp only [Act.put, List.getElem_toArray, List.getElem_cons_succ, List.getElem_cons_zero, List.setIfInBounds_toArray, List.set_cons_succ, List.set_cons_zero])
          (refine wpAnyH_take (i := 7) (v := ?_) rfl (by kernel_rfl) (by kernel_rfl) (by kernel_rfl) (fun _ _ _ h => h) (Or.inl ⟨by rfl, ?_⟩) (by assumption) ?_; rotate_left; (intro w hSw; (try dsimp only at hSw); go_split_ands; go_simp; first | done | with_reducible rfl); rotate_left; simp only [Act.put, List.getElem_toArray, List.getElem_cons_succ, List.getElem_cons_zero, List.setIfInBounds_toArray, List.set_cons_succ, List.set_cons_zero])
          (refine wpAnyH_take (i := 8) (v := ?_) rfl (by kernel_rfl) (by kernel_rfl) (by kernel_rfl) (fun _ _ _ h => h) (Or.inl ⟨by rfl, ?_⟩) (by assumption) ?_; rotate_left; (intro w hSw; (try dsimp only at hSw); go_split_ands; go_simp; first | done | with_reducible rfl); rotate_left; simp only [Act.put, List.getElem_toArray, List.getElem_cons_succ, List.getElem_cons_zero, List.setIfInBounds_toArray, List.set_cons_succ, List.set_cons_zero])
          refine wpAnyH_ready (rs := [9]) (by kernel_rfl) (by simp) ?_
          refine AllReadyH.cons rfl (fun K hK => ?_) AllReadyH.nil
          have S9 : Seal (Pt w (w5.alloc (.cells #[.int .i64 0, .slice none 0 0] 25)) [[Res.cells w5.heap.size ((#[.int .i64 0, .slice none 0 0] : Array Value).toList)], spoolKR D q13, mailKR m p12, spoolKR s p11, [Res.cells (w.heap.size + 1) (mailKL m pm)], [Res.cells (w.heap.size) (spoolKL s ps)]]) := ⟨S8.out.alloc #[.int .i64 0, .slice none 0 0] 25⟩
          go_simp
          refine hK.out _ _ ⟨(S9.out.cellsM 5 rfl).c 0 _ rfl, (S9.out.cellsM 5 rfl).c 1 _ rfl, (S9.out.cellsM 4 rfl).c 0 _ rfl, (S9.out.cellsM 4 rfl).c 1 _ rfl, (S9.out.cellsM 4 rfl).c 2 _ rfl, (S9.out.cellsM 4 rfl).c 3 _ rfl⟩ (fun hHeld => ?_)
          clear hK K
          try simp only [Act.put, List.getElem_toArray, List.getElem_cons_succ, List.getElem_cons_zero, List.setIfInBounds_toArray, List.set_cons_zero, List.set_cons_succ]
          refine wpAnyH_ready (rs := [10]) (by kernel_rfl) (by simp) ?_
          refine AllReadyH.cons rfl (fun K hK => ?_) AllReadyH.nil
          have oc0 := (S9.out.cellsM 0 rfl).c 0 _ rfl
          have of0 := (S9.out.cellsM 0 rfl).f 0 (by simp)
          have oc1 := (S9.out.cellsM 0 rfl).c 1 _ rfl
          have of1 := (S9.out.cellsM 0 rfl).f 1 (by simp)
          have SB10 : Seal (Pt w (((w5.alloc (.cells #[.int .i64 0, .slice none 0 0] 25)).setCell ⟨w5.heap.size, 0, none⟩ (.int .i64 D.last)).setCell ⟨w5.heap.size, 1, none⟩ (.slice q13.a D.items.length q13.c)) [[Res.cells w5.heap.size (spoolKL D q13)], spoolKR D q13, mailKR m p12, spoolKR s p11, [Res.cells (w.heap.size + 1) (mailKL m pm)], [Res.cells (w.heap.size) (spoolKL s ps)]]) := ⟨((S9.out).set 0 (.int .i64 D.last) (by simp)).set 1 (.slice q13.a D.items.length q13.c) (by simp)⟩
          have SA10 : Seal (Pt w (w5.alloc (.cells (spoolKV D q13) 25)) [[Res.cells w5.heap.size (spoolKL D q13)], spoolKR D q13, mailKR m p12, spoolKR s p11, [Res.cells (w.heap.size + 1) (mailKL m pm)], [Res.cells (w.heap.size) (spoolKL s ps)]]) := ⟨S8.out.alloc (spoolKV D q13) 25⟩
          go_simp
          refine hK.out _ _ (by first | exact ⟨(SA10.out.cellsM 5 rfl).c 0 _ rfl, (SA10.out.cellsM 5 rfl).c 1 _ rfl, (SA10.out.cellsM 4 rfl).c 0 _ rfl, (SA10.out.cellsM 4 rfl).c 1 _ rfl, (SA10.out.cellsM 4 rfl).c 2 _ rfl, (SA10.out.cellsM 4 rfl).c 3 _ rfl⟩ | exact ⟨(SB10.out.cellsM 5 rfl).c 0 _ rfl, (SB10.out.cellsM 5 rfl).c 1 _ rfl, (SB10.out.cellsM 4 rfl).c 0 _ rfl, (SB10.out.cellsM 4 rfl).c 1 _ rfl, (SB10.out.cellsM 4 rfl).c 2 _ rfl, (SB10.out.cellsM 4 rfl).c 3 _ rfl⟩) (fun hHeld => ?_)
          clear hK K
          try simp only [Act.put, List.getElem_toArray, List.getElem_cons_succ, List.getElem_cons_zero, List.setIfInBounds_toArray, List.set_cons_zero, List.set_cons_succ]
          clear oc0 of0 oc1 of1
          refine wpAnyH_ready (rs := [11]) (by kernel_rfl) (by simp) ?_
          refine AllReadyH.cons rfl (fun K hK => ?_) AllReadyH.nil
          go_simp
          refine hK.out _ _ (by assumption) (fun hHeld => ?_)
          clear hK K
          try simp only [Act.put, List.getElem_toArray, List.getElem_cons_succ, List.getElem_cons_zero, List.setIfInBounds_toArray, List.set_cons_zero, List.set_cons_succ]
          refine wpAnyH_done (by kernel_rfl) ?_ _
          go_wp2_with fail
          go_meet
          exact ⟨w5.heap.size, q13, rfl, rfl, HFq13.out, by first | exact (Pt.prefix (As := [[Res.cells w5.heap.size (spoolKL D q13)], spoolKR D q13, [Res.cells (w.heap.size + 1) (mailKL m pm)], [Res.cells (w.heap.size) (spoolKL s ps)]]) (Bs := [mailKR m p12, spoolKR s p11]) (Pt.bring ((Pt.bring ((Pt.bring ((Pt.bring (SA10.out) 5 rfl)) 5 rfl)) 3 rfl)) 3 rfl)) | exact (Pt.prefix (As := [[Res.cells w5.heap.size (spoolKL D q13)], spoolKR D q13, [Res.cells (w.heap.size + 1) (mailKL m pm)], [Res.cells (w.heap.size) (spoolKL s ps)]]) (Bs := [mailKR m p12, spoolKR s p11]) (Pt.bring ((Pt.bring ((Pt.bring ((Pt.bring (SB10.out) 5 rfl)) 5 rfl)) 3 rfl)) 3 rfl))⟩
        · have S8 : Seal (Pt w (w4.alloc (.cells #[.int .i64 0, .slice none 0 0] 25)) [[Res.cells w4.heap.size ((#[.int .i64 0, .slice none 0 0] : Array Value).toList)], mailKR m p12, spoolKR s p11, [Res.cells (w.heap.size + 1) (mailKL m pm)], [Res.cells (w.heap.size) (spoolKL s ps)]]) := ⟨S7.out.alloc #[.int .i64 0, .slice none 0 0] 25⟩
          go_simp
          refine hK.out _ _ ⟨(S8.out.cellsM 4 rfl).c 0 _ rfl, (S8.out.cellsM 4 rfl).c 1 _ rfl, (S8.out.cellsM 3 rfl).c 0 _ rfl, (S8.out.cellsM 3 rfl).c 1 _ rfl, (S8.out.cellsM 3 rfl).c 2 _ rfl, (S8.out.cellsM 3 rfl).c 3 _ rfl⟩ (fun hHeld => ?_)
          clear hK K
          try simp only [Act.put, List.getElem_toArray, List.getElem_cons_succ, List.getElem_cons_zero, List.setIfInBounds_toArray, List.set_cons_zero, List.set_cons_succ]
          refine wpAnyH_ready (rs := [5]) (by kernel_rfl) (by simp) ?_
          refine AllReadyH.cons rfl (fun K hK => ?_) AllReadyH.nil
          try dsimp only at hHeld
          go_split_ands
          go_simp
          refine (CS.out _ _ p11 p12 2 1 S8.out rfl rfl HFp11.out HFp12.out).mono ?_
          rintro e w6 ⟨q14, rfl, hfq14, hk⟩
          have HFq14 : Seal _ := ⟨hfq14⟩
          have S9 : Seal (Pt w w6 [spoolKR D q14, [Res.cells w4.heap.size ((#[.int .i64 0, .slice none 0 0] : Array Value).toList)], mailKR m p12, spoolKR s p11, [Res.cells (w.heap.size + 1) (mailKL m pm)], [Res.cells (w.heap.size) (spoolKL s ps)]]) := ⟨S8.out.join hk⟩
          clear hk hfq14
          refine hK.out _ _ ⟨(S9.out.cellsM 5 rfl).c 0 _ rfl, (S9.out.cellsM 5 rfl).c 1 _ rfl, (S9.out.cellsM 4 rfl).c 0 _ rfl, (S9.out.cellsM 4 rfl).c 1 _ rfl, (S9.out.cellsM 4 rfl).c 2 _ rfl, (S9.out.cellsM 4 rfl).c 3 _ rfl⟩ (fun hHeld => ?_)
          clear hK K
          try simp only [Act.put, List.getElem_toArray, List.getElem_cons_succ, List.getElem_cons_zero, List.setIfInBounds_toArray, List.set_cons_zero, List.set_cons_succ]
          (refine wpAnyH_take (i := 6) (v := ?_) rfl (by kernel_rfl) (by kernel_rfl) (by kernel_rfl) (fun _ _ _ h => h) (Or.inl ⟨by rfl, ?_⟩) (by assumption) ?_; rotate_left; (intro w hSw; (try dsimp only at hSw); go_split_ands; go_simp; first | done | with_reducible rfl); rotate_left; simp only [Act.put, List.getElem_toArray, List.getElem_cons_succ, List.getElem_cons_zero, List.setIfInBounds_toArray, List.set_cons_succ, List.set_cons_zero])
          (refine wpAnyH_take (i := 7) (v := ?_) rfl (by kernel_rfl) (by kernel_rfl) (by kernel_rfl) (fun _ _ _ h => h) (Or.inl ⟨by rfl, ?_⟩) (by assumption) ?_; rotate_left; (intro w hSw; (try dsimp only at hSw); go_split_ands; go_simp; first | done | with_reducible rfl); rotate_left; simp only [Act.put, List.getElem_toArray, List.getElem_cons_succ, List.getElem_cons_zero, List.setIfInBounds_toArray, List.set_cons_succ, List.set_cons_zero])
          (refine wpAnyH_take (i := 8) (v := ?_) rfl (by kernel_rfl) (by kernel_rfl) (by kernel_rfl) (fun _ _ _ h => h) (Or.inl ⟨by rfl, ?_⟩) (by assumption) ?_; rotate_left; (intro w hSw; (try dsimp only at hSw); go_split_ands; go_simp; first | done | with_reducible rfl); rotate_left; simp only [Act.put, List.getElem_toArray, List.getElem_cons_succ, List.getElem_cons_zero, List.setIfInBounds_toArray, List.set_cons_succ, List.set_cons_zero])
          refine wpAnyH_ready (rs := [10]) (by kernel_rfl) (by simp) ?_
          refine AllReadyH.cons rfl (fun K hK => ?_) AllReadyH.nil
          have S10 : Seal (Pt w w6 [[Res.cells w4.heap.size ((#[.int .i64 0, .slice none 0 0] : Array Value).toList)], spoolKR D q14, mailKR m p12, spoolKR s p11, [Res.cells (w.heap.size + 1) (mailKL m pm)], [Res.cells (w.heap.size) (spoolKL s ps)]]) := ⟨S9.out.bring 1 rfl⟩
          have oc0 := (S10.out.cellsM 0 rfl).c 0 _ rfl
          have of0 := (S10.out.cellsM 0 rfl).f 0 (by simp)
          have oc1 := (S10.out.cellsM 0 rfl).c 1 _ rfl
          have of1 := (S10.out.cellsM 0 rfl).f 1 (by simp)
          have S11 : Seal (Pt w ((w6.setCell ⟨w4.heap.size, 0, none⟩ (.int .i64 D.last)).setCell ⟨w4.heap.size, 1, none⟩ (.slice q14.a D.items.length q14.c)) [[Res.cells w4.heap.size (spoolKL D q14)], spoolKR D q14, mailKR m p12, spoolKR s p11, [Res.cells (w.heap.size + 1) (mailKL m pm)], [Res.cells (w.heap.size) (spoolKL s ps)]]) := ⟨((S10.out).set 0 (.int .i64 D.last) (by simp)).set 1 (.slice q14.a D.items.length q14.c) (by simp)⟩
          go_simp
          refine hK.out _ _ ⟨(S11.out.cellsM 5 rfl).c 0 _ rfl, (S11.out.cellsM 5 rfl).c 1 _ rfl, (S11.out.cellsM 4 rfl).c 0 _ rfl, (S11.out.cellsM 4 rfl).c 1 _ rfl, (S11.out.cellsM 4 rfl).c 2 _ rfl, (S11.out.cellsM 4 rfl).c 3 _ rfl⟩ (fun hHeld => ?_)
          clear hK K
          try simp only [Act.put, List.getElem_toArray, List.getElem_cons_succ, List.getElem_cons_zero, List.setIfInBounds_toArray, List.set_cons_zero, List.set_cons_succ]
          clear oc0 of0 oc1 of1
          refine wpAnyH_ready (rs := [11]) (by kernel_rfl) (by simp) ?_
          refine AllReadyH.cons rfl (fun K hK => ?_) AllReadyH.nil
          go_simp
          refine hK.out _ _ (by assumption) (fun hHeld => ?_)
          clear hK K
          try simp only [Act.put, List.getElem_toArray, List.getElem_cons_succ, List.getElem_cons_zero, List.setIfInBounds_toArray, List.set_cons_zero, List.set_cons_succ]
          refine wpAnyH_done (by kernel_rfl) ?_ _
          go_wp2_with fail
          go_meet
          exact ⟨w4.heap.size, q14, rfl, rfl, HFq14.out, by first | exact (Pt.prefix (As := [[Res.cells w4.heap.size (spoolKL D q14)], spoolKR D q14, [Res.cells (w.heap.size + 1) (mailKL m pm)], [Res.cells (w.heap.size) (spoolKL s ps)]]) (Bs := [mailKR m p12, spoolKR s p11]) (Pt.bring ((Pt.bring ((Pt.bring ((Pt.bring (S11.out) 5 rfl)) 5 rfl)) 3 rfl)) 3 rfl))⟩
      · have S7 : Seal (Pt w (w3.alloc (.cells #[.int .i64 0, .slice none 0 0] 25)) [[Res.cells w3.heap.size ((#[.int .i64 0, .slice none 0 0] : Array Value).toList)], spoolKR s p11, [Res.cells (w.heap.size + 1) (mailKL m pm)], [Res.cells (w.heap.size) (spoolKL s ps)]]) := ⟨S6.out.alloc #[.int .i64 0, .slice none 0 0] 25⟩
        go_simp
        refine hK.out _ _ ⟨(S7.out.cellsM 3 rfl).c 0 _ rfl, (S7.out.cellsM 3 rfl).c 1 _ rfl, (S7.out.cellsM 2 rfl).c 0 _ rfl, (S7.out.cellsM 2 rfl).c 1 _ rfl, (S7.out.cellsM 2 rfl).c 2 _ rfl, (S7.out.cellsM 2 rfl).c 3 _ rfl⟩ (fun hHeld => ?_)
        clear hK K
        try simp only [Act.put, List.getElem_toArray, List.getElem_cons_succ, List.getElem_cons_zero, List.setIfInBounds_toArray, List.set_cons_zero, List.set_cons_succ]
        refine wpAnyH_ready (rs := [3]) (by kernel_rfl) (by simp) ?_
        refine AllReadyH.cons rfl (fun K hK => ?_) AllReadyH.nil
        try dsimp only at hHeld
        go_split_ands
        go_simp
        refine (toMail_K m pm _ (mailK_below HAm.out S7.out.below (Nat.le_refl _)) HZm.out).mono ?_
        rintro e w7 ⟨p15, rfl, hf, hk⟩
        have HFp15 : Seal _ := ⟨hf⟩
        have S8 : Seal (Pt w w7 [mailKR m p15, [Res.cells w3.heap.size ((#[.int .i64 0, .slice none 0 0] : Array Value).toList)], spoolKR s p11, [Res.cells (w.heap.size + 1) (mailKL m pm)], [Res.cells (w.heap.size) (spoolKL s ps)]]) := ⟨S7.out.join hk⟩
        clear hk hf
        refine hK.out _ _ ⟨(S8.out.cellsM 4 rfl).c 0 _ rfl, (S8.out.cellsM 4 rfl).c 1 _ rfl, (S8.out.cellsM 3 rfl).c 0 _ rfl, (S8.out.cellsM 3 rfl).c 1 _ rfl, (S8.out.cellsM 3 rfl).c 2 _ rfl, (S8.out.cellsM 3 rfl).c 3 _ rfl⟩ (fun hHeld => ?_)
        clear hK K
        try simp only [Act.put, List.getElem_toArray, List.getElem_cons_succ, List.getElem_cons_zero, List.setIfInBounds_toArray, List.set_cons_zero, List.set_cons_succ]
        refine wpAnyH_ready (rs := [5]) (by kernel_rfl) (by simp) ?_
        refine AllReadyH.cons rfl (fun K hK => ?_) AllReadyH.nil
        try dsimp only at hHeld
        go_split_ands
        go_simp
        refine (CS.out _ _ p11 p15 2 0 S8.out rfl rfl HFp11.out HFp15.out).mono ?_
        rintro e w8 ⟨q16, rfl, hfq16, hk⟩
        have HFq16 : Seal _ := ⟨hfq16⟩
        have S9 : Seal (Pt w w8 [spoolKR D q16, mailKR m p15, [Res.cells w3.heap.size ((#[.int .i64 0, .slice none 0 0] : Array Value).toList)], spoolKR s p11, [Res.cells (w.heap.size + 1) (mailKL m pm)], [Res.cells (w.heap.size) (spoolKL s ps)]]) := ⟨S8.out.join hk⟩
        clear hk hfq16
        refine hK.out _ _ ⟨(S9.out.cellsM 5 rfl).c 0 _ rfl, (S9.out.cellsM 5 rfl).c 1 _ rfl, (S9.out.cellsM 4 rfl).c 0 _ rfl, (S9.out.cellsM 4 rfl).c 1 _ rfl, (S9.out.cellsM 4 rfl).c 2 _ rfl, (S9.out.cellsM 4 rfl).c 3 _ rfl⟩ (fun hHeld => ?_)
        clear hK K
        try simp only [Act.put, List.getElem_toArray, List.getElem_cons_succ, List.getElem_cons_zero, List.setIfInBounds_toArray, List.set_cons_zero, List.set_cons_succ]
        (refine wpAnyH_take (i := 6) (v := ?_) rfl (by kernel_rfl) (by kernel_rfl) (by kernel_rfl) (fun _ _ _ h => h) (Or.inl ⟨by rfl, ?_⟩) (by assumption) ?_; rotate_left; (intro w hSw; (try dsimp only at hSw); go_split_ands; go_simp; first | done | with_reducible rfl); rotate_left; simp only [Act.put, List.getElem_toArray, List.getElem_cons_succ, List.getElem_cons_zero, List.setIfInBounds_toArray, List.set_cons_succ, List.set_cons_zero])
        (refine wpAnyH_take (i := 7) (v := ?_) rfl (by kernel_rfl) (by kernel_rfl) (by kernel_rfl) (fun _ _ _ h => h) (Or.inl ⟨by rfl, ?_⟩) (by assumption) ?_; rotate_left; (intro w hSw; (try dsimp only at hSw); go_split_ands; go_simp; first | done | with_reducible rfl); rotate_left; simp only [Act.put, List.getElem_toArray, List.getElem_cons_succ, List.getElem_cons_zero, List.setIfInBounds_toArray, List.set_cons_succ, List.set_cons_zero])
        (refine wpAnyH_take (i := 8) (v := ?_) rfl (by kernel_rfl) (by kernel_rfl) (by kernel_rfl) (fun _ _ _ h => h) (Or.inl ⟨by rfl, ?_⟩) (by assumption) ?_; rotate_left; (intro w hSw; (try dsimp only at hSw); go_split_ands; go_simp; first | done | with_reducible rfl); rotate_left; simp only [Act.put, List.getElem_toArray, List.getElem_cons_succ, List.getElem_cons_zero, List.setIfInBounds_toArray, List.set_cons_succ, List.set_cons_zero])
        refine wpAnyH_ready (rs := [10]) (by kernel_rfl) (by simp) ?_
        refine AllReadyH.cons rfl (fun K hK => ?_) AllReadyH.nil
        have S10 : Seal (Pt w w8 [[Res.cells w3.heap.size ((#[.int .i64 0, .slice none 0 0] : Array Value).toList)], spoolKR D q16, mailKR m p15, spoolKR s p11, [Res.cells (w.heap.size + 1) (mailKL m pm)], [Res.cells (w.heap.size) (spoolKL s ps)]]) := ⟨S9.out.bring 2 rfl⟩
        have oc0 := (S10.out.cellsM 0 rfl).c 0 _ rfl
        have of0 := (S10.out.cellsM 0 rfl).f 0 (by simp)
        have oc1 := (S10.out.cellsM 0 rfl).c 1 _ rfl
        have of1 := (S10.out.cellsM 0 rfl).f 1 (by simp)
        have S11 : Seal (Pt w ((w8.setCell ⟨w3.heap.size, 0, none⟩ (.int .i64 D.last)).setCell ⟨w3.heap.size, 1, none⟩ (.slice q16.a D.items.length q16.c)) [[Res.cells w3.heap.size (spoolKL D q16)], spoolKR D q16, mailKR m p15, spoolKR s p11, [Res.cells (w.heap.size + 1) (mailKL m pm)], [Res.cells (w.heap.size) (spoolKL s ps)]]) := ⟨((S10.out).set 0 (.int .i64 D.last) (by simp)).set 1 (.slice q16.a D.items.length q16.c) (by simp)⟩
        go_simp
        refine hK.out _ _ ⟨(S11.out.cellsM 5 rfl).c 0 _ rfl, (S11.out.cellsM 5 rfl).c 1 _ rfl, (S11.out.cellsM 4 rfl).c 0 _ rfl, (S11.out.cellsM 4 rfl).c 1 _ rfl, (S11.out.cellsM 4 rfl).c 2 _ rfl, (S11.out.cellsM 4 rfl).c 3 _ rfl⟩ (fun hHeld => ?_)
        clear hK K
        try simp only [Act.put, List.getElem_toArray, List.getElem_cons_succ, List.getElem_cons_zero, List.setIfInBounds_toArray, List.set_cons_zero, List.set_cons_succ]
        clear oc0 of0 oc1 of1
        refine wpAnyH_ready (rs := [11]) (by kernel_rfl) (by simp) ?_
        refine AllReadyH.cons rfl (fun K hK => ?_) AllReadyH.nil
        go_simp
        refine hK.out _ _ (by assumption) (fun hHeld => ?_)
        clear hK K
        try simp only [Act.put, List.getElem_toArray, List.getElem_cons_succ, List.getElem_cons_zero, List.setIfInBounds_toArray, List.set_cons_zero, List.set_cons_succ]
        refine wpAnyH_done (by kernel_rfl) ?_ _
        go_wp2_with fail
        go_meet
        exact ⟨w3.heap.size, q16, rfl, rfl, HFq16.out, by first | exact (Pt.prefix (As := [[Res.cells w3.heap.size (spoolKL D q16)], spoolKR D q16, [Res.cells (w.heap.size + 1) (mailKL m pm)], [Res.cells (w.heap.size) (spoolKL s ps)]]) (Bs := [mailKR m p15, spoolKR s p11]) (Pt.bring ((Pt.bring ((Pt.bring ((Pt.bring (S11.out) 5 rfl)) 5 rfl)) 3 rfl)) 3 rfl))⟩
    · have S6 : Seal (Pt w (w2.drew.alloc (.cells #[.int .i64 0, .slice none 0 0] 25)) [[Res.cells w2.heap.size ((#[.int .i64 0, .slice none 0 0] : Array Value).toList)], [Res.cells (w.heap.size + 1) (mailKL m pm)], [Res.cells (w.heap.size) (spoolKL s ps)]]) := ⟨S5.out.alloc #[.int .i64 0, .slice none 0 0] 25⟩
      go_simp
      refine hK.out _ _ ⟨(S6.out.cellsM 2 rfl).c 0 _ rfl, (S6.out.cellsM 2 rfl).c 1 _ rfl, (S6.out.cellsM 1 rfl).c 0 _ rfl, (S6.out.cellsM 1 rfl).c 1 _ rfl, (S6.out.cellsM 1 rfl).c 2 _ rfl, (S6.out.cellsM 1 rfl).c 3 _ rfl⟩ (fun hHeld => ?_)
      clear hK K
      try simp only [Act.put, List.getElem_toArray, List.getElem_cons_succ, List.getElem_cons_zero, List.setIfInBounds_toArray, List.set_cons_zero, List.set_cons_succ]
      refine wpAnyH_ready (rs := [1]) (by kernel_rfl) (by simp) ?_
      refine AllReadyH.cons rfl (fun K hK => ?_) AllReadyH.nil
      try dsimp only at hHeld
      go_split_ands
      go_simp
      refine (toSpool_K s ps _ (spoolK_below HAs.out S6.out.below (Nat.le_refl _)) HZs.out).mono ?_
      rintro e w9 ⟨p17, rfl, hf, hk⟩
      have HFp17 : Seal _ := ⟨hf⟩
      have S7 : Seal (Pt w w9 [spoolKR s p17, [Res.cells w2.heap.size ((#[.int .i64 0, .slice none 0 0] : Array Value).toList)], [Res.cells (w.heap.size + 1) (mailKL m pm)], [Res.cells (w.heap.size) (spoolKL s ps)]]) := ⟨S6.out.join hk⟩
      clear hk hf
      refine hK.out _ _ ⟨(S7.out.cellsM 3 rfl).c 0 _ rfl, (S7.out.cellsM 3 rfl).c 1 _ rfl, (S7.out.cellsM 2 rfl).c 0 _ rfl, (S7.out.cellsM 2 rfl).c 1 _ rfl, (S7.out.cellsM 2 rfl).c 2 _ rfl, (S7.out.cellsM 2 rfl).c 3 _ rfl⟩ (fun hHeld => ?_)
      clear hK K
      try simp only [Act.put, List.getElem_toArray, List.getElem_cons_succ, List.getElem_cons_zero, List.setIfInBounds_toArray, List.set_cons_zero, List.set_cons_succ]
      refine wpAnyH_ready (rs := [3]) (by kernel_rfl) (by simp) ?_
      refine AllReadyH.cons rfl (fun K hK => ?_) AllReadyH.nil
      try dsimp only at hHeld
      go_split_ands
      go_simp
      refine (toMail_K m pm _ (mailK_below HAm.out S7.out.below (Nat.le_refl _)) HZm.out).mono ?_
      rintro e w10 ⟨p18, rfl, hf, hk⟩
      have HFp18 : Seal _ := ⟨hf⟩
      have S8 : Seal (Pt w w10 [mailKR m p18, spoolKR s p17, [Res.cells w2.heap.size ((#[.int .i64 0, .slice none 0 0] : Array Value).toList)], [Res.cells (w.heap.size + 1) (mailKL m pm)], [Res.cells (w.heap.size) (spoolKL s ps)]]) := ⟨S7.out.join hk⟩
      clear hk hf
      refine hK.out _ _ ⟨(S8.out.cellsM 4 rfl).c 0 _ rfl, (S8.out.cellsM 4 rfl).c 1 _ rfl, (S8.out.cellsM 3 rfl).c 0 _ rfl, (S8.out.cellsM 3 rfl).c 1 _ rfl, (S8.out.cellsM 3 rfl).c 2 _ rfl, (S8.out.cellsM 3 rfl).c 3 _ rfl⟩ (fun hHeld => ?_)
      clear hK K
      try simp only [Act.put, List.getElem_toArray, List.getElem_cons_succ, List.getElem_cons_zero, List.setIfInBounds_toArray, List.set_cons_zero, List.set_cons_succ]
      refine wpAnyH_ready (rs := [5]) (by kernel_rfl) (by simp) ?_
      refine AllReadyH.cons rfl (fun K hK => ?_) AllReadyH.nil
      try dsimp only at hHeld
      go_split_ands
      go_simp
      refine (CS.out _ _ p17 p18 1 0 S8.out rfl rfl HFp17.out HFp18.out).mono ?_
      rintro e w11 ⟨q19, rfl, hfq19, hk⟩
      have HFq19 : Seal _ := ⟨hfq19⟩
      have S9 : Seal (Pt w w11 [spoolKR D q19, mailKR m p18, spoolKR s p17, [Res.cells w2.heap.size ((#[.int .i64 0, .slice none 0 0] : Array Value).toList)], [Res.cells (w.heap.size + 1) (mailKL m pm)], [Res.cells (w.heap.size) (spoolKL s ps)]]) := ⟨S8.out.join hk⟩
      clear hk hfq19
      refine hK.out _ _ ⟨(S9.out.cellsM 5 rfl).c 0 _ rfl, (S9.out.cellsM 5 rfl).c 1 _ rfl, (S9.out.cellsM 4 rfl).c 0 _ rfl, (S9.out.cellsM 4 rfl).c 1 _ rfl, (S9.out.cellsM 4 rfl).c 2 _ rfl, (S9.out.cellsM 4 rfl).c 3 _ rfl⟩ (fun hHeld => ?_)
      clear hK K
      try simp only [Act.put, List.getElem_toArray, List.getElem_cons_succ, List.getElem_cons_zero, List.setIfInBounds_toArray, List.set_cons_zero, List.set_cons_succ]
      (refine wpAnyH_take (i := 6) (v := ?_) rfl (by kernel_rfl) (by kernel_rfl) (by kernel_rfl) (fun _ _ _ h => h) (Or.inl ⟨by rfl, ?_⟩) (by assumption) ?_; rotate_left; (intro w hSw; (try dsimp only at hSw); go_split_ands; go_simp; first | done | with_reducible rfl); rotate_left; simp only [Act.put, List.getElem_toArray, List.getElem_cons_succ, List.getElem_cons_zero, List.setIfInBounds_toArray, List.set_cons_succ, List.set_cons_zero])
      (refine wpAnyH_take (i := 7) (v := ?_) rfl (by kernel_rfl) (by kernel_rfl) (by kernel_rfl) (fun _ _ _ h => h) (Or.inl ⟨by rfl, ?_⟩) (by assumption) ?_; rotate_left; (intro w hSw; (try dsimp only at hSw); go_split_ands; go_simp; first | done | with_reducible rfl); rotate_left; simp only [Act.put, List.getElem_toArray, List.getElem_cons_succ, List.getElem_cons_zero, List.setIfInBounds_toArray, List.set_cons_succ, List.set_cons_zero])
      (refine wpAnyH_take (i := 8) (v := ?_) rfl (by kernel_rfl) (by kernel_rfl) (by kernel_rfl) (fun _ _ _ h => h) (Or.inl ⟨by rfl, ?_⟩) (by assumption) ?_; rotate_left; (intro w hSw; (try dsimp only at hSw); go_split_ands; go_simp; first | done | with_reducible rfl); rotate_left; simp only [Act.put, List.getElem_toArray, List.getElem_cons_succ, List.getElem_cons_zero, List.setIfInBounds_toArray, List.set_cons_succ, List.set_cons_zero])
      refine wpAnyH_ready (rs := [10]) (by kernel_rfl) (by simp) ?_
      refine AllReadyH.cons rfl (fun K hK => ?_) AllReadyH.nil
      have S10 : Seal (Pt w w11 [[Res.cells w2.heap.size ((#[.int .i64 0, .slice none 0 0] : Array Value).toList)], spoolKR D q19, mailKR m p18, spoolKR s p17, [Res.cells (w.heap.size + 1) (mailKL m pm)], [Res.cells (w.heap.size) (spoolKL s ps)]]) := ⟨S9.out.bring 3 rfl⟩
      have oc0 := (S10.out.cellsM 0 rfl).c 0 _ rfl
      have of0 := (S10.out.cellsM 0 rfl).f 0 (by simp)
      have oc1 := (S10.out.cellsM 0 rfl).c 1 _ rfl
      have of1 := (S10.out.cellsM 0 rfl).f 1 (by simp)
      have S11 : Seal (Pt w ((w11.setCell ⟨w2.heap.size, 0, none⟩ (.int .i64 D.last)).setCell ⟨w2.heap.size, 1, none⟩ (.slice q19.a D.items.length q19.c)) [[Res.cells w2.heap.size (spoolKL D q19)], spoolKR D q19, mailKR m p18, spoolKR s p17, [Res.cells (w.heap.size + 1) (mailKL m pm)], [Res.cells (w.heap.size) (spoolKL s ps)]]) := ⟨((S10.out).set 0 (.int .i64 D.last) (by simp)).set 1 (.slice q19.a D.items.length q19.c) (by simp)⟩
      go_simp
      refine hK.out _ _ ⟨(S11.out.cellsM 5 rfl).c 0 _ rfl, (S11.out.cellsM 5 rfl).c 1 _ rfl, (S11.out.cellsM 4 rfl).c 0 _ rfl, (S11.out.cellsM 4 rfl).c 1 _ rfl, (S11.out.cellsM 4 rfl).c 2 _ rfl, (S11.out.cellsM 4 rfl).c 3 _ rfl⟩ (fun hHeld => ?_)
      clear hK K
      try simp only [Act.put, List.getElem_toArray, List.getElem_cons_succ, List.getElem_cons_zero, List.setIfInBounds_toArray, List.set_cons_zero, List.set_cons_succ]
      clear oc0 of0 oc1 of1
      refine wpAnyH_ready (rs := [11]) (by kernel_rfl) (by simp) ?_
      refine AllReadyH.cons rfl (fun K hK => ?_) AllReadyH.nil
      go_simp
      refine hK.out _ _ (by assumption) (fun hHeld => ?_)
      clear hK K
      try simp only [Act.put, List.getElem_toArray, List.getElem_cons_succ, List.getElem_cons_zero, List.setIfInBounds_toArray, List.set_cons_zero, List.set_cons_succ]
      refine wpAnyH_done (by kernel_rfl) ?_ _
      go_wp2_with fail
      go_meet
      exact ⟨w2.heap.size, q19, rfl, rfl, HFq19.out, by first | exact (Pt.prefix (As := [[Res.cells w2.heap.size (spoolKL D q19)], spoolKR D q19, [Res.cells (w.heap.size + 1) (mailKL m pm)], [Res.cells (w.heap.size) (spoolKL s ps)]]) (Bs := [mailKR m p18, spoolKR s p17]) (Pt.bring ((Pt.bring ((Pt.bring ((Pt.bring (S11.out) 5 rfl)) 5 rfl)) 3 rfl)) 3 rfl))⟩
  case rest =>
  obtain ⟨k9, q10, rfl, rfl, hf, hS⟩ := hcut
  have HFq10 : Seal _ := ⟨hf⟩
  have S5 : Seal (Pt w _ [[Res.cells k9 (spoolKL D q10)], spoolKR D q10, [Res.cells (w.heap.size + 1) (mailKL m pm)], [Res.cells (w.heap.size) (spoolKL s ps)]]) := ⟨hS⟩
  clear hf hS S4
  generalize wc = w12 at *
  have g20 := (S5.out.cellsM 3 rfl).c 0 _ rfl
  have g21 := (S5.out.cellsM 3 rfl).c 1 _ rfl
  have g22 := (S5.out.cellsM 3 rfl).lt
  go_wp2_with fail
  refine (toSpool_K s ps _ (spoolK_below HAs.out S5.out.below (Nat.le_refl _)) HZs.out).mono ?_
  rintro e w13 ⟨p23, rfl, hf, hk⟩
  have HFp23 : Seal _ := ⟨hf⟩
  have S6 : Seal (Pt w w13 [spoolKR s p23, [Res.cells k9 (spoolKL D q10)], spoolKR D q10, [Res.cells (w.heap.size + 1) (mailKL m pm)], [Res.cells (w.heap.size) (spoolKL s ps)]]) := ⟨S5.out.join hk⟩
  clear hk hf
  clear S5 g20 g21 g22
  have S7 : Seal (Pt w (w13.alloc (.cells (spoolKV s p23) 25)) [[Res.cells w13.heap.size (spoolKL s p23)], spoolKR s p23, [Res.cells k9 (spoolKL D q10)], spoolKR D q10, [Res.cells (w.heap.size + 1) (mailKL m pm)], [Res.cells (w.heap.size) (spoolKL s ps)]]) := ⟨S6.out.alloc (spoolKV s p23) 25⟩
  clear S6
  have g24 := (S7.out.cellsM 4 rfl).c 0 _ rfl
  have g25 := (S7.out.cellsM 4 rfl).c 1 _ rfl
  have g26 := (S7.out.cellsM 4 rfl).c 2 _ rfl
  have g27 := (S7.out.cellsM 4 rfl).c 3 _ rfl
  have g28 := (S7.out.cellsM 4 rfl).lt
  go_wp2_with fail
  refine (toMail_K m pm _ (mailK_below HAm.out S7.out.below (Nat.le_refl _)) HZm.out).mono ?_
  rintro e w14 ⟨p29, rfl, hf, hk⟩
  have HFp29 : Seal _ := ⟨hf⟩
  have S8 : Seal (Pt w w14 [mailKR m p29, [Res.cells w13.heap.size (spoolKL s p23)], spoolKR s p23, [Res.cells k9 (spoolKL D q10)], spoolKR D q10, [Res.cells (w.heap.size + 1) (mailKL m pm)], [Res.cells (w.heap.size) (spoolKL s ps)]]) := ⟨S7.out.join hk⟩
  clear hk hf
  clear S7 g24 g25 g26 g27 g28
  have S9 : Seal (Pt w (w14.alloc (.cells (mailKV m p29) 31)) [[Res.cells w14.heap.size (mailKL m p29)], mailKR m p29, [Res.cells w13.heap.size (spoolKL s p23)], spoolKR s p23, [Res.cells k9 (spoolKL D q10)], spoolKR D q10, [Res.cells (w.heap.size + 1) (mailKL m pm)], [Res.cells (w.heap.size) (spoolKL s ps)]]) := ⟨S8.out.alloc (mailKV m p29) 31⟩
  clear S8
  have g30 := (S9.out.cellsM 2 rfl).c 0 _ rfl
  have g31 := (S9.out.cellsM 2 rfl).c 1 _ rfl
  have g32 := (S9.out.cellsM 2 rfl).lt
  have g33 := (S9.out.cellsM 0 rfl).c 0 _ rfl
  have g34 := (S9.out.cellsM 0 rfl).c 1 _ rfl
  have g35 := (S9.out.cellsM 0 rfl).c 2 _ rfl
  have g36 := (S9.out.cellsM 0 rfl).c 3 _ rfl
  have g37 := (S9.out.cellsM 0 rfl).lt
  go_wp2_with fail
  refine (CI.out _ _ (HM.out.below S9.out.below (Nat.le_refl _)) p23 p29 3 1 S9.out rfl rfl HFp23.out HFp29.out).mono ?_
  rintro e w15 ⟨q38, rfl, hfq38, hk⟩
  have HFq38 : Seal _ := ⟨hfq38⟩
  have S10 : Seal (Pt w w15 [spoolKR D q38, [Res.cells w14.heap.size (mailKL m p29)], mailKR m p29, [Res.cells w13.heap.size (spoolKL s p23)], spoolKR s p23, [Res.cells k9 (spoolKL D q10)], spoolKR D q10, [Res.cells (w.heap.size + 1) (mailKL m pm)], [Res.cells (w.heap.size) (spoolKL s ps)]]) := ⟨S9.out.join hk⟩
  clear hk hfq38
  clear S9 g30 g31 g32 g33 g34 g35 g36 g37
  have S11 : Seal (Pt w (w15.alloc (.cells (spoolKV D q38) 25)) [[Res.cells w15.heap.size (spoolKL D q38)], spoolKR D q38, [Res.cells w14.heap.size (mailKL m p29)], mailKR m p29, [Res.cells w13.heap.size (spoolKL s p23)], spoolKR s p23, [Res.cells k9 (spoolKL D q10)], spoolKR D q10, [Res.cells (w.heap.size + 1) (mailKL m pm)], [Res.cells (w.heap.size) (spoolKL s ps)]]) := ⟨S10.out.alloc (spoolKV D q38) 25⟩
  clear S10
  have g39 := (S11.out.cellsM 0 rfl).c 0 _ rfl
  have g40 := (S11.out.cellsM 0 rfl).c 1 _ rfl
  have g41 := (S11.out.cellsM 0 rfl).lt
  have g42 := (S11.out.cellsM 6 rfl).c 0 _ rfl
  have g43 := (S11.out.cellsM 6 rfl).c 1 _ rfl
  have g44 := (S11.out.cellsM 6 rfl).lt
  go_wp2_with fail
  refine (eqSpool_K D q38 q10 _ (spoolK_read HFq38.out (S11.out.nth 1 rfl)) (spoolK_read HFq10.out (S11.out.nth 7 rfl)) HZD.out).mono ?_
  rintro e w16 ⟨rfl, hb⟩
  have S12 : Seal (Pt w w16 [[Res.cells w15.heap.size (spoolKL D q38)], spoolKR D q38, [Res.cells w14.heap.size (mailKL m p29)], mailKR m p29, [Res.cells w13.heap.size (spoolKL s p23)], spoolKR s p23, [Res.cells k9 (spoolKL D q10)], spoolKR D q10, [Res.cells (w.heap.size + 1) (mailKL m pm)], [Res.cells (w.heap.size) (spoolKL s ps)]]) := ⟨S11.out.later hb⟩
  clear hb
  clear S11 g39 g40 g41 g42 g43 g44
  go_upto_region 14 with fail
  refine wp_region_held_drew (S := (fun w' => w'.cell? ⟨w13.heap.size, 0, none⟩ = some (.int .i64 s.last) ∧ w'.cell? ⟨w13.heap.size, 1, none⟩ = some (.slice p23.a s.items.length p23.c) ∧ w'.cell? ⟨w.heap.size, 0, none⟩ = some (.int .i64 s.last) ∧ w'.cell? ⟨w.heap.size, 1, none⟩ = some (.slice ps.a s.items.length ps.c))) (by kernel_rfl) ⟨(S12.out.cellsM 4 rfl).c 0 _ rfl, (S12.out.cellsM 4 rfl).c 1 _ rfl, (S12.out.cellsM 9 rfl).c 0 _ rfl, (S12.out.cellsM 9 rfl).c 1 _ rfl⟩ (fun hHeld => ?_)
  have S13 : Seal (Pt w _ [[Res.cells w15.heap.size (spoolKL D q38)], spoolKR D q38, [Res.cells w14.heap.size (mailKL m p29)], mailKR m p29, [Res.cells w13.heap.size (spoolKL s p23)], spoolKR s p23, [Res.cells k9 (spoolKL D q10)], spoolKR D q10, [Res.cells (w.heap.size + 1) (mailKL m pm)], [Res.cells (w.heap.size) (spoolKL s ps)]]) := ⟨S12.out.drew⟩
  (refine wpAnyH_take (i := 0) (v := ?_) rfl (by kernel_rfl) (by kernel_rfl) (by kernel_rfl) (fun _ _ _ h => h) (Or.inl ⟨by rfl, ?_⟩) (by assumption) ?_; rotate_left; (intro w hSw; (try dsimp only at hSw); go_split_ands; go_simp; first | done | with_reducible rfl); rotate_left; simp only [Act.put, List.getElem_toArray, List.getElem_cons_zero, List.setIfInBounds_toArray, List.set_cons_succ, List.set_cons_zero])
  (refine wpAnyH_take (i := 1) (v := ?_) rfl (by kernel_rfl) (by kernel_rfl) (by kernel_rfl) (fun _ _ _ h => h) (Or.inl ⟨by rfl, ?_⟩) (by assumption) ?_; rotate_left; (intro w hSw; (try dsimp only at hSw); go_split_ands; go_simp; first | done | with_reducible rfl); rotate_left; simp only [Act.put, List.getElem_toArray, List.getElem_cons_succ, List.getElem_cons_zero, List.setIfInBounds_toArray, List.set_cons_succ, List.set_cons_zero])
  refine wpAnyH_ready (rs := [2]) (by kernel_rfl) (by simp) ?_
  refine AllReadyH.cons rfl (fun K hK => ?_) AllReadyH.nil
  try dsimp only at hHeld
  go_split_ands
  go_simp
  refine (toSpool_K s ps _ (spoolK_below HAs.out S13.out.below (Nat.le_refl _)) HZs.out).mono ?_
  rintro e w17 ⟨p45, rfl, hf, hk⟩
  have HFp45 : Seal _ := ⟨hf⟩
  have S14 : Seal (Pt w w17 [spoolKR s p45, [Res.cells w15.heap.size (spoolKL D q38)], spoolKR D q38, [Res.cells w14.heap.size (mailKL m p29)], mailKR m p29, [Res.cells w13.heap.size (spoolKL s p23)], spoolKR s p23, [Res.cells k9 (spoolKL D q10)], spoolKR D q10, [Res.cells (w.heap.size + 1) (mailKL m pm)], [Res.cells (w.heap.size) (spoolKL s ps)]]) := ⟨S13.out.join hk⟩
  clear hk hf
  refine hK.out _ _ ⟨(S14.out.cellsM 5 rfl).c 0 _ rfl, (S14.out.cellsM 5 rfl).c 1 _ rfl, (S14.out.cellsM 10 rfl).c 0 _ rfl, (S14.out.cellsM 10 rfl).c 1 _ rfl⟩ (fun hHeld => ?_)
  clear hK K
  try simp only [Act.put, List.getElem_toArray, List.getElem_cons_succ, List.getElem_cons_zero, List.setIfInBounds_toArray, List.set_cons_zero, List.set_cons_succ]
  refine wpAnyH_ready (rs := [3]) (by kernel_rfl) (by simp) ?_
  refine AllReadyH.cons rfl (fun K hK => ?_) AllReadyH.nil
  try dsimp only at hHeld
  go_split_ands
  go_simp
  refine (eqSpool_K s p23 p45 _ (spoolK_read HFp23.out (S14.out.nth 6 rfl)) (spoolK_read HFp45.out (S14.out.nth 0 rfl)) HZs.out).mono ?_
  rintro e w18 ⟨rfl, hb⟩
  have S15 : Seal (Pt w w18 [spoolKR s p45, [Res.cells w15.heap.size (spoolKL D q38)], spoolKR D q38, [Res.cells w14.heap.size (mailKL m p29)], mailKR m p29, [Res.cells w13.heap.size (spoolKL s p23)], spoolKR s p23, [Res.cells k9 (spoolKL D q10)], spoolKR D q10, [Res.cells (w.heap.size + 1) (mailKL m pm)], [Res.cells (w.heap.size) (spoolKL s ps)]]) := ⟨S14.out.later hb⟩
  clear hb
  refine hK.out _ _ ⟨(S15.out.cellsM 5 rfl).c 0 _ rfl, (S15.out.cellsM 5 rfl).c 1 _ rfl, (S15.out.cellsM 10 rfl).c 0 _ rfl, (S15.out.cellsM 10 rfl).c 1 _ rfl⟩ (fun hHeld => ?_)
  clear hK K
  try simp only [Act.put, List.getElem_toArray, List.getElem_cons_succ, List.getElem_cons_zero, List.setIfInBounds_toArray, List.set_cons_zero, List.set_cons_succ]
  (refine wpAnyH_take (i := 4) (v := ?_) rfl (by kernel_rfl) (by kernel_rfl) (by kernel_rfl) (fun _ _ _ h => h) (Or.inl ⟨by rfl, ?_⟩) (by assumption) ?_; rotate_left; (intro w hSw; (try dsimp only at hSw); go_split_ands; go_simp; first | done | with_reducible rfl); rotate_left; simp only [Act.put, List.getElem_toArray, List.getElem_cons_succ, List.getElem_cons_zero, List.setIfInBounds_toArray, List.set_cons_succ, List.set_cons_zero])
  refine wpAnyH_done (by kernel_rfl) ?_ _
  go_upto_region 16 with fail
  refine wp_region_held_drew (S := (fun w' => w'.cell? ⟨w14.heap.size, 0, none⟩ = some (.string m.fu) ∧ w'.cell? ⟨w14.heap.size, 1, none⟩ = some (.string m.fd) ∧ w'.cell? ⟨w14.heap.size, 2, none⟩ = some (.slice p29.a1 m.rc.length p29.c1) ∧ w'.cell? ⟨w14.heap.size, 3, none⟩ = some (.slice p29.a2 m.body.length p29.c2) ∧ w'.cell? ⟨w.heap.size + 1, 0, none⟩ = some (.string m.fu) ∧ w'.cell? ⟨w.heap.size + 1, 1, none⟩ = some (.string m.fd) ∧ w'.cell? ⟨w.heap.size + 1, 2, none⟩ = some (.slice pm.a1 m.rc.length pm.c1) ∧ w'.cell? ⟨w.heap.size + 1, 3, none⟩ = some (.slice pm.a2 m.body.length pm.c2))) (by kernel_rfl) ⟨(S15.out.cellsM 3 rfl).c 0 _ rfl, (S15.out.cellsM 3 rfl).c 1 _ rfl, (S15.out.cellsM 3 rfl).c 2 _ rfl, (S15.out.cellsM 3 rfl).c 3 _ rfl, (S15.out.cellsM 9 rfl).c 0 _ rfl, (S15.out.cellsM 9 rfl).c 1 _ rfl, (S15.out.cellsM 9 rfl).c 2 _ rfl, (S15.out.cellsM 9 rfl).c 3 _ rfl⟩ (fun hHeld => ?_)
  have S16 : Seal (Pt w _ [spoolKR s p45, [Res.cells w15.heap.size (spoolKL D q38)], spoolKR D q38, [Res.cells w14.heap.size (mailKL m p29)], mailKR m p29, [Res.cells w13.heap.size (spoolKL s p23)], spoolKR s p23, [Res.cells k9 (spoolKL D q10)], spoolKR D q10, [Res.cells (w.heap.size + 1) (mailKL m pm)], [Res.cells (w.heap.size) (spoolKL s ps)]]) := ⟨S15.out.drew⟩
  (refine wpAnyH_take (i := 0) (v := ?_) rfl (by kernel_rfl) (by kernel_rfl) (by kernel_rfl) (fun _ _ _ h => h) (Or.inl ⟨by rfl, ?_⟩) (by assumption) ?_; rotate_left; (intro w hSw; (try dsimp only at hSw); go_split_ands; go_simp; first | done | with_reducible rfl); rotate_left; simp only [Act.put, List.getElem_toArray, List.getElem_cons_zero, List.setIfInBounds_toArray, List.set_cons_succ, List.set_cons_zero])
  (refine wpAnyH_take (i := 1) (v := ?_) rfl (by kernel_rfl) (by kernel_rfl) (by kernel_rfl) (fun _ _ _ h => h) (Or.inl ⟨by rfl, ?_⟩) (by assumption) ?_; rotate_left; (intro w hSw; (try dsimp only at hSw); go_split_ands; go_simp; first | done | with_reducible rfl); rotate_left; simp only [Act.put, List.getElem_toArray, List.getElem_cons_succ, List.getElem_cons_zero, List.setIfInBounds_toArray, List.set_cons_succ, List.set_cons_zero])
  refine wpAnyH_ready (rs := [2]) (by kernel_rfl) (by simp) ?_
  refine AllReadyH.cons rfl (fun K hK => ?_) AllReadyH.nil
  try dsimp only at hHeld
  go_split_ands
  go_simp
  refine (toMail_K m pm _ (mailK_below HAm.out S16.out.below (Nat.le_refl _)) HZm.out).mono ?_
  rintro e w19 ⟨p46, rfl, hf, hk⟩
  have HFp46 : Seal _ := ⟨hf⟩
  have S17 : Seal (Pt w w19 [mailKR m p46, spoolKR s p45, [Res.cells w15.heap.size (spoolKL D q38)], spoolKR D q38, [Res.cells w14.heap.size (mailKL m p29)], mailKR m p29, [Res.cells w13.heap.size (spoolKL s p23)], spoolKR s p23, [Res.cells k9 (spoolKL D q10)], spoolKR D q10, [Res.cells (w.heap.size + 1) (mailKL m pm)], [Res.cells (w.heap.size) (spoolKL s ps)]]) := ⟨S16.out.join hk⟩
  clear hk hf
  refine hK.out _ _ ⟨(S17.out.cellsM 4 rfl).c 0 _ rfl, (S17.out.cellsM 4 rfl).c 1 _ rfl, (S17.out.cellsM 4 rfl).c 2 _ rfl, (S17.out.cellsM 4 rfl).c 3 _ rfl, (S17.out.cellsM 10 rfl).c 0 _ rfl, (S17.out.cellsM 10 rfl).c 1 _ rfl, (S17.out.cellsM 10 rfl).c 2 _ rfl, (S17.out.cellsM 10 rfl).c 3 _ rfl⟩ (fun hHeld => ?_)
  clear hK K
  try simp only [Act.put, List.getElem_toArray, List.getElem_cons_succ, List.getElem_cons_zero, List.setIfInBounds_toArray, List.set_cons_zero, List.set_cons_succ]
  refine wpAnyH_ready (rs := [3]) (by kernel_rfl) (by simp) ?_
  refine AllReadyH.cons rfl (fun K hK => ?_) AllReadyH.nil
  try dsimp only at hHeld
  go_split_ands
  go_simp
  refine (eqMail_K m p29 p46 _ (mailK_read HFp29.out (S17.out.nth 5 rfl)) (mailK_read HFp46.out (S17.out.nth 0 rfl)) HZm.out).mono ?_
  rintro e w20 ⟨rfl, hb⟩
  have S18 : Seal (Pt w w20 [mailKR m p46, spoolKR s p45, [Res.cells w15.heap.size (spoolKL D q38)], spoolKR D q38, [Res.cells w14.heap.size (mailKL m p29)], mailKR m p29, [Res.cells w13.heap.size (spoolKL s p23)], spoolKR s p23, [Res.cells k9 (spoolKL D q10)], spoolKR D q10, [Res.cells (w.heap.size + 1) (mailKL m pm)], [Res.cells (w.heap.size) (spoolKL s ps)]]) := ⟨S17.out.later hb⟩
  clear hb
  refine hK.out _ _ ⟨(S18.out.cellsM 4 rfl).c 0 _ rfl, (S18.out.cellsM 4 rfl).c 1 _ rfl, (S18.out.cellsM 4 rfl).c 2 _ rfl, (S18.out.cellsM 4 rfl).c 3 _ rfl, (S18.out.cellsM 10 rfl).c 0 _ rfl, (S18.out.cellsM 10 rfl).c 1 _ rfl, (S18.out.cellsM 10 rfl).c 2 _ rfl, (S18.out.cellsM 10 rfl).c 3 _ rfl⟩ (fun hHeld => ?_)
  clear hK K
  try simp only [Act.put, List.getElem_toArray, List.getElem_cons_succ, List.getElem_cons_zero, List.setIfInBounds_toArray, List.set_cons_zero, List.set_cons_succ]
  (refine wpAnyH_take (i := 4) (v := ?_) rfl (by kernel_rfl) (by kernel_rfl) (by kernel_rfl) (fun _ _ _ h => h) (Or.inl ⟨by rfl, ?_⟩) (by assumption) ?_; rotate_left; (intro w hSw; (try dsimp only at hSw); go_split_ands; go_simp; first | done | with_reducible rfl); rotate_left; simp only [Act.put, List.getElem_toArray, List.getElem_cons_succ, List.getElem_cons_zero, List.setIfInBounds_toArray, List.set_cons_succ, List.set_cons_zero])
  refine wpAnyH_done (by kernel_rfl) ?_ _
  have g47 := (S18.out.cellsM 6 rfl).c 0 _ rfl
  have g48 := (S18.out.cellsM 6 rfl).c 1 _ rfl
  have g49 := (S18.out.cellsM 6 rfl).lt
  go_wp2_with fail
  refine (markSpool_K 1 s p23 _ (S18.out.bring 7 rfl) HFp23.out HZs.out PN0.out).mono ?_
  rw [HN0.out]
  rintro e w21 ⟨rfl, hk⟩
  have S19 : Seal (Pt w w21 [mailKR m p46, spoolKR s p45, [Res.cells w15.heap.size (spoolKL D q38)], spoolKR D q38, [Res.cells w14.heap.size (mailKL m p29)], mailKR m p29, [Res.cells w13.heap.size (spoolKL s p23)], [Res.cells k9 (spoolKL D q10)], spoolKR D q10, [Res.cells (w.heap.size + 1) (mailKL m pm)], [Res.cells (w.heap.size) (spoolKL s ps)]]) := ⟨Pt.tail hk⟩
  clear hk
  clear S18 g47 g48 g49
  have g50 := (S19.out.cellsM 4 rfl).c 0 _ rfl
  have g51 := (S19.out.cellsM 4 rfl).c 1 _ rfl
  have g52 := (S19.out.cellsM 4 rfl).c 2 _ rfl
  have g53 := (S19.out.cellsM 4 rfl).c 3 _ rfl
  have g54 := (S19.out.cellsM 4 rfl).lt
  go_wp2_with fail
  refine (markMail_K N0 m p29 _ (S19.out.bring 5 rfl) HFp29.out HZm.out PN1.out).mono ?_
  rw [HN1.out]
  rintro e w22 ⟨rfl, hk⟩
  have S20 : Seal (Pt w w22 [mailKR m p46, spoolKR s p45, [Res.cells w15.heap.size (spoolKL D q38)], spoolKR D q38, [Res.cells w14.heap.size (mailKL m p29)], [Res.cells w13.heap.size (spoolKL s p23)], [Res.cells k9 (spoolKL D q10)], spoolKR D q10, [Res.cells (w.heap.size + 1) (mailKL m pm)], [Res.cells (w.heap.size) (spoolKL s ps)]]) := ⟨Pt.tail hk⟩
  clear hk
  clear S19 g50 g51 g52 g53 g54
  have g55 := (S20.out.cellsM 2 rfl).c 0 _ rfl
  have g56 := (S20.out.cellsM 2 rfl).c 1 _ rfl
  have g57 := (S20.out.cellsM 2 rfl).lt
  have g58 := (S20.out.cellsM 6 rfl).c 0 _ rfl
  have g59 := (S20.out.cellsM 6 rfl).c 1 _ rfl
  have g60 := (S20.out.cellsM 6 rfl).lt
  go_wp2_with fail
  refine (eqSpool_K D q38 q10 _ (spoolK_read HFq38.out (S20.out.nth 3 rfl)) (spoolK_read HFq10.out (S20.out.nth 7 rfl)) HZD.out).mono ?_
  rintro e w23 ⟨rfl, hb⟩
  have S21 : Seal (Pt w w23 [mailKR m p46, spoolKR s p45, [Res.cells w15.heap.size (spoolKL D q38)], spoolKR D q38, [Res.cells w14.heap.size (mailKL m p29)], [Res.cells w13.heap.size (spoolKL s p23)], [Res.cells k9 (spoolKL D q10)], spoolKR D q10, [Res.cells (w.heap.size + 1) (mailKL m pm)], [Res.cells (w.heap.size) (spoolKL s ps)]]) := ⟨S20.out.later hb⟩
  clear hb
  clear S20 g55 g56 g57 g58 g59 g60
  have g61 := (S21.out.cellsM 2 rfl).c 0 _ rfl
  have g62 := (S21.out.cellsM 2 rfl).c 1 _ rfl
  have g63 := (S21.out.cellsM 2 rfl).lt
  go_wp2_with fail
  refine (markSpool_K 1 D q38 _ (S21.out.bring 3 rfl) HFq38.out HZD.out PN2.out).mono ?_
  rw [HN2.out]
  rintro e w24 ⟨rfl, hk⟩
  have S22 : Seal (Pt w w24 [spoolKR (spoolKmk 1 D) q38, mailKR m p46, spoolKR s p45, [Res.cells w15.heap.size (spoolKL D q38)], [Res.cells w14.heap.size (mailKL m p29)], [Res.cells w13.heap.size (spoolKL s p23)], [Res.cells k9 (spoolKL D q10)], spoolKR D q10, [Res.cells (w.heap.size + 1) (mailKL m pm)], [Res.cells (w.heap.size) (spoolKL s ps)]]) := ⟨hk⟩
  clear hk
  clear S21 g61 g62 g63
  have g64 := (S22.out.cellsM 3 rfl).c 0 _ rfl
  have g65 := (S22.out.cellsM 3 rfl).c 1 _ rfl
  have g66 := (S22.out.cellsM 3 rfl).lt
  go_wp2_with fail
  refine (heldSpool_K 1 D q38 _ (spoolK_read (spoolK_mkF HFq38.out) (S22.out.nth 0 rfl)) HZD.out PN2.out).mono ?_
  rw [HN2.out]
  rintro e w25 ⟨rfl, hb⟩
  have S23 : Seal (Pt w w25 [spoolKR (spoolKmk 1 D) q38, mailKR m p46, spoolKR s p45, [Res.cells w15.heap.size (spoolKL D q38)], [Res.cells w14.heap.size (mailKL m p29)], [Res.cells w13.heap.size (spoolKL s p23)], [Res.cells k9 (spoolKL D q10)], spoolKR D q10, [Res.cells (w.heap.size + 1) (mailKL m pm)], [Res.cells (w.heap.size) (spoolKL s ps)]]) := ⟨S22.out.later hb⟩
  clear hb
  clear S22 g64 g65 g66
  go_upto_region 31 with fail
  go_cut [17, 18] (fun s17 s18 wx => ∃ (k67 : Nat) (q68 : SpoolP), s17 = .pointer (some ⟨k67, 0, none⟩) ∧ s18 = .bool q ∧ spoolKF D q68 ∧ Pt w wx [[Res.cells k67 (spoolKL D q68)], spoolKR D q68, spoolKR (spoolKmk 1 D) q38, mailKR m p46, spoolKR s p45, [Res.cells w15.heap.size (spoolKL D q38)], [Res.cells w14.heap.size (mailKL m p29)], [Res.cells w13.heap.size (spoolKL s p23)], [Res.cells k9 (spoolKL D q10)], spoolKR D q10, [Res.cells (w.heap.size + 1) (mailKL m pm)], [Res.cells (w.heap.size) (spoolKL s ps)]])
  case first =>
    refine wp_region_held_drew (S := (fun w' => w'.cell? ⟨w.heap.size, 0, none⟩ = some (.int .i64 s.last) ∧ w'.cell? ⟨w.heap.size, 1, none⟩ = some (.slice ps.a s.items.length ps.c) ∧ w'.cell? ⟨w.heap.size + 1, 0, none⟩ = some (.string m.fu) ∧ w'.cell? ⟨w.heap.size + 1, 1, none⟩ = some (.string m.fd) ∧ w'.cell? ⟨w.heap.size + 1, 2, none⟩ = some (.slice pm.a1 m.rc.length pm.c1) ∧ w'.cell? ⟨w.heap.size + 1, 3, none⟩ = some (.slice pm.a2 m.body.length pm.c2))) (by kernel_rfl) ⟨(S23.out.cellsM 9 rfl).c 0 _ rfl, (S23.out.cellsM 9 rfl).c 1 _ rfl, (S23.out.cellsM 8 rfl).c 0 _ rfl, (S23.out.cellsM 8 rfl).c 1 _ rfl, (S23.out.cellsM 8 rfl).c 2 _ rfl, (S23.out.cellsM 8 rfl).c 3 _ rfl⟩ (fun hHeld => ?_)
    have S24 : Seal (Pt w _ [spoolKR (spoolKmk 1 D) q38, mailKR m p46, spoolKR s p45, [Res.cells w15.heap.size (spoolKL D q38)], [Res.cells w14.heap.size (mailKL m p29)], [Res.cells w13.heap.size (spoolKL s p23)], [Res.cells k9 (spoolKL D q10)], spoolKR D q10, [Res.cells (w.heap.size + 1) (mailKL m pm)], [Res.cells (w.heap.size) (spoolKL s ps)]]) := ⟨S23.out.drew⟩
    (refine wpAnyH_take (i := 0) (v := ?_) rfl (by kernel_rfl) (by kernel_rfl) (by kernel_rfl) (fun _ _ _ h => h) (Or.inl ⟨by rfl, ?_⟩) (by assumption) ?_; rotate_left; (intro w hSw; (try dsimp only at hSw); go_split_ands; go_simp; first | done | with_reducible rfl); rotate_left; simp only [Act.put, List.getElem_toArray, List.getElem_cons_zero, List.setIfInBounds_toArray, List.set_cons_succ, List.set_cons_zero])
    (refine wpAnyH_take (i := 2) (v := ?_) rfl (by kernel_rfl) (by kernel_rfl) (by kernel_rfl) (fun _ _ _ h => h) (Or.inl ⟨by rfl, ?_⟩) (by assumption) ?_; rotate_left; (intro w hSw; (try dsimp only at hSw); go_split_ands; go_simp; first | done | with_reducible rfl); rotate_left; simp only [Act.put, List.getElem_toArray, List.getElem_cons_succ, List.getElem_cons_zero, List.setIfInBounds_toArray, List.set_cons_succ, List.set_cons_zero])
    (refine wpAnyH_take (i := 4) (v := ?_) rfl (by kernel_rfl) (by kernel_rfl) (by kernel_rfl) (fun _ _ _ h => h) (Or.inl ⟨by rfl, ?_⟩) (by assumption) ?_; rotate_left; (intro w hSw; (try dsimp only at hSw); go_split_ands; go_simp; first | done | with_reducible rfl); rotate_left; simp only [Act.put, List.getElem_toArray, List.getElem_cons_succ, List.getElem_cons_zero, List.setIfInBounds_toArray, List.set_cons_succ, List.set_cons_zero])
    refine wpAnyH_ready (rs := [1, 9]) (by kernel_rfl) (by simp) ?_
    refine AllReadyH.cons rfl (fun K hK => ?_) (AllReadyH.cons rfl (fun K hK => ?_) AllReadyH.nil)
    · try dsimp only at hHeld
      go_split_ands
      go_simp
      refine (toSpool_K s ps _ (spoolK_below HAs.out S24.out.below (Nat.le_refl _)) HZs.out).mono ?_
      rintro e w26 ⟨p69, rfl, hf, hk⟩
      have HFp69 : Seal _ := ⟨hf⟩
      have S25 : Seal (Pt w w26 [spoolKR s p69, spoolKR (spoolKmk 1 D) q38, mailKR m p46, spoolKR s p45, [Res.cells w15.heap.size (spoolKL D q38)], [Res.cells w14.heap.size (mailKL m p29)], [Res.cells w13.heap.size (spoolKL s p23)], [Res.cells k9 (spoolKL D q10)], spoolKR D q10, [Res.cells (w.heap.size + 1) (mailKL m pm)], [Res.cells (w.heap.size) (spoolKL s ps)]]) := ⟨S24.out.join hk⟩
      clear hk hf
      refine hK.out _ _ ⟨(S25.out.cellsM 10 rfl).c 0 _ rfl, (S25.out.cellsM 10 rfl).c 1 _ rfl, (S25.out.cellsM 9 rfl).c 0 _ rfl, (S25.out.cellsM 9 rfl).c 1 _ rfl, (S25.out.cellsM 9 rfl).c 2 _ rfl, (S25.out.cellsM 9 rfl).c 3 _ rfl⟩ (fun hHeld => ?_)
      clear hK K
      try simp only [Act.put, List.getElem_toArray, List.getElem_cons_succ, List.getElem_cons_zero, List.setIfInBounds_toArray, List.set_cons_zero, List.set_cons_succ]
      refine wpAnyH_ready (rs := [3, 9]) (by kernel_rfl) (by simp) ?_
      refine AllReadyH.cons rfl (fun K hK => ?_) (AllReadyH.cons rfl (fun K hK => ?_) AllReadyH.nil)
      · try dsimp only at hHeld
        go_split_ands
        go_simp
        refine (toMail_K m pm _ (mailK_below HAm.out S25.out.below (Nat.le_refl _)) HZm.out).mono ?_
        rintro e w27 ⟨p70, rfl, hf, hk⟩
        have HFp70 : Seal _ := ⟨hf⟩
        have S26 : Seal (Pt w w27 [mailKR m p70, spoolKR s p69, spoolKR (spoolKmk 1 D) q38, mailKR m p46, spoolKR s p45, [Res.cells w15.heap.size (spoolKL D q38)], [Res.cells w14.heap.size (mailKL m p29)], [Res.cells w13.heap.size (spoolKL s p23)], [Res.cells k9 (spoolKL D q10)], spoolKR D q10, [Res.cells (w.heap.size + 1) (mailKL m pm)], [Res.cells (w.heap.size) (spoolKL s ps)]]) := ⟨S25.out.join hk⟩
        clear hk hf
        refine hK.out _ _ ⟨(S26.out.cellsM 11 rfl).c 0 _ rfl, (S26.out.cellsM 11 rfl).c 1 _ rfl, (S26.out.cellsM 10 rfl).c 0 _ rfl, (S26.out.cellsM 10 rfl).c 1 _ rfl, (S26.out.cellsM 10 rfl).c 2 _ rfl, (S26.out.cellsM 10 rfl).c 3 _ rfl⟩ (fun hHeld => ?_)
        clear hK K
        try simp only [Act.put, List.getElem_toArray, List.getElem_cons_succ, List.getElem_cons_zero, List.setIfInBounds_toArray, List.set_cons_zero, List.set_cons_succ]
        refine wpAnyH_ready (rs := [5, 9]) (by kernel_rfl) (by simp) ?_
        refine AllReadyH.cons rfl (fun K hK => ?_) (AllReadyH.cons rfl (fun K hK => ?_) AllReadyH.nil)
        · try dsimp only at hHeld
          go_split_ands
          go_simp
          refine (CI.out _ _ (HM.out.below S26.out.below (Nat.le_refl _)) p69 p70 1 0 S26.out rfl rfl HFp69.out HFp70.out).mono ?_
          rintro e w28 ⟨q71, rfl, hfq71, hk⟩
          have HFq71 : Seal _ := ⟨hfq71⟩
          have S27 : Seal (Pt w w28 [spoolKR D q71, mailKR m p70, spoolKR s p69, spoolKR (spoolKmk 1 D) q38, mailKR m p46, spoolKR s p45, [Res.cells w15.heap.size (spoolKL D q38)], [Res.cells w14.heap.size (mailKL m p29)], [Res.cells w13.heap.size (spoolKL s p23)], [Res.cells k9 (spoolKL D q10)], spoolKR D q10, [Res.cells (w.heap.size + 1) (mailKL m pm)], [Res.cells (w.heap.size) (spoolKL s ps)]]) := ⟨S26.out.join hk⟩
          clear hk hfq71
          refine hK.out _ _ ⟨(S27.out.cellsM 12 rfl).c 0 _ rfl, (S27.out.cellsM 12 rfl).c 1 _ rfl, (S27.out.cellsM 11 rfl).c 0 _ rfl, (S27.out.cellsM 11 rfl).c 1 _ rfl, (S27.out.cellsM 11 rfl).c 2 _ rfl, (S27.out.cellsM 11 rfl).c 3 _ rfl⟩ (fun hHeld => ?_)
          clear hK K
          try simp only [Act.put, List.getElem_toArray, List.getElem_cons_succ, List.getElem_cons_zero, List.setIfInBounds_toArray, List.set_cons_zero, List.set_cons_succ]
          (refine wpAnyH_take (i := 6) (v := ?_) rfl (by kernel_rfl) (by kernel_rfl) (by kernel_rfl) (fun _ _ _ h => h) (Or.inl ⟨by rfl, ?_⟩) (by assumption) ?_; rotate_left; (intro w hSw; (try dsimp only at hSw); go_split_ands; go_simp; first | done | with_reducible rfl); rotate_left; simp only [Act.put, List.getElem_toArray, List.getElem_cons_succ, List.getElem_cons_zero, List.setIfInBounds_toArray, List.set_cons_succ, List.set_cons_zero])
          (refine wpAnyH_take (i := 7) (v := ?_) rfl (by kernel_rfl) (by kernel_rfl) (by kernel_rfl) (fun _ _ _ h => h) (Or.inl ⟨by rfl, ?_⟩) (by assumption) ?_; rotate_left; (intro w hSw; (try dsimp only at hSw); go_split_ands; go_simp; first | done | with_reducible rfl); rotate_left; simp only [Act.put, List.getElem_toArray, List.getElem_cons_succ, List.getElem_cons_zero, List.setIfInBounds_toArray, List.set_cons_succ, List.set_cons_zero])
          (refine wpAnyH_take (i := 8) (v := ?_) rfl (by kernel_rfl) (by kernel_rfl) (by kernel_rfl) (fun _ _ _ h => h) (Or.inl ⟨by rfl, ?_⟩) (by assumption) ?_; rotate_left; (intro w hSw; (try dsimp only at hSw); go_split_ands; go_simp; first | done | with_reducible rfl); rotate_left; simp only [Act.put, List.getElem_toArray, List.getElem_cons_succ, List.getElem_cons_zero, List.setIfInBounds_toArray, List.set_cons_succ, List.set_cons_zero])
          refine wpAnyH_ready (rs := [9]) (by kernel_rfl) (by simp) ?_
          refine AllReadyH.cons rfl (fun K hK => ?_) AllReadyH.nil
          have S28 : Seal (Pt w (w28.alloc (.cells #[.int .i64 0, .slice none 0 0] 25)) [[Res.cells w28.heap.size ((#[.int .i64 0, .slice none 0 0] : Array Value).toList)], spoolKR D q71, mailKR m p70, spoolKR s p69, spoolKR (spoolKmk 1 D) q38, mailKR m p46, spoolKR s p45, [Res.cells w15.heap.size (spoolKL D q38)], [Res.cells w14.heap.size (mailKL m p29)], [Res.cells w13.heap.size (spoolKL s p23)], [Res.cells k9 (spoolKL D q10)], spoolKR D q10, [Res.cells (w.heap.size + 1) (mailKL m pm)], [Res.cells (w.heap.size) (spoolKL s ps)]]) := ⟨S27.out.alloc #[.int .i64 0, .slice none 0 0] 25⟩
          go_simp
          refine hK.out _ _ ⟨(S28.out.cellsM 13 rfl).c 0 _ rfl, (S28.out.cellsM 13 rfl).c 1 _ rfl, (S28.out.cellsM 12 rfl).c 0 _ rfl, (S28.out.cellsM 12 rfl).c 1 _ rfl, (S28.out.cellsM 12 rfl).c 2 _ rfl, (S28.out.cellsM 12 rfl).c 3 _ rfl⟩ (fun hHeld => ?_)
          clear hK K
          try simp only [Act.put, List.getElem_toArray, List.getElem_cons_succ, List.getElem_cons_zero, List.setIfInBounds_toArray, List.set_cons_zero, List.set_cons_succ]
          refine wpAnyH_ready (rs := [10]) (by kernel_rfl) (by simp) ?_
          refine AllReadyH.cons rfl (fun K hK => ?_) AllReadyH.nil
          have oc0 := (S28.out.cellsM 0 rfl).c 0 _ rfl
          have of0 := (S28.out.cellsM 0 rfl).f 0 (by simp)
          have oc1 := (S28.out.cellsM 0 rfl).c 1 _ rfl
          have of1 := (S28.out.cellsM 0 rfl).f 1 (by simp)
          have SB29 : Seal (Pt w (((w28.alloc (.cells #[.int .i64 0, .slice none 0 0] 25)).setCell ⟨w28.heap.size, 0, none⟩ (.int .i64 D.last)).setCell ⟨w28.heap.size, 1, none⟩ (.slice q71.a D.items.length q71.c)) [[Res.cells w28.heap.size (spoolKL D q71)], spoolKR D q71, mailKR m p70, spoolKR s p69, spoolKR (spoolKmk 1 D) q38, mailKR m p46, spoolKR s p45, [Res.cells w15.heap.size (spoolKL D q38)], [Res.cells w14.heap.size (mailKL m p29)], [Res.cells w13.heap.size (spoolKL s p23)], [Res.cells k9 (spoolKL D q10)], spoolKR D q10, [Res.cells (w.heap.size + 1) (mailKL m pm)], [Res.cells (w.heap.size) (spoolKL s ps)]]) := ⟨((S28.out).set 0 (.int .i64 D.last) (by simp)).set 1 (.slice q71.a D.items.length q71.c) (by simp)⟩
          have SA29 : Seal (Pt w (w28.alloc (.cells (spoolKV D q71) 25)) [[Res.cells w28.heap.size (spoolKL D q71)], spoolKR D q71, mailKR m p70, spoolKR s p69, spoolKR (spoolKmk 1 D) q38, mailKR m p46, spoolKR s p45, [Res.cells w15.heap.size (spoolKL D q38)], [Res.cells w14.heap.size (mailKL m p29)], [Res.cells w13.heap.size (spoolKL s p23)], [Res.cells k9 (spoolKL D q10)], spoolKR D q10, [Res.cells (w.heap.size + 1) (mailKL m pm)], [Res.cells (w.heap.size) (spoolKL s ps)]]) := ⟨S27.out.alloc (spoolKV D q71) 25⟩
          go_simp
          refine hK.out _ _ (by first | exact ⟨(SA29.out.cellsM 13 rfl).c 0 _ rfl, (SA29.out.cellsM 13 rfl).c 1 _ rfl, (SA29.out.cellsM 12 rfl).c 0 _ rfl, (SA29.out.cellsM 12 rfl).c 1 _ rfl, (SA29.out.cellsM 12 rfl).c 2 _ rfl, (SA29.out.cellsM 12 rfl).c 3 _ rfl⟩ | exact ⟨(SB29.out.cellsM 13 rfl).c 0 _ rfl, (SB29.out.cellsM 13 rfl).c 1 _ rfl, (SB29.out.cellsM 12 rfl).c 0 _ rfl, (SB29.out.cellsM 12 rfl).c 1 _ rfl, (SB29.out.cellsM 12 rfl).c 2 _ rfl, (SB29.out.cellsM 12 rfl).c 3 _ rfl⟩) (fun hHeld => ?_)
          clear hK K
          try simp only [Act.put, List.getElem_toArray, List.getElem_cons_succ, List.getElem_cons_zero, List.setIfInBounds_toArray, List.set_cons_zero, List.set_cons_succ]
          clear oc0 of0 oc1 of1
          refine wpAnyH_ready (rs := [11]) (by kernel_rfl) (by simp) ?_
          refine AllReadyH.cons rfl (fun K hK => ?_) AllReadyH.nil
          go_simp
          refine hK.out _ _ (by assumption) (fun hHeld => ?_)
          clear hK K
          try simp only [Act.put, List.getElem_toArray, List.getElem_cons_succ, List.getElem_cons_zero, List.setIfInBounds_toArray, List.set_cons_zero, List.set_cons_succ]
          refine wpAnyH_done (by kernel_rfl) ?_ _
          go_wp2_with fail
          go_meet
          exact ⟨w28.heap.size, q71, rfl, rfl, HFq71.out, by first | exact (Pt.prefix (As := [[Res.cells w28.heap.size (spoolKL D q71)], spoolKR D q71, spoolKR (spoolKmk 1 D) q38, mailKR m p46, spoolKR s p45, [Res.cells w15.heap.size (spoolKL D q38)], [Res.cells w14.heap.size (mailKL m p29)], [Res.cells w13.heap.size (spoolKL s p23)], [Res.cells k9 (spoolKL D q10)], spoolKR D q10, [Res.cells (w.heap.size + 1) (mailKL m pm)], [Res.cells (w.heap.size) (spoolKL s ps)]]) (Bs := [mailKR m p70, spoolKR s p69]) (Pt.bring ((Pt.bring ((Pt.bring ((Pt.bring ((Pt.bring ((Pt.bring ((Pt.bring ((Pt.bring ((Pt.bring ((Pt.bring ((Pt.bring ((Pt.bring (SA29.out) 13 rfl)) 13 rfl)) 13 rfl)) 13 rfl)) 13 rfl)) 13 rfl)) 13 rfl)) 13 rfl)) 13 rfl)) 13 rfl)) 11 rfl)) 11 rfl)) | exact (Pt.prefix (As := [[Res.cells w28.heap.size (spoolKL D q71)], spoolKR D q71, spoolKR (spoolKmk 1 D) q38, mailKR m p46, spoolKR s p45, [Res.cells w15.heap.size (spoolKL D q38)], [Res.cells w14.heap.size (mailKL m p29)], [Res.cells w13.heap.size (spoolKL s p23)], [Res.cells k9 (spoolKL D q10)], spoolKR D q10, [Res.cells (w.heap.size + 1) (mailKL m pm)], [Res.cells (w.heap.size) (spoolKL s ps)]]) (Bs := [mailKR m p70, spoolKR s p69]) (Pt.bring ((Pt.bring ((Pt.bring ((Pt.bring ((Pt.bring ((Pt.bring ((Pt.bring ((Pt.bring ((Pt.bring ((Pt.bring ((Pt.bring ((Pt.bring (SB29.out) 13 rfl)) 13 rfl)) 13 rfl)) 13 rfl)) 13 rfl)) 13 rfl)) 13 rfl)) 13 rfl)) 13 rfl)) 13 rfl)) 11 rfl)) 11 rfl))⟩
        · have S27 : Seal (Pt w (w27.alloc (.cells #[.int .i64 0, .slice none 0 0] 25)) [[Res.cells w27.heap.size ((#[.int .i64 0, .slice none 0 0] : Array Value).toList)], mailKR m p70, spoolKR s p69, spoolKR (spoolKmk 1 D) q38, mailKR m p46, spoolKR s p45, [Res.cells w15.heap.size (spoolKL D q38)], [Res.cells w14.heap.size (mailKL m p29)], [Res.cells w13.heap.size (spoolKL s p23)], [Res.cells k9 (spoolKL D q10)], spoolKR D q10, [Res.cells (w.heap.size + 1) (mailKL m pm)], [Res.cells (w.heap.size) (spoolKL s ps)]]) := ⟨S26.out.alloc #[.int .i64 0, .slice none 0 0] 25⟩
          go_simp
          refine hK.out _ _ ⟨(S27.out.cellsM 12 rfl).c 0 _ rfl, (S27.out.cellsM 12 rfl).c 1 _ rfl, (S27.out.cellsM 11 rfl).c 0 _ rfl, (S27.out.cellsM 11 rfl).c 1 _ rfl, (S27.out.cellsM 11 rfl).c 2 _ rfl, (S27.out.cellsM 11 rfl).c 3 _ rfl⟩ (fun hHeld => ?_)
          clear hK K
          try simp only [Act.put, List.getElem_toArray, List.getElem_cons_succ, List.getElem_cons_zero, List.setIfInBounds_toArray, List.set_cons_zero, List.set_cons_succ]
          refine wpAnyH_ready (rs := [5]) (by kernel_rfl) (by simp) ?_
          refine AllReadyH.cons rfl (fun K hK => ?_) AllReadyH.nil
          try dsimp only at hHeld
          go_split_ands
          go_simp
          refine (CI.out _ _ (HM.out.below S27.out.below (Nat.le_refl _)) p69 p70 2 1 S27.out rfl rfl HFp69.out HFp70.out).mono ?_
          rintro e w29 ⟨q72, rfl, hfq72, hk⟩
          have HFq72 : Seal _ := ⟨hfq72⟩
          have S28 : Seal (Pt w w29 [spoolKR D q72, [Res.cells w27.heap.size ((#[.int .i64 0, .slice none 0 0] : Array Value).toList)], mailKR m p70, spoolKR s p69, spoolKR (spoolKmk 1 D) q38, mailKR m p46, spoolKR s p45, [Res.cells w15.heap.size (spoolKL D q38)], [Res.cells w14.heap.size (mailKL m p29)], [Res.cells w13.heap.size (spoolKL s p23)], [Res.cells k9 (spoolKL D q10)], spoolKR D q10, [Res.cells (w.heap.size + 1) (mailKL m pm)], [Res.cells (w.heap.size) (spoolKL s ps)]]) := ⟨S27.out.join hk⟩
          clear hk hfq72
          refine hK.out _ _ ⟨(S28.out.cellsM 13 rfl).c 0 _ rfl, (S28.out.cellsM 13 rfl).c 1 _ rfl, (S28.out.cellsM 12 rfl).c 0 _ rfl, (S28.out.cellsM 12 rfl).c 1 _ rfl, (S28.out.cellsM 12 rfl).c 2 _ rfl, (S28.out.cellsM 12 rfl).c 3 _ rfl⟩ (fun hHeld => ?_)
          clear hK K
          try simp only [Act.put, List.getElem_toArray, List.getElem_cons_succ, List.getElem_cons_zero, List.setIfInBounds_toArray, List.set_cons_zero, List.set_cons_succ]
          (refine wpAnyH_take (i := 6) (v := ?_) rfl (by kernel_rfl) (by kernel_rfl) (by kernel_rfl) (fun _ _ _ h => h) (Or.inl ⟨by rfl, ?_⟩) (by assumption) ?_; rotate_left; (intro w hSw; (try dsimp only at hSw); go_split_ands; go_simp; first | done | with_reducible rfl); rotate_left; simp only [Act.put, List.getElem_toArray, List.getElem_cons_succ, List.getElem_cons_zero, List.setIfInBounds_toArray, List.set_cons_succ, List.set_cons_zero])
          (refine wpAnyH_take (i := 7) (v := ?_) rfl (by kernel_rfl) (by kernel_rfl) (by kernel_rfl) (fun _ _ _ h => h) (Or.inl ⟨by rfl, ?_⟩) (by assumption) ?_; rotate_left; (intro w hSw; (try dsimp only at hSw); go_split_ands; go_simp; first | done | with_reducible rfl); rotate_left; simp only [Act.put, List.getElem_toArray, List.getElem_cons_succ, List.getElem_cons_zero, List.setIfInBounds_toArray, List.set_cons_succ, List.set_cons_zero])
          (refine wpAnyH_take (i := 8) (v := ?_) rfl (by kernel_rfl) (by kernel_rfl) (by kernel_rfl) (fun _ _ _ h => h) (Or.inl ⟨by rfl, ?_⟩) (by assumption) ?_; rotate_left; (intro w hSw; (try dsimp only at hSw); go_split_ands; go_simp; first | done | with_reducible rfl); rotate_left; simp only [Act.put, List.getElem_toArray, List.getElem_cons_succ, List.getElem_cons_zero, List.setIfInBounds_toArray, List.set_cons_succ, List.set_cons_zero])
          refine wpAnyH_ready (rs := [10]) (by kernel_rfl) (by simp) ?_
          refine AllReadyH.cons rfl (fun K hK => ?_) AllReadyH.nil
          have S29 : Seal (Pt w w29 [[Res.cells w27.heap.size ((#[.int .i64 0, .slice none 0 0] : Array Value).toList)], spoolKR D q72, mailKR m p70, spoolKR s p69, spoolKR (spoolKmk 1 D) q38, mailKR m p46, spoolKR s p45, [Res.cells w15.heap.size (spoolKL D q38)], [Res.cells w14.heap.size (mailKL m p29)], [Res.cells w13.heap.size (spoolKL s p23)], [Res.cells k9 (spoolKL D q10)], spoolKR D q10, [Res.cells (w.heap.size + 1) (mailKL m pm)], [Res.cells (w.heap.size) (spoolKL s ps)]]) := ⟨S28.out.bring 1 rfl⟩
          have oc0 := (S29.out.cellsM 0 rfl).c 0 _ rfl
          have of0 := (S29.out.cellsM 0 rfl).f 0 (by simp)
          have oc1 := (S29.out.cellsM 0 rfl).c 1 _ rfl
          have of1 := (S29.out.cellsM 0 rfl).f 1 (by simp)
          have S30 : Seal (Pt w ((w29.setCell ⟨w27.heap.size, 0, none⟩ (.int .i64 D.last)).setCell ⟨w27.heap.size, 1, none⟩ (.slice q72.a D.items.length q72.c)) [[Res.cells w27.heap.size (spoolKL D q72)], spoolKR D q72, mailKR m p70, spoolKR s p69, spoolKR (spoolKmk 1 D) q38, mailKR m p46, spoolKR s p45, [Res.cells w15.heap.size (spoolKL D q38)], [Res.cells w14.heap.size (mailKL m p29)], [Res.cells w13.heap.size (spoolKL s p23)], [Res.cells k9 (spoolKL D q10)], spoolKR D q10, [Res.cells (w.heap.size + 1) (mailKL m pm)], [Res.cells (w.heap.size) (spoolKL s ps)]]) := ⟨((S29.out).set 0 (.int .i64 D.last) (by simp)).set 1 (.slice q72.a D.items.length q72.c) (by simp)⟩
          go_simp
          refine hK.out _ _ ⟨(S30.out.cellsM 13 rfl).c 0 _ rfl, (S30.out.cellsM 13 rfl).c 1 _ rfl, (S30.out.cellsM 12 rfl).c 0 _ rfl, (S30.out.cellsM 12 rfl).c 1 _ rfl, (S30.out.cellsM 12 rfl).c 2 _ rfl, (S30.out.cellsM 12 rfl).c 3 _ rfl⟩ (fun hHeld => ?_)
          clear hK K
          try simp only [Act.put, List.getElem_toArray, List.getElem_cons_succ, List.getElem_cons_zero, List.setIfInBounds_toArray, List.set_cons_zero, List.set_cons_succ]
          clear oc0 of0 oc1 of1
          refine wpAnyH_ready (rs := [11]) (by kernel_rfl) (by simp) ?_
          refine AllReadyH.cons rfl (fun K hK => ?_) AllReadyH.nil
          go_simp
          refine hK.out _ _ (by assumption) (fun hHeld => ?_)
          clear hK K
          try simp only [Act.put, List.getElem_toArray, List.getElem_cons_succ, List.getElem_cons_zero, List.setIfInBounds_toArray, List.set_cons_zero, List.set_cons_succ]
          refine wpAnyH_done (by kernel_rfl) ?_ _
          go_wp2_with fail
          go_meet
          exact ⟨w27.heap.size, q72, rfl, rfl, HFq72.out, by first | exact (Pt.prefix (As := [[Res.cells w27.heap.size (spoolKL D q72)], spoolKR D q72, spoolKR (spoolKmk 1 D) q38, mailKR m p46, spoolKR s p45, [Res.cells w15.heap.size (spoolKL D q38)], [Res.cells w14.heap.size (mailKL m p29)], [Res.cells w13.heap.size (spoolKL s p23)], [Res.cells k9 (spoolKL D q10)], spoolKR D q10, [Res.cells (w.heap.size + 1) (mailKL m pm)], [Res.cells (w.heap.size) (spoolKL s ps)]]) (Bs := [mailKR m p70, spoolKR s p69]) (Pt.bring ((Pt.bring ((Pt.bring ((Pt.bring ((Pt.bring ((Pt.bring ((Pt.bring ((Pt.bring ((Pt.bring ((Pt.bring ((Pt.bring ((Pt.bring (S30.out) 13 rfl)) 13 rfl)) 13 rfl)) 13 rfl)) 13 rfl)) 13 rfl)) 13 rfl)) 13 rfl)) 13 rfl)) 13 rfl)) 11 rfl)) 11 rfl))⟩
      · have S26 : Seal (Pt w (w26.alloc (.cells #[.int .i64 0, .slice none 0 0] 25)) [[Res.cells w26.heap.size ((#[.int .i64 0, .slice none 0 0] : Array Value).toList)], spoolKR s p69, spoolKR (spoolKmk 1 D) q38, mailKR m p46, spoolKR s p45, [Res.cells w15.heap.size (spoolKL D q38)], [Res.cells w14.heap.size (mailKL m p29)], [Res.cells w13.heap.size (spoolKL s p23)], [Res.cells k9 (spoolKL D q10)], spoolKR D q10, [Res.cells (w.heap.size + 1) (mailKL m pm)], [Res.cells (w.heap.size) (spoolKL s ps)]]) := ⟨S25.out.alloc #[.int .i64 0, .slice none 0 0] 25⟩
        go_simp
        refine hK.out _ _ ⟨(S26.out.cellsM 11 rfl).c 0 _ rfl, (S26.out.cellsM 11 rfl).c 1 _ rfl, (S26.out.cellsM 10 rfl).c 0 _ rfl, (S26.out.cellsM 10 rfl).c 1 _ rfl, (S26.out.cellsM 10 rfl).c 2 _ rfl, (S26.out.cellsM 10 rfl).c 3 _ rfl⟩ (fun hHeld => ?_)
        clear hK K
        try simp only [Act.put, List.getElem_toArray, List.getElem_cons_succ, List.getElem_cons_zero, List.setIfInBounds_toArray, List.set_cons_zero, List.set_cons_succ]
        refine wpAnyH_ready (rs := [3]) (by kernel_rfl) (by simp) ?_
        refine AllReadyH.cons rfl (fun K hK => ?_) AllReadyH.nil
        try dsimp only at hHeld
        go_split_ands
        go_simp
        refine (toMail_K m pm _ (mailK_below HAm.out S26.out.below (Nat.le_refl _)) HZm.out).mono ?_
        rintro e w30 ⟨p73, rfl, hf, hk⟩
        have HFp73 : Seal _ := ⟨hf⟩
        have S27 : Seal (Pt w w30 [mailKR m p73, [Res.cells w26.heap.size ((#[.int .i64 0, .slice none 0 0] : Array Value).toList)], spoolKR s p69, spoolKR (spoolKmk 1 D) q38, mailKR m p46, spoolKR s p45, [Res.cells w15.heap.size (spoolKL D q38)], [Res.cells w14.heap.size (mailKL m p29)], [Res.cells w13.heap.size (spoolKL s p23)], [Res.cells k9 (spoolKL D q10)], spoolKR D q10, [Res.cells (w.heap.size + 1) (mailKL m pm)], [Res.cells (w.heap.size) (spoolKL s ps)]]) := ⟨S26.out.join hk⟩
        clear hk hf
        refine hK.out _ _ ⟨(S27.out.cellsM 12 rfl).c 0 _ rfl, (S27.out.cellsM 12 rfl).c 1 _ rfl, (S27.out.cellsM 11 rfl).c 0 _ rfl, (S27.out.cellsM 11 rfl).c 1 _ rfl, (S27.out.cellsM 11 rfl).c 2 _ rfl, (S27.out.cellsM 11 rfl).c 3 _ rfl⟩ (fun hHeld => ?_)
        clear hK K
        try simp only [Act.put, List.getElem_toArray, List.getElem_cons_succ, List.getElem_cons_zero, List.setIfInBounds_toArray, List.set_cons_zero, List.set_cons_succ]
        refine wpAnyH_ready (rs := [5]) (by kernel_rfl) (by simp) ?_
        refine AllReadyH.cons rfl (fun K hK => ?_) AllReadyH.nil
        try dsimp only at hHeld
        go_split_ands
        go_simp
        refine (CI.out _ _ (HM.out.below S27.out.below (Nat.le_refl _)) p69 p73 2 0 S27.out rfl rfl HFp69.out HFp73.out).mono ?_
        rintro e w31 ⟨q74, rfl, hfq74, hk⟩
        have HFq74 : Seal _ := ⟨hfq74⟩
        have S28 : Seal (Pt w w31 [spoolKR D q74, mailKR m p73, [Res.cells w26.heap.size ((#[.int .i64 0, .slice none 0 0] : Array Value).toList)], spoolKR s p69, spoolKR (spoolKmk 1 D) q38, mailKR m p46, spoolKR s p45, [Res.cells w15.heap.size (spoolKL D q38)], [Res.cells w14.heap.size (mailKL m p29)], [Res.cells w13.heap.size (spoolKL s p23)], [Res.cells k9 (spoolKL D q10)], spoolKR D q10, [Res.cells (w.heap.size + 1) (mailKL m pm)], [Res.cells (w.heap.size) (spoolKL s ps)]]) := ⟨S27.out.join hk⟩
        clear hk hfq74
        refine hK.out _ _ ⟨(S28.out.cellsM 13 rfl).c 0 _ rfl, (S28.out.cellsM 13 rfl).c 1 _ rfl, (S28.out.cellsM 12 rfl).c 0 _ rfl, (S28.out.cellsM 12 rfl).c 1 _ rfl, (S28.out.cellsM 12 rfl).c 2 _ rfl, (S28.out.cellsM 12 rfl).c 3 _ rfl⟩ (fun hHeld => ?_)
        clear hK K
        try simp only [Act.put, List.getElem_toArray, List.getElem_cons_succ, List.getElem_cons_zero, List.setIfInBounds_toArray, List.set_cons_zero, List.set_cons_succ]
        (refine wpAnyH_take (i := 6) (v := ?_) rfl (by kernel_rfl) (by kernel_rfl) (by kernel_rfl) (fun _ _ _ h => h) (Or.inl ⟨by rfl, ?_⟩) (by assumption) ?_; rotate_left; (intro w hSw; (try dsimp only at hSw); go_split_ands; go_simp; first | done | with_reducible rfl); rotate_left; simp only [Act.put, List.getElem_toArray, List.getElem_cons_succ, List.getElem_cons_zero, List.setIfInBounds_toArray, List.set_cons_succ, List.set_cons_zero])
        (refine wpAnyH_take (i := 7) (v := ?_) rfl (by kernel_rfl) (by kernel_rfl) (by kernel_rfl) (fun _ _ _ h => h) (Or.inl ⟨by rfl, ?_⟩) (by assumption) ?_; rotate_left; (intro w hSw; (try dsimp only at hSw); go_split_ands; go_simp; first | done | with_reducible rfl); rotate_left; simp only [Act.put, List.getElem_toArray, List.getElem_cons_succ, List.getElem_cons_zero, List.setIfInBounds_toArray, List.set_cons_succ, List.set_cons_zero])
        (refine wpAnyH_take (i := 8) (v := ?_) rfl (by kernel_rfl) (by kernel_rfl) (by kernel_rfl) (fun _ _ _ h => h) (Or.inl ⟨by rfl, ?_⟩) (by assumption) ?_; rotate_left; (intro w hSw; (try dsimp only at hSw); go_split_ands; go_simp; first | done | with_reducible rfl); rotate_left; simp only [Act.put, List.getElem_toArray, List.getElem_cons_succ, List.getElem_cons_zero, List.setIfInBounds_toArray, List.set_cons_succ, List.set_cons_zero])
        refine wpAnyH_ready (rs := [10]) (by kernel_rfl) (by simp) ?_
        refine AllReadyH.cons rfl (fun K hK => ?_) AllReadyH.nil
        have S29 : Seal (Pt w w31 [[Res.cells w26.heap.size ((#[.int .i64 0, .slice none 0 0] : Array Value).toList)], spoolKR D q74, mailKR m p73, spoolKR s p69, spoolKR (spoolKmk 1 D) q38, mailKR m p46, spoolKR s p45, [Res.cells w15.heap.size (spoolKL D q38)], [Res.cells w14.heap.size (mailKL m p29)], [Res.cells w13.heap.size (spoolKL s p23)], [Res.cells k9 (spoolKL D q10)], spoolKR D q10, [Res.cells (w.heap.size + 1) (mailKL m pm)], [Res.cells (w.heap.size) (spoolKL s ps)]]) := ⟨S28.out.bring 2 rfl⟩
        have oc0 := (S29.out.cellsM 0 rfl).c 0 _ rfl
        have of0 := (S29.out.cellsM 0 rfl).f 0 (by simp)
        have oc1 := (S29.out.cellsM 0 rfl).c 1 _ rfl
        have of1 := (S29.out.cellsM 0 rfl).f 1 (by simp)
        have S30 : Seal (Pt w ((w31.setCell ⟨w26.heap.size, 0, none⟩ (.int .i64 D.last)).setCell ⟨w26.heap.size, 1, none⟩ (.slice q74.a D.items.length q74.c)) [[Res.cells w26.heap.size (spoolKL D q74)], spoolKR D q74, mailKR m p73, spoolKR s p69, spoolKR (spoolKmk 1 D) q38, mailKR m p46, spoolKR s p45, [Res.cells w15.heap.size (spoolKL D q38)], [Res.cells w14.heap.size (mailKL m p29)], [Res.cells w13.heap.size (spoolKL s p23)], [Res.cells k9 (spoolKL D q10)], spoolKR D q10, [Res.cells (w.heap.size + 1) (mailKL m pm)], [Res.cells (w.heap.size) (spoolKL s ps)]]) := ⟨((S29.out).set 0 (.int .i64 D.last) (by simp)).set 1 (.slice q74.a D.items.length q74.c) (by simp)⟩
        go_simp
        refine hK.out _ _ ⟨(S30.out.cellsM 13 rfl).c 0 _ rfl, (S30.out.cellsM 13 rfl).c 1 _ rfl, (S30.out.cellsM 12 rfl).c 0 _ rfl, (S30.out.cellsM 12 rfl).c 1 _ rfl, (S30.out.cellsM 12 rfl).c 2 _ rfl, (S30.out.cellsM 12 rfl).c 3 _ rfl⟩ (fun hHeld => ?_)
        clear hK K
        try simp only [Act.put, List.getElem_toArray, List.getElem_cons_succ, List.getElem_cons_zero, List.setIfInBounds_toArray, List.set_cons_zero, List.set_cons_succ]
        clear oc0 of0 oc1 of1
        refine wpAnyH_ready (rs := [11]) (by kernel_rfl) (by simp) ?_
        refine AllReadyH.cons rfl (fun K hK => ?_) AllReadyH.nil
        go_simp
        refine hK.out _ _ (by assumption) (fun hHeld => ?_)
        clear hK K
        try simp only [Act.put, List.getElem_toArray, List.getElem_cons_succ, List.getElem_cons_zero, List.setIfInBounds_toArray, List.set_cons_zero, List.set_cons_succ]
        refine wpAnyH_done (by kernel_rfl) ?_ _
        go_wp2_with fail
        go_meet
        exact ⟨w26.heap.size, q74, rfl, rfl, HFq74.out, by first | exact (Pt.prefix (As := [[Res.cells w26.heap.size (spoolKL D q74)], spoolKR D q74, spoolKR (spoolKmk 1 D) q38, mailKR m p46, spoolKR s p45, [Res.cells w15.heap.size (spoolKL D q38)], [Res.cells w14.heap.size (mailKL m p29)], [Res.cells w13.heap.size (spoolKL s p23)], [Res.cells k9 (spoolKL D q10)], spoolKR D q10, [Res.cells (w.heap.size + 1) (mailKL m pm)], [Res.cells (w.heap.size) (spoolKL s ps)]]) (Bs := [mailKR m p73, spoolKR s p69]) (Pt.bring ((Pt.bring ((Pt.bring ((Pt.bring ((Pt.bring ((Pt.bring ((Pt.bring ((Pt.bring ((Pt.bring ((Pt.bring ((Pt.bring ((Pt.bring (S30.out) 13 rfl)) 13 rfl)) 13 rfl)) 13 rfl)) 13 rfl)) 13 rfl)) 13 rfl)) 13 rfl)) 13 rfl)) 13 rfl)) 11 rfl)) 11 rfl))⟩
    · have S25 : Seal (Pt w (w25.drew.alloc (.cells #[.int .i64 0, .slice none 0 0] 25)) [[Res.cells w25.heap.size ((#[.int .i64 0, .slice none 0 0] : Array Value).toList)], spoolKR (spoolKmk 1 D) q38, mailKR m p46, spoolKR s p45, [Res.cells w15.heap.size (spoolKL D q38)], [Res.cells w14.heap.size (mailKL m p29)], [Res.cells w13.heap.size (spoolKL s p23)], [Res.cells k9 (spoolKL D q10)], spoolKR D q10, [Res.cells (w.heap.size + 1) (mailKL m pm)], [Res.cells (w.heap.size) (spoolKL s ps)]]) := ⟨S24.out.alloc #[.int .i64 0, .slice none 0 0] 25⟩
      go_simp
      refine hK.out _ _ ⟨(S25.out.cellsM 10 rfl).c 0 _ rfl, (S25.out.cellsM 10 rfl).c 1 _ rfl, (S25.out.cellsM 9 rfl).c 0 _ rfl, (S25.out.cellsM 9 rfl).c 1 _ rfl, (S25.out.cellsM 9 rfl).c 2 _ rfl, (S25.out.cellsM 9 rfl).c 3 _ rfl⟩ (fun hHeld => ?_)
      clear hK K
      try simp only [Act.put, List.getElem_toArray, List.getElem_cons_succ, List.getElem_cons_zero, List.setIfInBounds_toArray, List.set_cons_zero, List.set_cons_succ]
      refine wpAnyH_ready (rs := [1]) (by kernel_rfl) (by simp) ?_
      refine AllReadyH.cons rfl (fun K hK => ?_) AllReadyH.nil
      try dsimp only at hHeld
      go_split_ands
      go_simp
      refine (toSpool_K s ps _ (spoolK_below HAs.out S25.out.below (Nat.le_refl _)) HZs.out).mono ?_
      rintro e w32 ⟨p75, rfl, hf, hk⟩
      have HFp75 : Seal _ := ⟨hf⟩
      have S26 : Seal (Pt w w32 [spoolKR s p75, [Res.cells w25.heap.size ((#[.int .i64 0, .slice none 0 0] : Array Value).toList)], spoolKR (spoolKmk 1 D) q38, mailKR m p46, spoolKR s p45, [Res.cells w15.heap.size (spoolKL D q38)], [Res.cells w14.heap.size (mailKL m p29)], [Res.cells w13.heap.size (spoolKL s p23)], [Res.cells k9 (spoolKL D q10)], spoolKR D q10, [Res.cells (w.heap.size + 1) (mailKL m pm)], [Res.cells (w.heap.size) (spoolKL s ps)]]) := ⟨S25.out.join hk⟩
      clear hk hf
      refine hK.out _ _ ⟨(S26.out.cellsM 11 rfl).c 0 _ rfl, (S26.out.cellsM 11 rfl).c 1 _ rfl, (S26.out.cellsM 10 rfl).c 0 _ rfl, (S26.out.cellsM 10 rfl).c 1 _ rfl, (S26.out.cellsM 10 rfl).c 2 _ rfl, (S26.out.cellsM 10 rfl).c 3 _ rfl⟩ (fun hHeld => ?_)
      clear hK K
      try simp only [Act.put, List.getElem_toArray, List.getElem_cons_succ, List.getElem_cons_zero, List.setIfInBounds_toArray, List.set_cons_zero, List.set_cons_succ]
      refine wpAnyH_ready (rs := [3]) (by kernel_rfl) (by simp) ?_
      refine AllReadyH.cons rfl (fun K hK => ?_) AllReadyH.nil
      try dsimp only at hHeld
      go_split_ands
      go_simp
      refine (toMail_K m pm _ (mailK_below HAm.out S26.out.below (Nat.le_refl _)) HZm.out).mono ?_
      rintro e w33 ⟨p76, rfl, hf, hk⟩
      have HFp76 : Seal _ := ⟨hf⟩
      have S27 : Seal (Pt w w33 [mailKR m p76, spoolKR s p75, [Res.cells w25.heap.size ((#[.int .i64 0, .slice none 0 0] : Array Value).toList)], spoolKR (spoolKmk 1 D) q38, mailKR m p46, spoolKR s p45, [Res.cells w15.heap.size (spoolKL D q38)], [Res.cells w14.heap.size (mailKL m p29)], [Res.cells w13.heap.size (spoolKL s p23)], [Res.cells k9 (spoolKL D q10)], spoolKR D q10, [Res.cells (w.heap.size + 1) (mailKL m pm)], [Res.cells (w.heap.size) (spoolKL s ps)]]) := ⟨S26.out.join hk⟩
      clear hk hf
      refine hK.out _ _ ⟨(S27.out.cellsM 12 rfl).c 0 _ rfl, (S27.out.cellsM 12 rfl).c 1 _ rfl, (S27.out.cellsM 11 rfl).c 0 _ rfl, (S27.out.cellsM 11 rfl).c 1 _ rfl, (S27.out.cellsM 11 rfl).c 2 _ rfl, (S27.out.cellsM 11 rfl).c 3 _ rfl⟩ (fun hHeld => ?_)
      clear hK K
      try simp only [Act.put, List.getElem_toArray, List.getElem_cons_succ, List.getElem_cons_zero, List.setIfInBounds_toArray, List.set_cons_zero, List.set_cons_succ]
      refine wpAnyH_ready (rs := [5]) (by kernel_rfl) (by simp) ?_
      refine AllReadyH.cons rfl (fun K hK => ?_) AllReadyH.nil
      try dsimp only at hHeld
      go_split_ands
      go_simp
      refine (CI.out _ _ (HM.out.below S27.out.below (Nat.le_refl _)) p75 p76 1 0 S27.out rfl rfl HFp75.out HFp76.out).mono ?_
      rintro e w34 ⟨q77, rfl, hfq77, hk⟩
      have HFq77 : Seal _ := ⟨hfq77⟩
      have S28 : Seal (Pt w w34 [spoolKR D q77, mailKR m p76, spoolKR s p75, [Res.cells w25.heap.size ((#[.int .i64 0, .slice none 0 0] : Array Value).toList)], spoolKR (spoolKmk 1 D) q38, mailKR m p46, spoolKR s p45, [Res.cells w15.heap.size (spoolKL D q38)], [Res.cells w14.heap.size (mailKL m p29)], [Res.cells w13.heap.size (spoolKL s p23)], [Res.cells k9 (spoolKL D q10)], spoolKR D q10, [Res.cells (w.heap.size + 1) (mailKL m pm)], [Res.cells (w.heap.size) (spoolKL s ps)]]) := ⟨S27.out.join hk⟩
      clear hk hfq77
      refine hK.out _ _ ⟨(S28.out.cellsM 13 rfl).c 0 _ rfl, (S28.out.cellsM 13 rfl).c 1 _ rfl, (S28.out.cellsM 12 rfl).c 0 _ rfl, (S28.out.cellsM 12 rfl).c 1 _ rfl, (S28.out.cellsM 12 rfl).c 2 _ rfl, (S28.out.cellsM 12 rfl).c 3 _ rfl⟩ (fun hHeld => ?_)
      clear hK K
      try simp only [Act.put, List.getElem_toArray, List.getElem_cons_succ, List.getElem_cons_zero, List.setIfInBounds_toArray, List.set_cons_zero, List.set_cons_succ]
      (refine wpAnyH_take (i := 6) (v := ?_) rfl (by kernel_rfl) (by kernel_rfl) (by kernel_rfl) (fun _ _ _ h => h) (Or.inl ⟨by rfl, ?_⟩) (by assumption) ?_; rotate_left; (intro w hSw; (try dsimp only at hSw); go_split_ands; go_simp; first | done | with_reducible rfl); rotate_left; simp only [Act.put, List.getElem_toArray, List.getElem_cons_succ, List.getElem_cons_zero, List.setIfInBounds_toArray, List.set_cons_succ, List.set_cons_zero])
      (refine wpAnyH_take (i := 7) (v := ?_) rfl (by kernel_rfl) (by kernel_rfl) (by kernel_rfl) (fun _ _ _ h => h) (Or.inl ⟨by rfl, ?_⟩) (by assumption) ?_; rotate_left; (intro w hSw; (try dsimp only at hSw); go_split_ands; go_simp; first | done | with_reducible rfl); rotate_left; simp only [Act.put, List.getElem_toArray, List.getElem_cons_succ, List.getElem_cons_zero, List.setIfInBounds_toArray, List.set_cons_succ, List.set_cons_zero])
      (refine wpAnyH_take (i := 8) (v := ?_) rfl (by kernel_rfl) (by kernel_rfl) (by kernel_rfl) (fun _ _ _ h => h) (Or.inl ⟨by rfl, ?_⟩) (by assumption) ?_; rotate_left; (intro w hSw; (try dsimp only at hSw); go_split_ands; go_simp; first | done | with_reducible rfl); rotate_left; simp only [Act.put, List.getElem_toArray, List.getElem_cons_succ, List.getElem_cons_zero, List.setIfInBounds_toArray, List.set_cons_succ, List.set_cons_zero])
      refine wpAnyH_ready (rs := [10]) (by kernel_rfl) (by simp) ?_
      refine AllReadyH.cons rfl (fun K hK => ?_) AllReadyH.nil
      have S29 : Seal (Pt w w34 [[Res.cells w25.heap.size ((#[.int .i64 0, .slice none 0 0] : Array Value).toList)], spoolKR D q77, mailKR m p76, spoolKR s p75, spoolKR (spoolKmk 1 D) q38, mailKR m p46, spoolKR s p45, [Res.cells w15.heap.size (spoolKL D q38)], [Res.cells w14.heap.size (mailKL m p29)], [Res.cells w13.heap.size (spoolKL s p23)], [Res.cells k9 (spoolKL D q10)], spoolKR D q10, [Res.cells (w.heap.size + 1) (mailKL m pm)], [Res.cells (w.heap.size) (spoolKL s ps)]]) := ⟨S28.out.bring 3 rfl⟩
      have oc0 := (S29.out.cellsM 0 rfl).c 0 _ rfl
      have of0 := (S29.out.cellsM 0 rfl).f 0 (by simp)
      have oc1 := (S29.out.cellsM 0 rfl).c 1 _ rfl
      have of1 := (S29.out.cellsM 0 rfl).f 1 (by simp)
      have S30 : Seal (Pt w ((w34.setCell ⟨w25.heap.size, 0, none⟩ (.int .i64 D.last)).setCell ⟨w25.heap.size, 1, none⟩ (.slice q77.a D.items.length q77.c)) [[Res.cells w25.heap.size (spoolKL D q77)], spoolKR D q77, mailKR m p76, spoolKR s p75, spoolKR (spoolKmk 1 D) q38, mailKR m p46, spoolKR s p45, [Res.cells w15.heap.size (spoolKL D q38)], [Res.cells w14.heap.size (mailKL m p29)], [Res.cells w13.heap.size (spoolKL s p23)], [Res.cells k9 (spoolKL D q10)], spoolKR D q10, [Res.cells (w.heap.size + 1) (mailKL m pm)], [Res.cells (w.heap.size) (spoolKL s ps)]]) := ⟨((S29.out).set 0 (.int .i64 D.last) (by simp)).set 1 (.slice q77.a D.items.length q77.c) (by simp)⟩
      go_simp
      refine hK.out _ _ ⟨(S30.out.cellsM 13 rfl).c 0 _ rfl, (S30.out.cellsM 13 rfl).c 1 _ rfl, (S30.out.cellsM 12 rfl).c 0 _ rfl, (S30.out.cellsM 12 rfl).c 1 _ rfl, (S30.out.cellsM 12 rfl).c 2 _ rfl, (S30.out.cellsM 12 rfl).c 3 _ rfl⟩ (fun hHeld => ?_)
      clear hK K
      try simp only [Act.put, List.getElem_toArray, List.getElem_cons_succ, List.getElem_cons_zero, List.setIfInBounds_toArray, List.set_cons_zero, List.set_cons_succ]
      clear oc0 of0 oc1 of1
      refine wpAnyH_ready (rs := [11]) (by kernel_rfl) (by simp) ?_
      refine AllReadyH.cons rfl (fun K hK => ?_) AllReadyH.nil
      go_simp
      refine hK.out _ _ (by assumption) (fun hHeld => ?_)
      clear hK K
      try simp only [Act.put, List.getElem_toArray, List.getElem_cons_succ, List.getElem_cons_zero, List.setIfInBounds_toArray, List.set_cons_zero, List.set_cons_succ]
      refine wpAnyH_done (by kernel_rfl) ?_ _
      go_wp2_with fail
      go_meet
      exact ⟨w25.heap.size, q77, rfl, rfl, HFq77.out, by first | exact (Pt.prefix (As := [[Res.cells w25.heap.size (spoolKL D q77)], spoolKR D q77, spoolKR (spoolKmk 1 D) q38, mailKR m p46, spoolKR s p45, [Res.cells w15.heap.size (spoolKL D q38)], [Res.cells w14.heap.size (mailKL m p29)], [Res.cells w13.heap.size (spoolKL s p23)], [Res.cells k9 (spoolKL D q10)], spoolKR D q10, [Res.cells (w.heap.size + 1) (mailKL m pm)], [Res.cells (w.heap.size) (spoolKL s ps)]]) (Bs := [mailKR m p76, spoolKR s p75]) (Pt.bring ((Pt.bring ((Pt.bring ((Pt.bring ((Pt.bring ((Pt.bring ((Pt.bring ((Pt.bring ((Pt.bring ((Pt.bring ((Pt.bring ((Pt.bring (S30.out) 13 rfl)) 13 rfl)) 13 rfl)) 13 rfl)) 13 rfl)) 13 rfl)) 13 rfl)) 13 rfl)) 13 rfl)) 13 rfl)) 11 rfl)) 11 rfl))⟩
  case rest =>
  obtain ⟨k67, q68, rfl, rfl, hf, hS⟩ := hcut
  have HFq68 : Seal _ := ⟨hf⟩
  have S24 : Seal (Pt w _ [[Res.cells k67 (spoolKL D q68)], spoolKR D q68, spoolKR (spoolKmk 1 D) q38, mailKR m p46, spoolKR s p45, [Res.cells w15.heap.size (spoolKL D q38)], [Res.cells w14.heap.size (mailKL m p29)], [Res.cells w13.heap.size (spoolKL s p23)], [Res.cells k9 (spoolKL D q10)], spoolKR D q10, [Res.cells (w.heap.size + 1) (mailKL m pm)], [Res.cells (w.heap.size) (spoolKL s ps)]]) := ⟨hS⟩
  clear hf hS S23
  generalize wc = w35 at *
  have g78 := (S24.out.cellsM 0 rfl).c 0 _ rfl
  have g79 := (S24.out.cellsM 0 rfl).c 1 _ rfl
  have g80 := (S24.out.cellsM 0 rfl).lt
  have g81 := (S24.out.cellsM 8 rfl).c 0 _ rfl
  have g82 := (S24.out.cellsM 8 rfl).c 1 _ rfl
  have g83 := (S24.out.cellsM 8 rfl).lt
  go_wp2_with fail
  refine (eqSpool_K D q68 q10 _ (spoolK_read HFq68.out (S24.out.nth 1 rfl)) (spoolK_read HFq10.out (S24.out.nth 9 rfl)) HZD.out).mono ?_
  rintro e w36 ⟨rfl, hb⟩
  have S25 : Seal (Pt w w36 [[Res.cells k67 (spoolKL D q68)], spoolKR D q68, spoolKR (spoolKmk 1 D) q38, mailKR m p46, spoolKR s p45, [Res.cells w15.heap.size (spoolKL D q38)], [Res.cells w14.heap.size (mailKL m p29)], [Res.cells w13.heap.size (spoolKL s p23)], [Res.cells k9 (spoolKL D q10)], spoolKR D q10, [Res.cells (w.heap.size + 1) (mailKL m pm)], [Res.cells (w.heap.size) (spoolKL s ps)]]) := ⟨S24.out.later hb⟩
  clear hb
  clear S24 g78 g79 g80 g81 g82 g83
  have g84 := (S25.out.cellsM 5 rfl).c 0 _ rfl
  have g85 := (S25.out.cellsM 5 rfl).c 1 _ rfl
  have g86 := (S25.out.cellsM 5 rfl).lt
  go_wp2_with fail
  refine (heldSpool_K 1 D q38 _ (spoolK_read (spoolK_mkF HFq38.out) (S25.out.nth 2 rfl)) HZD.out PN2.out).mono ?_
  rw [HN2.out]
  rintro e w37 ⟨rfl, hb⟩
  have S26 : Seal (Pt w w37 [[Res.cells k67 (spoolKL D q68)], spoolKR D q68, spoolKR (spoolKmk 1 D) q38, mailKR m p46, spoolKR s p45, [Res.cells w15.heap.size (spoolKL D q38)], [Res.cells w14.heap.size (mailKL m p29)], [Res.cells w13.heap.size (spoolKL s p23)], [Res.cells k9 (spoolKL D q10)], spoolKR D q10, [Res.cells (w.heap.size + 1) (mailKL m pm)], [Res.cells (w.heap.size) (spoolKL s ps)]]) := ⟨S25.out.later hb⟩
  clear hb
  clear S25 g84 g85 g86
  go_wp2
  go_ret
  exact ⟨rfl, S26.out.below⟩
end Go.Proofs.YtfffocfcnigogaaGreatDoor
