/- Contracts: SpoolDone of the program, in the one form of the exact walks. -/
import Derived.Test.YtfffocfcnigogaaGreatDoorSpoolRemove
namespace Go.Proofs.YtfffocfcnigogaaGreatDoor
open Go Go.RowKit

theorem sum_app {α : Type} (f : α → Nat) (xs ys : List α) : sumN f (xs ++ ys) = sumN f xs + sumN f ys := by
  unfold sumN
  simp
theorem done_small {x : ItemD} {k : Nat} {r : RcptD} (hr : x.rc[k]? = some r) : itemN (doneI x k) ≤ itemN x := by
  have e1 := take_drop_at hr
  have h : sumN rcptN x.rc = sumN rcptN (x.rc.take k) + (rcptN r + sumN rcptN (x.rc.drop (k + 1))) := by
    conv => lhs; rw [e1]
    rw [sum_app]
    unfold sumN
    simp
  have hl : x.rc.length = (x.rc.take k).length + ((x.rc.drop (k + 1)).length + 1) := by
    conv => lhs; rw [e1]
    simp
  unfold doneI itemN
  dsimp only
  rw [rowN_eq, rowN_eq rcptN x.rc, sum_app, List.length_append]
  omega
theorem doneR_sz (s : SpoolD) (i : Int) (u d : ByteArray) (hz : spoolN s ≤ 1048576) : spoolN (doneR s i u d).1 ≤ 1048576 := by
  cases h : spoolB s with
  | false => rw [doneR_bad h]; decide
  | true =>
    cases h1 : doneAt s i u d with
    | none => rw [doneR_none h h1]; exact hz
    | some v =>
      obtain ⟨a, x, k⟩ := v
      rw [doneR_some h h1]
      unfold doneAt at h1
      split at h1
      · cases h1
      · split at h1
        · cases h1
        · rename_i x' hx'
          split at h1
          · cases h1
          · rename_i hf
            simp only [Option.some.injEq, Prod.mk.injEq] at h1
            obtain ⟨ea, ex, ek⟩ := h1
            subst ex
            rw [ea] at hx'
            obtain ⟨r, hr⟩ : ∃ r, x'.rc[k]? = some r := by
              rcases findR_cases (toB1 u d) x'.rc with hno | ⟨k', r, hk', hr, _⟩
              · omega
              · have : k = k' := by omega
                exact ⟨r, this ▸ hr⟩
            have e1 := take_drop_at hx'
            have hs : sumN itemN s.items = sumN itemN (s.items.take a) + (itemN x' + sumN itemN (s.items.drop (a + 1))) := by
              conv => lhs; rw [e1]
              rw [sum_app]
              unfold sumN
              simp
            have hl : s.items.length = (s.items.take a).length + ((s.items.drop (a + 1)).length + 1) := by
              conv => lhs; rw [e1]
              simp
            have hd := done_small hr
            have hk := (List.getElem?_eq_some_iff.1 hx').1
            have hz' : rowN itemN s.items ≤ 1048576 := hz
            rw [rowN_eq, hs] at hz'
            show rowN itemN (doneS s a (doneI x' k)).items ≤ 1048576
            unfold doneS
            dsimp only
            split
            · rw [rowN_eq, sum_app, List.length_append]
              omega
            · rw [List.set_eq_take_append_cons_drop, if_pos hk, rowN_eq, sum_app, List.length_append, List.length_cons]
              have : sumN itemN (doneI x' k :: s.items.drop (a + 1)) = itemN (doneI x' k) + sumN itemN (s.items.drop (a + 1)) := by
                unfold sumN
                simp
              rw [this]
              omega

set_option maxHeartbeats 12800000 in
set_option maxRecDepth 100000 in
theorem implSpoolDone_K (s : SpoolD) (i : Int) (u d : ByteArray) (hz : spoolKZ s) (_ : u.size ≤ 1048576 ∧ d.size ≤ 1048576) (w0 w : World) (Ls : List (List Res)) (hmx : HasMax w) (ps : SpoolP) (j : Nat) (h : Pt w0 w Ls) (hj : Ls[j]? = some (spoolKR s ps)) (hfs : spoolKF s ps) :
    Calls Tryz.prog 45 #[.agg (spoolKV s ps), .int .i64 i, .agg #[.string u, .string d]] w fun e w' => ∃ r, e = .returned (.tuple #[.agg (spoolKV (doneR s i u d).1 r), .bool (doneR s i u d).2]) ∧ spoolKF (doneR s i u d).1 r ∧ St w w' (spoolKR (doneR s i u d).1 r) := by
  have HX : Seal _ := ⟨hmx⟩
  have HS : Seal _ := ⟨h.bring j hj⟩
  have HA : Seal (ItemRow w ps.a s.items) := ⟨spoolK_read hfs (h.nth j hj)⟩
  have HF : Seal _ := ⟨hfs⟩
  have HZ : Seal _ := ⟨hz⟩
  clear h hj hfs hz hmx
  have S0 : Seal (Pt w (((w.alloc (.cells (spoolKV s ps) 25)).alloc (.cells #[.string u, .string d] 27)).alloc (.cells #[.int .i64 0, .slice none 0 0] 25)) [[Res.cells (w.heap.size + 1 + 1) [.int .i64 0, .slice none 0 0]], [Res.cells (w.heap.size + 1) [.string u, .string d]], [Res.cells w.heap.size (spoolKL s ps)]]) := ⟨by
    have h := (((Pt.start w).alloc (spoolKV s ps) 25).alloc #[.string u, .string d] 27).alloc #[.int .i64 0, .slice none 0 0] 25
    simp only [World.size_alloc] at h
    exact h⟩
  go_enter Tryz.func45, Tryz.ntmps45
  go_wp2_with fail
  refine (implSpoolOk_any s ps.a ps.c _ (HX.out.below S0.out.below (Nat.le_refl _)) (HA.out.below itemP_stays S0.out.below (Nat.le_refl _)) HZ.out).mono ?_
  rintro e w1 ⟨rfl, hb⟩
  have S1 : Seal _ := ⟨S0.out.later hb⟩
  clear hb S0
  cases hok : spoolB s
  · have HE : Seal _ := ⟨doneR_bad (i := i) (u := u) (d := d) hok⟩
    have r0 := (S1.out.cellsM 0 rfl).c 0 _ rfl
    have r1 := (S1.out.cellsM 0 rfl).c 1 _ rfl
    have f0 := (S1.out.cellsM 0 rfl).f 0 (by simp)
    have f1 := (S1.out.cellsM 0 rfl).f 1 (by simp)
    clear hok
    go_wp2
    refine bodyPost_ret (v := .tuple #[.agg #[.int .i64 0, .slice none 0 0], .bool false]) (by simp [results, Tryz.results45, go_sem, r0, r1]) rfl ⟨⟨none, 0, []⟩, ret_sb HE.out rfl, by rw [HE.out]; rfl, ?_⟩
    rw [HE.out]
    have s4 := ((S1.out.set 0 (.int .i64 0) (by simp)).set 1 (.slice none 0 0) (by simp)).nothing 43 5
    exact Pt.prefix (As := [[Res.row 43 5 (.slice none 0 0) 0 []]]) s4
  have HO : Seal _ := ⟨hok⟩
  obtain ⟨sm1, sm2, sm3, sm4⟩ := spool_small hok
  clear hok
  have g0 := (S1.out.cellsM 2 rfl).c 0 _ rfl
  have g1 := (S1.out.cellsM 2 rfl).c 1 _ rfl
  go_wp2_with fail
  refine (spoolClone_any _ s ps.a ps.c ps.ps HF.out w0 _ (StX.later HS.out S1.out.below) HZ.out).mono ?_
  rintro e w2 ⟨bo, c, qs, rfl, hqs, hk⟩
  have HQ : Seal _ := ⟨hqs⟩
  have S2 : Seal (Pt w (w2.alloc (.cells #[.int .i64 s.last, .slice bo s.items.length c] 25)) [[Res.cells w2.heap.size [.int .i64 s.last, .slice bo s.items.length c]], itemsR bo c s.items qs, [Res.cells (w.heap.size + 1 + 1) [.int .i64 0, .slice none 0 0]], [Res.cells (w.heap.size + 1) [.string u, .string d]], [Res.cells w.heap.size (spoolKL s ps)]]) := ⟨(Pt.join S1.out hk).alloc #[.int .i64 s.last, .slice bo s.items.length c] 25⟩
  clear hk hqs S1 g0 g1
  have g0 := (S2.out.cellsM 0 rfl).c 0 _ rfl
  have g1 := (S2.out.cellsM 0 rfl).c 1 _ rfl
  have gl := (S2.out.cellsM 0 rfl).lt
  have b0 := (S2.out.cellsM 3 rfl).c 0 _ rfl
  have b1 := (S2.out.cellsM 3 rfl).c 1 _ rfl
  have bl := (S2.out.cellsM 3 rfl).lt
  have HR : Seal (ItemRow (w2.alloc (.cells #[.int .i64 s.last, .slice bo s.items.length c] 25)) bo s.items) := ⟨spoolK_read (s := s) (p := ⟨bo, c, qs⟩) HQ.out (S2.out.nth 1 rfl)⟩
  go_wp2_with fail
  refine (implFind_any s bo c i u d _ HR.out HZ.out).mono ?_
  rintro e w3 ⟨rfl, hb⟩
  have S3 : Seal (Pt w w3 [[Res.cells w2.heap.size [.int .i64 s.last, .slice bo s.items.length c]], itemsR bo c s.items qs, [Res.cells (w.heap.size + 1 + 1) [.int .i64 0, .slice none 0 0]], [Res.cells (w.heap.size + 1) [.string u, .string d]], [Res.cells w.heap.size (spoolKL s ps)]]) := ⟨S2.out.later hb⟩
  clear hb S2 g0 g1 gl b0 b1 bl HR
  rcases findR_cases (idB i) s.items with hno | ⟨a, x, hat, hx, _⟩
  · have HN : Seal (doneAt s i u d = none) := ⟨doneAt_noid hno⟩
    rw [findK_noid hno]
    clear hno
    have HE : Seal _ := ⟨doneR_none HO.out HN.out⟩
    have g0 := (S3.out.cellsM 0 rfl).c 0 _ rfl
    have g1 := (S3.out.cellsM 0 rfl).c 1 _ rfl
    have gl := (S3.out.cellsM 0 rfl).lt
    have r0 := (S3.out.cellsM 2 rfl).c 0 _ rfl
    have r1 := (S3.out.cellsM 2 rfl).c 1 _ rfl
    have f0 := (S3.out.cellsM 2 rfl).f 0 (by simp)
    have f1 := (S3.out.cellsM 2 rfl).f 1 (by simp)
    go_wp2
    refine bodyPost_ret (v := .tuple #[.agg #[.int .i64 s.last, .slice bo s.items.length c], .bool false]) (by simp [results, Tryz.results45, go_sem, r0, r1]) rfl ⟨⟨bo, c, qs⟩, ret_sb HE.out rfl, by rw [HE.out]; exact HQ.out, ?_⟩
    rw [HE.out]
    have s4 := ((S3.out.bring 2 rfl).set 0 (.int .i64 s.last) (by simp)).set 1 (.slice bo s.items.length c) (by simp)
    have s5 := s4.bring 2 rfl
    exact Pt.only (Pt.prefix (As := [itemsR bo c s.items qs]) (Bs := [[Res.cells (w.heap.size + 1 + 1) [.int .i64 s.last, .slice bo s.items.length c]], [Res.cells w2.heap.size [.int .i64 s.last, .slice bo s.items.length c]], [Res.cells (w.heap.size + 1) [.string u, .string d]], [Res.cells w.heap.size (spoolKL s ps)]]) s5)
  rcases findR_cases (toB1 u d) x.rc with hrn | ⟨k, r, hrk, hr, _⟩
  · have HN : Seal (doneAt s i u d = none) := ⟨doneAt_norc hat hx hrn⟩
    rw [findK_norc hat hx hrn]
    clear hat hx hrn
    have HE : Seal _ := ⟨doneR_none HO.out HN.out⟩
    have g0 := (S3.out.cellsM 0 rfl).c 0 _ rfl
    have g1 := (S3.out.cellsM 0 rfl).c 1 _ rfl
    have gl := (S3.out.cellsM 0 rfl).lt
    have r0 := (S3.out.cellsM 2 rfl).c 0 _ rfl
    have r1 := (S3.out.cellsM 2 rfl).c 1 _ rfl
    have f0 := (S3.out.cellsM 2 rfl).f 0 (by simp)
    have f1 := (S3.out.cellsM 2 rfl).f 1 (by simp)
    go_wp2
    refine bodyPost_ret (v := .tuple #[.agg #[.int .i64 s.last, .slice bo s.items.length c], .bool false]) (by simp [results, Tryz.results45, go_sem, r0, r1]) rfl ⟨⟨bo, c, qs⟩, ret_sb HE.out rfl, by rw [HE.out]; exact HQ.out, ?_⟩
    rw [HE.out]
    have s4 := ((S3.out.bring 2 rfl).set 0 (.int .i64 s.last) (by simp)).set 1 (.slice bo s.items.length c) (by simp)
    have s5 := s4.bring 2 rfl
    exact Pt.only (Pt.prefix (As := [itemsR bo c s.items qs]) (Bs := [[Res.cells (w.heap.size + 1 + 1) [.int .i64 s.last, .slice bo s.items.length c]], [Res.cells w2.heap.size [.int .i64 s.last, .slice bo s.items.length c]], [Res.cells (w.heap.size + 1) [.string u, .string d]], [Res.cells w.heap.size (spoolKL s ps)]]) s5)
  rw [findK_at hat hx hrk]
  have HE : Seal (doneR s i u d = (doneS s a (doneI x k), true)) := ⟨doneR_some HO.out (doneAt_at hat hx hrk)⟩
  have hzx : itemN x ≤ 1048576 := (spoolN_parts HZ.out).2 x (List.mem_of_getElem? hx)
  have CR : Seal (Calls Tryz.prog 105 #[.pointer (some ⟨w2.heap.size, 0, none⟩), .int .i64 a, .int .i64 k] w3 fun e w' => ∃ b2 c2 q2, e = .returned (.tuple #[]) ∧ q2.length = (doneS s a (doneI x k)).items.length ∧ Pt w w' ([Res.cells w2.heap.size [.int .i64 s.last, .slice b2 (doneS s a (doneI x k)).items.length c2]] :: itemsR b2 c2 (doneS s a (doneI x k)).items q2 :: [[Res.cells (w.heap.size + 1 + 1) [.int .i64 0, .slice none 0 0]], [Res.cells (w.heap.size + 1) [.string u, .string d]], [Res.cells w.heap.size (spoolKL s ps)]])) := ⟨remove_any s w2.heap.size c bo qs HQ.out (by omega) a k x r hx hr hzx w w3 _ S3.out⟩
  obtain ⟨D, hD⟩ : ∃ D, doneS s a (doneI x k) = D := ⟨_, rfl⟩
  have hDl : D.last = s.last := by rw [← hD]; rfl
  have HDL : Seal _ := ⟨hDl⟩
  rw [hD] at CR HE
  clear hat hx hrk hr hD hDl S3
  go_wp2_with fail
  refine CR.out.mono ?_
  rintro e w4 ⟨b2, c2, q2, rfl, hq2, hs⟩
  have HQ2 : Seal _ := ⟨hq2⟩
  have S4 : Seal (Pt w w4 [[Res.cells w2.heap.size [.int .i64 s.last, .slice b2 D.items.length c2]], itemsR b2 c2 D.items q2, [Res.cells (w.heap.size + 1 + 1) [.int .i64 0, .slice none 0 0]], [Res.cells (w.heap.size + 1) [.string u, .string d]], [Res.cells w.heap.size (spoolKL s ps)]]) := ⟨hs⟩
  clear hs hq2 CR
  have g0 := (S4.out.cellsM 0 rfl).c 0 _ rfl
  have g1 := (S4.out.cellsM 0 rfl).c 1 _ rfl
  have gl := (S4.out.cellsM 0 rfl).lt
  have r0 := (S4.out.cellsM 2 rfl).c 0 _ rfl
  have r1 := (S4.out.cellsM 2 rfl).c 1 _ rfl
  have f0 := (S4.out.cellsM 2 rfl).f 0 (by simp)
  have f1 := (S4.out.cellsM 2 rfl).f 1 (by simp)
  go_wp2
  refine bodyPost_ret (v := .tuple #[.agg #[.int .i64 s.last, .slice b2 D.items.length c2], .bool true]) (by simp [results, Tryz.results45, go_sem, r0, r1]) rfl ⟨⟨b2, c2, q2⟩, ret_sb (D := D) HE.out (by show _ = (#[Value.int .i64 D.last, Value.slice b2 D.items.length c2] : Array Value); rw [HDL.out]), by rw [HE.out]; exact HQ2.out, ?_⟩
  rw [HE.out]
  have s4 := ((S4.out.bring 2 rfl).set 0 (.int .i64 s.last) (by simp)).set 1 (.slice b2 D.items.length c2) (by simp)
  have s5 := s4.bring 2 rfl
  exact Pt.only (Pt.prefix (As := [itemsR b2 c2 D.items q2]) (Bs := [[Res.cells (w.heap.size + 1 + 1) [.int .i64 s.last, .slice b2 D.items.length c2]], [Res.cells w2.heap.size [.int .i64 s.last, .slice b2 D.items.length c2]], [Res.cells (w.heap.size + 1) [.string u, .string d]], [Res.cells w.heap.size (spoolKL s ps)]]) s5)
end Go.Proofs.YtfffocfcnigogaaGreatDoor
