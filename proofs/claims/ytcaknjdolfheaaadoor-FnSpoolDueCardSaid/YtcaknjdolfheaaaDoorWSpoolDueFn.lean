/- The walk of FnSpoolDue. -/
import Derived.Test.YtcaknjdolfheaaaDoorDrawSpDue
import Derived.Test.YtcaknjdolfheaaaDoorKindSpool
import Derived.Test.YtcaknjdolfheaaaDoorSpoolDue
import Derived.Deep.RegionHeld3
namespace Go.Proofs.YtcaknjdolfheaaaDoor
open Go Go.RowKit

set_option maxHeartbeats 1600000 in
theorem saIntsEq2 (ao bo : Option Addr) (c1 c2 : Nat) (xs : List Int) (w : World) (ha : IntRow w ao xs) (hb : IntRow w bo xs) (hl : xs.length ≤ 1048576) :
    Calls Tryd.prog 19 #[.slice ao xs.length c1, .slice bo xs.length c2] w fun e w' => e = .returned (.bool true) ∧ Below w.heap.size w w' := by
  have HA := Lib.hid ha
  have HB := Lib.hid hb
  clear ha hb
  go_enter Tryd.func19, Tryd.ntmps19
  go_wp2
  go_loopw [5] (fun i wr => ∃ k n : Nat, k ≤ xs.length ∧ i = .int .i64 k ∧ wr = w.drewN n) (fun i _ => xs.length - (intOf i).toNat)
  case atStart => exact ⟨0, 0, Nat.zero_le _, rfl, rfl⟩
  case round =>
    obtain ⟨k, n, hk, rfl, rfl⟩ := hrel
    by_cases hlt : k < xs.length
    · obtain ⟨x, hx⟩ : ∃ x, xs[k]? = some x := ⟨_, List.getElem?_eq_getElem hlt⟩
      obtain ⟨b, off, rfl, hcell⟩ := HA.out k x hx
      obtain ⟨b', off', rfl, hcell'⟩ := HB.out k x hx
      have q0 : (x == x) = true := by simp
      clear hx
      go_wp2
      go_quiet (fail)
      go_wp2
      exact ⟨⟨k + 1, n + nq, by omega, by go_num, rfl⟩, by simp [intOf]; omega⟩
    · go_wp2
      go_ret
      exact ⟨rfl, below_drewN _ w n⟩

theorem sub_at {xs ys : List Int} {a k : Nat} {y : Int} (h : (xs.drop a).Sublist (ys.drop k)) (hy : ys[k]? = some y) :
    (∀ x, xs[a]? = some x → x = y → (xs.drop (a + 1)).Sublist (ys.drop (k + 1))) ∧ (∀ x, xs[a]? = some x → x ≠ y → (xs.drop a).Sublist (ys.drop (k + 1))) ∧ (xs.length ≤ a → (xs.drop a).Sublist (ys.drop (k + 1))) := by
  rw [drop_get hy] at h
  refine ⟨fun x hx e => ?_, fun x hx e => ?_, fun hl => ?_⟩
  · rw [drop_get hx, e] at h
    exact sub_hit h
  · rw [drop_get hx] at h ⊢
    exact sub_miss h e
  · rw [List.drop_eq_nil_of_le hl]; exact List.nil_sublist _
theorem due_len (s : SpoolD) (t : Int) (h : spoolB s = true) : (dueTo s t s.items.length).length = (dueR s t).length := by rw [dueTo_end (Nat.le_refl _) h]

set_option maxHeartbeats 12800000 in
set_option maxRecDepth 100000 in
theorem wFnSpoolDue.walk (ao : Option Addr) (len cap : Nat) (w : World) (hr : ByteRow w ao len) (hl : len ≤ cap) (hc : cap ≤ maxLen) (hm : HasMax w) :
    Calls Tryd.prog 5 #[.slice ao len cap] w fun e w' => e = .returned (.bool true) ∧ Below w.heap.size w w' := by
  have HM : Seal _ := ⟨hm⟩
  have C : Seal _ := ⟨drawDue_any ao len cap w hr hl hc⟩
  clear hm hr
  go_enter Tryd.func5, Tryd.ntmps5
  by_cases hlen : len > 1048576
  · go_wp2
    go_ret
    exact ⟨rfl, Below.refl _ _⟩
  go_wp2_with fail
  refine C.out.mono ?_
  rintro e w1 ⟨s, bo, d, ps, t, rfl, hs, hpl, htm, hk⟩
  have HZ : Seal (spoolKZ s) := ⟨by have := hs.small; unfold spoolKZ; omega⟩
  have h10 := hs.len
  have S1 : Seal (Pt w (w1.alloc (.cells #[.int .i64 s.last, .slice bo s.items.length d] 25)) [[Res.cells w1.heap.size [.int .i64 s.last, .slice bo s.items.length d]], spoolKR s ⟨bo, d, ps⟩]) := ⟨by
    have h0 : Pt w w1 [spoolKR s ⟨bo, d, ps⟩] := by show St _ _ _; simpa using hk
    exact h0.alloc #[.int .i64 s.last, .slice bo s.items.length d] 25⟩
  have HF : Seal (spoolKF s ⟨bo, d, ps⟩) := ⟨hpl⟩
  have ht0 : 0 ≤ t ∧ t ≤ 100 := by simp only [List.mem_cons, List.not_mem_nil, or_false] at htm; omega
  have htM : ¬ (9999 : Int) < t := by omega
  have hW : IntKind.i64.wrap (t + 1) = t + 1 := IntWalk.i64_in _ (by omega)
  clear hs hk C hl hc hpl htm
  obtain ⟨X, hX⟩ : ∃ X, dueR s t = X := ⟨_, rfl⟩
  have HX : Seal _ := ⟨hX⟩
  have hX10 : X.length ≤ 10 := by rw [← hX]; exact Nat.le_trans (dueR_le s t) h10
  clear hX
  have g0 := (S1.out.cellsM 0 rfl).c 0 _ rfl
  have g1 := (S1.out.cellsM 0 rfl).c 1 _ rfl
  go_wp2_with fail
  refine (implSpoolDue_any s bo d t _ (HM.out.below S1.out.below (Nat.le_refl _)) (spoolK_read HF.out (S1.out.nth 1 rfl)) HZ.out).mono ?_
  rintro e w2 ⟨xo, xc, rfl, hk⟩
  rw [HX.out] at hk ⊢
  have S2 : Seal (Pt w w2 [[intsR xo xc X], [Res.cells w1.heap.size [.int .i64 s.last, .slice bo s.items.length d]], spoolKR s ⟨bo, d, ps⟩]) := ⟨Pt.join S1.out hk⟩
  clear hk S1 g0 g1
  have g0 := (S2.out.cellsM 1 rfl).c 0 _ rfl
  have g1 := (S2.out.cellsM 1 rfl).c 1 _ rfl
  go_wp2_with fail
  refine (specSpoolDue_any s bo d t _ (spoolK_read HF.out (S2.out.nth 2 rfl)) HZ.out).mono ?_
  rintro e w3 ⟨zo, zc, rfl, hk⟩
  rw [HX.out] at hk ⊢
  have S3 : Seal (Pt w w3 [[intsR zo zc X], [intsR xo xc X], [Res.cells w1.heap.size [.int .i64 s.last, .slice bo s.items.length d]], spoolKR s ⟨bo, d, ps⟩]) := ⟨Pt.join S2.out hk⟩
  clear hk S2 g0 g1
  have g0 := (S3.out.cellsM 2 rfl).c 0 _ rfl
  have g1 := (S3.out.cellsM 2 rfl).c 1 _ rfl
  go_wp2_with fail
  refine (saIntsEq2 xo zo xc zc X _ (IntRow.of_own (S3.out.nth 1 rfl _ (List.mem_singleton.2 rfl))) (IntRow.of_own (S3.out.nth 0 rfl _ (List.mem_singleton.2 rfl))) (by omega)).mono ?_
  rintro e w4 ⟨rfl, hb⟩
  have S4 : Seal (Pt w w4 _) := ⟨S3.out.later hb⟩
  clear hb S3 g0 g1
  have g0 := (S4.out.cellsM 2 rfl).c 0 _ rfl
  have g1 := (S4.out.cellsM 2 rfl).c 1 _ rfl
  go_wp2_with fail
  refine (implSpoolOk_any s bo d _ (HM.out.below S4.out.below (Nat.le_refl _)) (spoolK_read HF.out (S4.out.nth 3 rfl)) HZ.out).mono ?_
  rintro e w5 ⟨rfl, hb⟩
  have S5 : Seal (Pt w w5 _) := ⟨S4.out.later hb⟩
  clear hb S4 g0 g1
  have g0 := (S5.out.cellsM 2 rfl).c 0 _ rfl
  have g1 := (S5.out.cellsM 2 rfl).c 1 _ rfl
  cases hok : spoolB s
  · go_wp2_with fail
    refine (specSpoolDue_any s bo d t _ (spoolK_read HF.out (S5.out.nth 3 rfl)) HZ.out).mono ?_
    rintro e w6 ⟨yo, yc, rfl, hk⟩
    rw [HX.out] at hk ⊢
    have S6 : Seal (Pt w w6 ([intsR yo yc X] :: [[intsR zo zc X], [intsR xo xc X], [Res.cells w1.heap.size [.int .i64 s.last, .slice bo s.items.length d]], spoolKR s ⟨bo, d, ps⟩])) := ⟨Pt.join S5.out hk⟩
    clear hk S5 g0 g1
    go_wp2_with fail
    refine (saIntsEq2 xo yo xc yc X _ (IntRow.of_own (S6.out.nth 2 rfl _ (List.mem_singleton.2 rfl))) (IntRow.of_own (S6.out.nth 0 rfl _ (List.mem_singleton.2 rfl))) (by omega)).mono ?_
    rintro e w7 ⟨rfl, hb⟩
    have S7 : Seal _ := ⟨S6.out.later hb⟩
    clear hb S6
    go_wp2
    go_ret
    exact ⟨rfl, S7.out.below⟩
  have HOK : Seal _ := ⟨hok⟩
  clear hok
  obtain ⟨Y, hY⟩ : ∃ Y, dueR s (t + 1) = Y := ⟨_, rfl⟩
  have HY : Seal _ := ⟨hY⟩
  have hY10 : Y.length ≤ 10 := by rw [← hY]; exact Nat.le_trans (dueR_le s _) h10
  have HSB : Seal (X.Sublist Y) := ⟨by rw [← HX.out, ← hY]; exact due_sub s t (t + 1) (by omega)⟩
  clear hY
  go_wp2_with fail
  refine (implSpoolDue_any s bo d (t + 1) _ (HM.out.below S5.out.below (Nat.le_refl _)) (spoolK_read HF.out (S5.out.nth 3 rfl)) HZ.out).mono ?_
  rintro e w6 ⟨yo, yc, rfl, hk⟩
  rw [HY.out] at hk ⊢
  have S6 : Seal (Pt w w6 [[intsR yo yc Y], [intsR zo zc X], [intsR xo xc X], [Res.cells w1.heap.size [.int .i64 s.last, .slice bo s.items.length d]], spoolKR s ⟨bo, d, ps⟩]) := ⟨Pt.join S5.out hk⟩
  have IX : Seal (IntRow w6 xo X) := ⟨IntRow.of_own (S6.out.nth 2 rfl _ (List.mem_singleton.2 rfl))⟩
  have IY : Seal (IntRow w6 yo Y) := ⟨IntRow.of_own (S6.out.nth 0 rfl _ (List.mem_singleton.2 rfl))⟩
  clear hk S5 g0 g1
  go_wp2
  go_loopw [7, 8] (fun v7 v8 wr => ∃ (a k n : Nat), v7 = .int .i64 a ∧ v8 = .int .i64 k ∧ a ≤ X.length ∧ k ≤ Y.length ∧ Seal ((X.drop a).Sublist (Y.drop k)) ∧ wr = w6.drewN n) (fun _ v8 _ => Y.length - (intOf v8).toNat)
  case atStart => exact ⟨0, 0, 0, rfl, rfl, Nat.zero_le _, Nat.zero_le _, ⟨HSB.out⟩, rfl⟩
  case round =>
    obtain ⟨a, k, n, rfl, rfl, ha, hk, HS, rfl⟩ := hrel
    by_cases hlt : k < Y.length
    · obtain ⟨y, hy⟩ : ∃ y, Y[k]? = some y := ⟨_, List.getElem?_eq_getElem hlt⟩
      obtain ⟨g, off, rfl, c0⟩ := IY.out k y hy
      have HN : Seal _ := ⟨sub_at HS.out hy⟩
      clear hy
      have hk0 : (k : Int) < (Y.length : Int) := by omega
      by_cases hax : a < X.length
      · obtain ⟨x, hx⟩ : ∃ x, X[a]? = some x := ⟨_, List.getElem?_eq_getElem hax⟩
        obtain ⟨g', off', rfl, d0⟩ := IX.out a x hx
        have HXA : Seal _ := ⟨hx⟩
        clear hx
        have ha0 : decide ((a : Int) < (X.length : Int)) = true := by rw [decide_eq_true_eq]; omega
        by_cases he : y = x
        · subst he
          have q0 : (y == y) = true := by simp
          have HS2 : Seal _ := ⟨HN.out.1 y HXA.out rfl⟩
          go_wp2
          go_quiet (fail)
          go_wp2
          go_roundw
          case rel => exact ⟨a + 1, k + 1, n + nq, by go_num, by go_num, by omega, by omega, HS2, rfl⟩
          case measure => simp [intOf]; omega
        · have q0 : (y == x) = false := by rw [beq_eq_false_iff_ne]; exact he
          have HS2 : Seal _ := ⟨HN.out.2.1 x HXA.out (fun e => he e.symm)⟩
          clear he
          go_wp2
          go_quiet (fail)
          go_wp2
          go_roundw
          case rel => exact ⟨a, k + 1, n + nq, by go_num, by go_num, by omega, by omega, HS2, rfl⟩
          case measure => simp [intOf]; omega
      · have ha0 : decide ((a : Int) < (X.length : Int)) = false := by rw [decide_eq_false_iff_not]; omega
        have HS2 : Seal _ := ⟨HN.out.2.2 (by omega)⟩
        go_wp2
        go_quiet (fail)
        go_wp2
        go_roundw
        case rel => exact ⟨a, k + 1, n + nq, by go_num, by go_num, by omega, by omega, HS2, rfl⟩
        case measure => simp [intOf]; omega
    · have e1 : a = X.length := by
        have h := HS.out.length_le
        rw [List.length_drop, List.length_drop] at h
        omega
      subst e1
      have S7 : Seal (Pt w (w6.drewN n) [[intsR yo yc Y], [intsR zo zc X], [intsR xo xc X], [Res.cells w1.heap.size [.int .i64 s.last, .slice bo s.items.length d]], spoolKR s ⟨bo, d, ps⟩]) := ⟨Pt.later S6.out (below_drewN _ _ n)⟩
      clear S6 IX IY
      generalize w6.drewN n = w7 at *
      have HA : Seal (ItemRow w7 bo s.items) := ⟨spoolK_read HF.out (S7.out.nth 4 rfl)⟩
      have HZI : Seal _ := ⟨(spoolN_parts HZ.out).2⟩
      have g1 := (S7.out.cellsM 3 rfl).c 1 _ rfl
      go_wp2
      go_loop [9, 10] (fun v9 i => ∃ k : Nat, k ≤ s.items.length ∧ i = .int .i64 k ∧ v9 = .int .i64 (dueTo s t k).length) (fun _ i => s.items.length - (intOf i).toNat)
      case atStart => exact ⟨0, Nat.zero_le _, rfl, by rw [dueTo_zero]; rfl⟩
      case round =>
        obtain ⟨k, hk, rfl, rfl⟩ := hrel
        by_cases hlt : k < s.items.length
        · obtain ⟨x, hx⟩ : ∃ x, s.items[k]? = some x := ⟨_, List.getElem?_eq_getElem hlt⟩
          obtain ⟨b, off, p, rfl, c0, c1, c2, c3, c4, ia⟩ := itemAt HA.out hx
          have HXX : Seal _ := ⟨hx⟩
          have IR : Seal _ := ⟨ia.rc⟩
          obtain ⟨_, _, z3, _, _, _⟩ := itemN_parts (HZI.out x (List.mem_of_getElem? hx))
          have hle := dueTo_le s t k
          obtain ⟨m, hm⟩ : ∃ m, (dueTo s t k).length = m := ⟨_, rfl⟩
          rw [hm] at hle ⊢
          have HMM : Seal _ := ⟨hm⟩
          clear hx ia c1 c2 c4 hm
          go_wp2
          go_loop [11, 12] (fun dd i => ∃ (j : Nat) (dv : Bool), j ≤ x.rc.length ∧ i = .int .i64 j ∧ dd = .bool dv ∧ Seal ((x.rc.take j).any (rcDue t) = dv)) (fun _ i => x.rc.length - (intOf i).toNat)
          case atStart => exact ⟨0, false, Nat.zero_le _, rfl, rfl, ⟨by simp⟩⟩
          case round =>
            obtain ⟨j, dv, hj, rfl, rfl, HJ⟩ := hrel
            by_cases hlj : j < x.rc.length
            · obtain ⟨y, hy⟩ : ∃ y, x.rc[j]? = some y := ⟨_, List.getElem?_eq_getElem hlj⟩
              obtain ⟨b', off', ea, d0, d1, d2, d3⟩ := rcptAt IR.out hy
              have hs := any_succ (f := rcDue t) hy
              rw [HJ.out] at hs
              have HS : Seal _ := ⟨hs⟩
              rw [ea] at c3
              clear hy hs d0 d1 d2
              cases dv
              · have hm : Seal ((x.rc.take (j + 1)).any (rcDue t) = decide (y.next ≤ t)) := ⟨by rw [HS.out]; rfl⟩
                go_wp2
                go_round
                case rel => exact ⟨j + 1, _, by omega, by go_num, rfl, hm⟩
                case measure => simp [intOf]; omega
              · have hm : Seal ((x.rc.take (j + 1)).any (rcDue t) = true) := ⟨by rw [HS.out]; rfl⟩
                go_wp2
                go_round
                case rel => exact ⟨j + 1, _, by omega, by go_num, rfl, hm⟩
                case measure => simp [intOf]; omega
            · obtain rfl : j = x.rc.length := by omega
              have hj2 := HJ.out
              rw [List.take_length] at hj2
              have HD : Seal (dueB t x = dv) := ⟨hj2⟩
              clear hj2 HJ
              cases dv
              · have HT : Seal ((dueTo s t (k + 1)).length = m) := ⟨by rw [dueTo_no HXX.out HD.out]; exact HMM.out⟩
                go_wp2
                go_round
                case rel => exact ⟨k + 1, by omega, by go_num, by rw [HT.out]⟩
                case measure => simp [intOf]; omega
              · have HT : Seal ((dueTo s t (k + 1)).length = m + 1) := ⟨by rw [dueTo_yes HXX.out HD.out, List.length_append, HMM.out]; rfl⟩
                go_wp2
                go_round
                case rel => exact ⟨k + 1, by omega, by go_num, by rw [HT.out]; go_num⟩
                case measure => simp [intOf]; omega
        · obtain rfl : k = s.items.length := by omega
          have e1 : (dueTo s t s.items.length).length = X.length := by rw [due_len s t HOK.out, HX.out]
          rw [e1]
          clear e1
          clear HA
          have qX : ((X.length : Int) == (X.length : Int)) = true := by simp
          have HDA : Seal ((dueR s 9999).length = s.items.length) := ⟨due_all HOK.out⟩
          have qI : ((s.items.length : Int) == (s.items.length : Int)) = true := by simp
          go_upto_region 25 with fail
          have S8 : Seal (Pt w w7.drew [[intsR yo yc Y], [intsR zo zc X], [intsR xo xc X], [Res.cells (w1.heap.size) [.int .i64 s.last, .slice bo s.items.length d]], spoolKR s ⟨bo, d, ps⟩]) := ⟨S7.out.drew⟩
          refine wp_region_held_drew (S := (fun w' => w'.cell? ⟨w1.heap.size, 0, none⟩ = some (.int .i64 s.last) ∧ w'.cell? ⟨w1.heap.size, 1, none⟩ = some (.slice bo s.items.length d))) (by kernel_rfl) ⟨(S8.out.cellsM 3 rfl).c 0 _ rfl, (S8.out.cellsM 3 rfl).c 1 _ rfl⟩ (fun hHeld => ?_)
          (refine wpAnyH_take (i := 0) (v := ?_) rfl (by kernel_rfl) (by kernel_rfl) (by kernel_rfl) (fun _ _ _ h => h) (Or.inl ⟨by rfl, ?_⟩) (by assumption) ?_; rotate_left; (intro w hSw; (try dsimp only at hSw); go_split_ands; go_simp; first | done | with_reducible rfl); rotate_left; simp only [Act.put, List.getElem_toArray, List.getElem_cons_zero, List.setIfInBounds_toArray, List.set_cons_succ, List.set_cons_zero])
          (refine wpAnyH_take (i := 1) (v := ?_) rfl (by kernel_rfl) (by kernel_rfl) (by kernel_rfl) (fun _ _ _ h => h) (Or.inl ⟨by rfl, ?_⟩) (by assumption) ?_; rotate_left; (intro w hSw; (try dsimp only at hSw); go_split_ands; go_simp; first | done | with_reducible rfl); rotate_left; simp only [Act.put, List.getElem_toArray, List.getElem_cons_succ, List.getElem_cons_zero, List.setIfInBounds_toArray, List.set_cons_succ, List.set_cons_zero])
          (refine wpAnyH_take (i := 2) (v := ?_) rfl (by kernel_rfl) (by kernel_rfl) (by kernel_rfl) (fun _ _ _ h => h) (Or.inl ⟨by rfl, ?_⟩) (by assumption) ?_; rotate_left; (intro w hSw; (try dsimp only at hSw); go_split_ands; go_simp; first | done | with_reducible rfl); rotate_left; simp only [Act.put, List.getElem_toArray, List.getElem_cons_succ, List.getElem_cons_zero, List.setIfInBounds_toArray, List.set_cons_succ, List.set_cons_zero])
          (refine wpAnyH_take (i := 3) (v := ?_) rfl (by kernel_rfl) (by kernel_rfl) (by kernel_rfl) (fun _ _ _ h => h) (Or.inl ⟨by rfl, ?_⟩) (by assumption) ?_; rotate_left; (intro w hSw; (try dsimp only at hSw); go_split_ands; go_simp; first | done | with_reducible rfl); rotate_left; simp only [Act.put, List.getElem_toArray, List.getElem_cons_succ, List.getElem_cons_zero, List.setIfInBounds_toArray, List.set_cons_succ, List.set_cons_zero])
          (refine wpAnyH_take (i := 4) (v := ?_) rfl (by kernel_rfl) (by kernel_rfl) (by kernel_rfl) (fun _ _ _ h => h) (Or.inl ⟨by rfl, ?_⟩) (by assumption) ?_; rotate_left; (intro w hSw; (try dsimp only at hSw); go_split_ands; go_simp; first | done | with_reducible rfl); rotate_left; simp only [Act.put, List.getElem_toArray, List.getElem_cons_succ, List.getElem_cons_zero, List.setIfInBounds_toArray, List.set_cons_succ, List.set_cons_zero])
          (refine wpAnyH_take (i := 5) (v := ?_) rfl (by kernel_rfl) (by kernel_rfl) (by kernel_rfl) (fun _ _ _ h => h) (Or.inl ⟨by rfl, ?_⟩) (by assumption) ?_; rotate_left; (intro w hSw; (try dsimp only at hSw); go_split_ands; go_simp; first | done | with_reducible rfl); rotate_left; simp only [Act.put, List.getElem_toArray, List.getElem_cons_succ, List.getElem_cons_zero, List.setIfInBounds_toArray, List.set_cons_succ, List.set_cons_zero])
          (refine wpAnyH_take (i := 6) (v := ?_) rfl (by kernel_rfl) (by kernel_rfl) (by kernel_rfl) (fun _ _ _ h => h) (Or.inl ⟨by rfl, ?_⟩) (by assumption) ?_; rotate_left; (intro w hSw; (try dsimp only at hSw); go_split_ands; go_simp; first | done | with_reducible rfl); rotate_left; simp only [Act.put, List.getElem_toArray, List.getElem_cons_succ, List.getElem_cons_zero, List.setIfInBounds_toArray, List.set_cons_succ, List.set_cons_zero])
          (refine wpAnyH_take (i := 7) (v := ?_) rfl (by kernel_rfl) (by kernel_rfl) (by kernel_rfl) (fun _ _ _ h => h) (Or.inl ⟨by rfl, ?_⟩) (by assumption) ?_; rotate_left; (intro w hSw; (try dsimp only at hSw); go_split_ands; go_simp; first | done | with_reducible rfl); rotate_left; simp only [Act.put, List.getElem_toArray, List.getElem_cons_succ, List.getElem_cons_zero, List.setIfInBounds_toArray, List.set_cons_succ, List.set_cons_zero])
          (refine wpAnyH_take (i := 8) (v := ?_) rfl (by kernel_rfl) (by kernel_rfl) (by kernel_rfl) (fun _ _ _ h => h) (Or.inl ⟨by rfl, ?_⟩) (by assumption) ?_; rotate_left; (intro w hSw; (try dsimp only at hSw); go_split_ands; go_simp; first | done | with_reducible rfl); rotate_left; simp only [Act.put, List.getElem_toArray, List.getElem_cons_succ, List.getElem_cons_zero, List.setIfInBounds_toArray, List.set_cons_succ, List.set_cons_zero])
          (refine wpAnyH_take (i := 9) (v := ?_) rfl (by kernel_rfl) (by kernel_rfl) (by kernel_rfl) (fun _ _ _ h => h) (Or.inl ⟨by rfl, ?_⟩) (by assumption) ?_; rotate_left; (intro w hSw; (try dsimp only at hSw); go_split_ands; go_simp; first | done | with_reducible rfl); rotate_left; simp only [Act.put, List.getElem_toArray, List.getElem_cons_succ, List.getElem_cons_zero, List.setIfInBounds_toArray, List.set_cons_succ, List.set_cons_zero])
          (refine wpAnyH_take (i := 10) (v := ?_) rfl (by kernel_rfl) (by kernel_rfl) (by kernel_rfl) (fun _ _ _ h => h) (Or.inl ⟨by rfl, ?_⟩) (by assumption) ?_; rotate_left; (intro w hSw; (try dsimp only at hSw); go_split_ands; go_simp; first | done | with_reducible rfl); rotate_left; simp only [Act.put, List.getElem_toArray, List.getElem_cons_succ, List.getElem_cons_zero, List.setIfInBounds_toArray, List.set_cons_succ, List.set_cons_zero])
          (refine wpAnyH_take (i := 11) (v := ?_) rfl (by kernel_rfl) (by kernel_rfl) (by kernel_rfl) (fun _ _ _ h => h) (Or.inl ⟨by rfl, ?_⟩) (by assumption) ?_; rotate_left; (intro w hSw; (try dsimp only at hSw); go_split_ands; go_simp; first | done | with_reducible rfl); rotate_left; simp only [Act.put, List.getElem_toArray, List.getElem_cons_succ, List.getElem_cons_zero, List.setIfInBounds_toArray, List.set_cons_succ, List.set_cons_zero])
          (refine wpAnyH_take (i := 14) (v := ?_) rfl (by kernel_rfl) (by kernel_rfl) (by kernel_rfl) (fun _ _ _ h => h) (Or.inl ⟨by rfl, ?_⟩) (by assumption) ?_; rotate_left; (intro w hSw; (try dsimp only at hSw); go_split_ands; go_simp; first | done | with_reducible rfl); rotate_left; simp only [Act.put, List.getElem_toArray, List.getElem_cons_succ, List.getElem_cons_zero, List.setIfInBounds_toArray, List.set_cons_succ, List.set_cons_zero])
          (refine wpAnyH_take (i := 15) (v := ?_) rfl (by kernel_rfl) (by kernel_rfl) (by kernel_rfl) (fun _ _ _ h => h) (Or.inl ⟨by rfl, ?_⟩) (by assumption) ?_; rotate_left; (intro w hSw; (try dsimp only at hSw); go_split_ands; go_simp; first | done | with_reducible rfl); rotate_left; simp only [Act.put, List.getElem_toArray, List.getElem_cons_succ, List.getElem_cons_zero, List.setIfInBounds_toArray, List.set_cons_succ, List.set_cons_zero])
          (refine wpAnyH_take (i := 16) (v := ?_) rfl (by kernel_rfl) (by kernel_rfl) (by kernel_rfl) (fun _ _ _ h => h) (Or.inl ⟨by rfl, ?_⟩) (by assumption) ?_; rotate_left; (intro w hSw; (try dsimp only at hSw); go_split_ands; go_simp; first | done | with_reducible rfl); rotate_left; simp only [Act.put, List.getElem_toArray, List.getElem_cons_succ, List.getElem_cons_zero, List.setIfInBounds_toArray, List.set_cons_succ, List.set_cons_zero])
          refine wpAnyH_ready (rs := [12]) (by kernel_rfl) (by simp) ?_
          refine AllReadyH.cons rfl (fun K hK => ?_) AllReadyH.nil
          try dsimp only at hHeld
          go_split_ands
          go_simp
          refine (implSpoolDue_any s bo d 9999 _ (HM.out.below S8.out.below (Nat.le_refl _)) (spoolK_read HF.out (S8.out.nth 4 rfl)) HZ.out).mono ?_
          rintro e w8 ⟨uo, uc, rfl, hk⟩
          rw [HDA.out]
          have S9 : Seal (Pt w w8 [[intsR uo uc (dueR s 9999)], [intsR yo yc Y], [intsR zo zc X], [intsR xo xc X], [Res.cells (w1.heap.size) [.int .i64 s.last, .slice bo s.items.length d]], spoolKR s ⟨bo, d, ps⟩]) := ⟨Pt.join S8.out hk⟩
          clear hk
          refine hK.out _ _ ⟨(S9.out.cellsM 4 rfl).c 0 _ rfl, (S9.out.cellsM 4 rfl).c 1 _ rfl⟩ (fun hHeld => ?_)
          clear hK K
          try simp only [Act.put, List.getElem_toArray, List.getElem_cons_succ, List.getElem_cons_zero, List.setIfInBounds_toArray, List.set_cons_zero, List.set_cons_succ]
          (refine wpAnyH_take (i := 13) (v := ?_) rfl (by kernel_rfl) (by kernel_rfl) (by kernel_rfl) (fun _ _ _ h => h) (Or.inl ⟨by rfl, ?_⟩) (by assumption) ?_; rotate_left; (intro w hSw; (try dsimp only at hSw); go_split_ands; go_simp; first | done | with_reducible rfl); rotate_left; simp only [Act.put, List.getElem_toArray, List.getElem_cons_succ, List.getElem_cons_zero, List.setIfInBounds_toArray, List.set_cons_succ, List.set_cons_zero])
          (refine wpAnyH_take (i := 17) (v := ?_) rfl (by kernel_rfl) (by kernel_rfl) (by kernel_rfl) (fun _ _ _ h => h) (Or.inl ⟨by rfl, ?_⟩) (by assumption) ?_; rotate_left; (intro w hSw; (try dsimp only at hSw); go_split_ands; go_simp; first | done | with_reducible rfl); rotate_left; simp only [Act.put, List.getElem_toArray, List.getElem_cons_succ, List.getElem_cons_zero, List.setIfInBounds_toArray, List.set_cons_succ, List.set_cons_zero])
          (refine wpAnyH_take (i := 18) (v := ?_) rfl (by kernel_rfl) (by kernel_rfl) (by kernel_rfl) (fun _ _ _ h => h) (Or.inl ⟨by rfl, ?_⟩) (by assumption) ?_; rotate_left; (intro w hSw; (try dsimp only at hSw); go_split_ands; go_simp; first | done | with_reducible rfl); rotate_left; simp only [Act.put, List.getElem_toArray, List.getElem_cons_succ, List.getElem_cons_zero, List.setIfInBounds_toArray, List.set_cons_succ, List.set_cons_zero])
          refine wpAnyH_ready (rs := [19]) (by kernel_rfl) (by simp) ?_
          refine AllReadyH.cons rfl (fun K hK => ?_) AllReadyH.nil
          go_simp
          refine hK.out _ _ (by assumption) (fun hHeld => ?_)
          clear hK K
          try simp only [Act.put, List.getElem_toArray, List.getElem_cons_succ, List.getElem_cons_zero, List.setIfInBounds_toArray, List.set_cons_zero, List.set_cons_succ]
          refine wpAnyH_done (by kernel_rfl) ?_ _
          go_wp2
          go_ret
          exact ⟨rfl, S9.out.below⟩
end Go.Proofs.YtcaknjdolfheaaaDoor
