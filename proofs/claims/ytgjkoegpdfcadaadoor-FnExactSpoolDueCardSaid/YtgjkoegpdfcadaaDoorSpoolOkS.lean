/- Contracts: whether an item of a spool is ok, of the model. -/
import Derived.Test.YtgjkoegpdfcadaaDoorSpoolD
import Derived.Test.YtgjkoegpdfcadaaDoorAddrs
namespace Go.Proofs.YtgjkoegpdfcadaaDoor
open Go Go.RowKit

theorem tryB_in (x : RcptD) : tryB x = (inB x.tries 0 3 && inB x.next 0 9999) := rfl
set_option maxRecDepth 100000 in
theorem l5RcptOk_any (x : RcptD) (w : World) (hu : x.u.size ≤ 1048576) (hd : x.d.size ≤ 1048576) :
    Calls Tryd.prog 238 #[.agg (rcptV x)] w fun e w' => e = .returned (.bool (rcptB x)) ∧ Below w.heap.size w w' := by
  have S0 : Seal _ := ⟨(St.start w).alloc (rcptV x) 66⟩
  obtain ⟨v1, h1⟩ : ∃ v, addrB x.u x.d = v := ⟨_, rfl⟩
  obtain ⟨v2, h2⟩ : ∃ v, inB x.tries 0 3 = v := ⟨_, rfl⟩
  obtain ⟨v3, h3⟩ : ∃ v, inB x.next 0 9999 = v := ⟨_, rfl⟩
  have HQ : Seal (rcptB x = (v1 && (v2 && v3))) := ⟨by unfold rcptB; rw [tryB_in, h1, h2, h3]⟩
  have H1 : Seal _ := ⟨h1⟩
  have C2 : Seal _ := ⟨l1In_any x.tries 0 3⟩
  have C3 : Seal _ := ⟨l1In_any x.next 0 9999⟩
  rw [h2] at C2
  rw [h3] at C3
  clear h1 h2 h3
  go_enter Tryd.func238, Tryd.ntmps238
  go_wp2_with fail
  refine (l1AddrOk_any x.u x.d _ (by omega) (by omega)).mono ?_
  rintro e w1 ⟨rfl, hb1⟩
  rw [H1.out]
  have S1 : Seal _ := ⟨S0.out.later hb1⟩
  have g2 := S1.out.head.c 2 _ rfl
  have g3 := S1.out.head.c 3 _ rfl
  clear hb1 S0
  cases v1
  · have hm : Seal (rcptB x = false) := ⟨HQ.out⟩
    go_wp2
    go_ret
    exact ⟨ret_b hm.out.symm, S1.out.below⟩
  · go_wp2_with fail
    refine (C2.out _).mono ?_
    rintro e w2 ⟨rfl, rfl⟩
    cases v2
    · have hm : Seal (rcptB x = false) := ⟨HQ.out⟩
      go_wp2
      go_ret
      exact ⟨ret_b hm.out.symm, S1.out.below⟩
    · go_wp2_with fail
      refine (C3.out _).mono ?_
      rintro e w2 ⟨rfl, rfl⟩
      have hm : Seal (rcptB x = v3) := ⟨by rw [HQ.out]; rfl⟩
      go_wp2
      go_ret
      exact ⟨ret_b hm.out.symm, S1.out.below⟩

theorem pair_eqs {y z : RcptD} (h : rcptPair z = rcptPair y) : z.u = y.u ∧ z.d = y.d := by
  unfold rcptPair at h
  exact ⟨congrArg Prod.fst h, congrArg Prod.snd h⟩
theorem pair_nes {y z : RcptD} (h : rcptPair z ≠ rcptPair y) : ¬ z.u.toList = y.u.toList ∨ (z.u.toList = y.u.toList ∧ ¬ z.d.toList = y.d.toList) := pair_ne h

/-- All of an item, its number too. -/
def itemAllB (x : ItemD) : Bool := decide (0 < x.id) && itemB x

set_option maxHeartbeats 3200000 in
set_option maxRecDepth 100000 in
theorem l5ItemOk_any (x : ItemD) (p : ItemV) (w : World) (hat : ItemAt w x p) (hz : itemN x ≤ 1048576) :
    Calls Tryd.prog 182 #[.agg (itemV x p)] w fun e w' => e = .returned (.bool (itemAllB x)) ∧ Below w.heap.size w w' := by
  obtain ⟨z1, z2, z3, z4, z5, z6⟩ := itemN_parts hz
  have HA : Seal _ := ⟨hat⟩
  have Z4 : Seal _ := ⟨z4⟩
  have Z6 : Seal (∀ y ∈ x.body, y.size ≤ maxLen) := ⟨fun y hy => Nat.le_trans (z6 y hy) (by unfold maxLen; omega)⟩
  have Z5 : x.body.length ≤ maxLen := Nat.le_trans z5 (by unfold maxLen; omega)
  have S0 : Seal (St w _ [Res.cells w.heap.size (itemL x p)]) := ⟨(St.start w).alloc (itemV x p) 64⟩
  clear hat hz z4 z6
  go_enter Tryd.func182, Tryd.ntmps182
  go_wp2
  go_loopw [3] (fun i wr => ∃ k : Nat, k ≤ x.rc.length ∧ i = .int .i64 k ∧ Seal ((x.rc.take k).all rcptB = true) ∧ Seal (((x.rc.take k).map rcptPair).Nodup) ∧ Seal (St w wr [Res.cells w.heap.size (itemL x p)])) (fun i _ => x.rc.length - (intOf i).toNat)
  case atStart => exact ⟨0, Nat.zero_le _, rfl, ⟨by simp⟩, ⟨by simp⟩, S0⟩
  case round =>
    obtain ⟨k, hk, rfl, HB, HN, S⟩ := hrel
    clear S0
    have g3 := S.out.head.c 3 _ rfl
    by_cases hlt : k < x.rc.length
    · obtain ⟨y, hy⟩ : ∃ y, x.rc[k]? = some y := ⟨_, List.getElem?_eq_getElem hlt⟩
      obtain ⟨b, off, ea, c0, c1, c2, c3⟩ := rcptAt (HA.out.rc.below rcptP_stays S.out.below (Nat.le_refl _)) hy
      obtain ⟨s1, s2⟩ := Z4.out y (List.mem_of_getElem? hy)
      have HY : Seal _ := ⟨hy⟩
      rw [ea] at g3
      obtain ⟨v, hv⟩ : ∃ v, rcptB y = v := ⟨_, rfl⟩
      have HV : Seal _ := ⟨hv⟩
      have EA : Seal _ := ⟨ea⟩
      clear hy hv ea
      go_wp2_with fail
      refine (l5RcptOk_any y _ s1 s2).mono ?_
      rintro e w1 ⟨rfl, hb1⟩
      rw [HV.out]
      have S1 : Seal _ := ⟨S.out.later hb1⟩
      clear hb1 S c0 c1 c2 c3 g3
      cases v
      · have hm : Seal (itemAllB x = false) := ⟨by unfold itemAllB; rw [itemB_rcpt HY.out HV.out]; simp⟩
        go_wp2
        go_ret
        exact ⟨ret_b hm.out.symm, S1.out.below⟩
      · go_wp2
        go_loopw [4] (fun i wx => ∃ j : Nat, j ≤ k ∧ i = .int .i64 j ∧ Seal (∀ i z, i < j → x.rc[i]? = some z → rcptPair z ≠ rcptPair y) ∧ Seal (St w wx [Res.cells w.heap.size (itemL x p)])) (fun i _ => k - (intOf i).toNat)
        case atStart => exact ⟨0, Nat.zero_le _, rfl, ⟨fun i z hi => by omega⟩, S1⟩
        case round =>
          obtain ⟨j, hj, rfl, HD, S2⟩ := hrel
          clear S1
          have g3 := S2.out.head.c 3 _ rfl
          rw [EA.out] at g3
          by_cases hlj : j < k
          · obtain ⟨z, hz⟩ : ∃ z, x.rc[j]? = some z := ⟨_, List.getElem?_eq_getElem (by omega)⟩
            have RR := HA.out.rc.below rcptP_stays S2.out.below (Nat.le_refl _)
            rw [EA.out] at RR
            obtain ⟨b', off', e', d0, d1, d2, d3⟩ := rcptAt RR hz
            obtain ⟨b'', off'', e'', c0, c1, c2, c3⟩ := rcptAt RR HY.out
            cases e'
            cases e''
            have HZ : Seal _ := ⟨hz⟩
            clear hz RR
            by_cases hqp : rcptPair z = rcptPair y
            · obtain ⟨q1, q2⟩ := pair_eqs hqp
              have hm : Seal (itemAllB x = false) := ⟨by unfold itemAllB; rw [itemB_twice HY.out HZ.out hlj hqp]; simp⟩
              rw [q1] at d0
              rw [q2] at d1
              clear hqp q1 q2
              go_wp2_with fail
              go_quiet (fail)
              have B3 := drewN_below S2.out.below nq
              go_wp2
              go_ret
              exact ⟨ret_b hm.out.symm, by assumption⟩
            · have HD2 : Seal (∀ i z, i < j + 1 → x.rc[i]? = some z → rcptPair z ≠ rcptPair y) := ⟨fun i u hi e => by
                by_cases hij : i = j
                · subst hij
                  rw [HZ.out] at e
                  rw [← Option.some.inj e]
                  exact hqp
                · exact HD.out i u (by omega) e⟩
              rcases pair_nes hqp with h1 | ⟨h1, h2⟩
              all_goals
                clear hqp
                go_wp2_with fail
                go_quiet (fail)
                go_wp2
                exact ⟨⟨j + 1, by omega, by go_num, HD2, ⟨S2.out.later (drewN_below (Below.refl _ _) _)⟩⟩, by simp [intOf]; omega⟩
          · obtain rfl : j = k := by omega
            have HB2 : Seal ((x.rc.take (j + 1)).all rcptB = true) := ⟨list_all_succ HY.out HB.out HV.out⟩
            have HN2 : Seal (((x.rc.take (j + 1)).map rcptPair).Nodup) := ⟨rcpt_nodup_succ HY.out HN.out HD.out⟩
            go_wp2
            go_roundw
            case rel => exact ⟨j + 1, by omega, by go_num, HB2, HN2, S2⟩
            case measure => simp [intOf]; omega
    · obtain rfl : k = x.rc.length := by omega
      have hAll := HB.out
      have hNod := HN.out
      rw [List.take_length] at hAll hNod
      have hE := itemB_end hAll hNod
      obtain ⟨va, ha⟩ : ∃ v, addrB x.fu x.fd = v := ⟨_, rfl⟩
      obtain ⟨vn, hn⟩ : ∃ v, nullB x.fu x.fd = v := ⟨_, rfl⟩
      obtain ⟨vi, hi⟩ : ∃ v, inB (x.rc.length : Int) 1 4 = v := ⟨_, rfl⟩
      obtain ⟨vb, hb⟩ : ∃ v, bodyB x.body = v := ⟨_, rfl⟩
      have hi2 : decide (1 ≤ x.rc.length ∧ x.rc.length ≤ 4) = vi := by rw [← hi]; unfold inB; rw [decide_eq_decide]; omega
      have HQ : Seal (itemB x = ((vn || va) && (vi && vb))) := ⟨by rw [hE]; unfold senderB; rw [ha, hn, hi2, hb]⟩
      have HVA : Seal _ := ⟨ha⟩
      have HVN : Seal _ := ⟨hn⟩
      have HVI : Seal _ := ⟨hi⟩
      have HVB : Seal _ := ⟨hb⟩
      have g0 := S.out.head.c 0 _ rfl
      have g1 := S.out.head.c 1 _ rfl
      have g2 := S.out.head.c 2 _ rfl
      clear hAll hNod hE ha hn hi hb hi2 HB HN
      by_cases hid : 0 < x.id
      · have HQ2 : Seal (itemAllB x = ((vn || va) && (vi && vb))) := ⟨by unfold itemAllB; rw [decide_eq_true hid, HQ.out]; rfl⟩
        clear HQ
        go_wp2_with fail
        refine (l1AddrOk_any x.fu x.fd _ (by omega) (by omega)).mono ?_
        rintro e w1 ⟨rfl, hb1⟩
        rw [HVA.out]
        have S1 : Seal _ := ⟨S.out.later hb1⟩
        clear hb1 S g0 g1 g2 g3 HVA
        have g1 := S1.out.head.c 1 _ rfl
        have g2 := S1.out.head.c 2 _ rfl
        have g3 := S1.out.head.c 3 _ rfl
        have g4 := S1.out.head.c 4 _ rfl
        cases va
        · go_wp2_with fail
          refine (l1Null_is x.fu x.fd vn HVN.out _).mono ?_
          rintro e w2 ⟨rfl, hb2⟩
          have S2 : Seal _ := ⟨S1.out.later hb2⟩
          clear hb2 S1 g1 g2 g3 g4
          have g3 := S2.out.head.c 3 _ rfl
          have g4 := S2.out.head.c 4 _ rfl
          cases vn
          · have hm : Seal (itemAllB x = false) := ⟨HQ2.out⟩
            go_wp2
            go_ret
            exact ⟨ret_b hm.out.symm, S2.out.below⟩
          · go_wp2_with fail
            refine (l1In_any _ _ _ _).mono ?_
            rintro e w3 ⟨rfl, rfl⟩
            rw [HVI.out]
            cases vi
            · have hm : Seal (itemAllB x = false) := ⟨HQ2.out⟩
              go_wp2
              go_ret
              exact ⟨ret_b hm.out.symm, S2.out.below⟩
            · have hm : Seal (itemAllB x = vb) := ⟨by rw [HQ2.out]; rfl⟩
              go_wp2_with fail
              refine (l2BodyOk_any p.a2 p.c2 x.body _ (HA.out.body.below S2.out.below (Nat.le_refl _)) Z5 Z6.out).mono ?_
              rintro e w4 ⟨rfl, rfl⟩
              rw [HVB.out]
              go_wp2
              go_ret
              exact ⟨ret_b hm.out.symm, S2.out.below⟩
        · have hs : ((vn || true) && (vi && vb)) = (vi && vb) := by cases vn <;> rfl
          rw [hs] at HQ2
          clear hs
          go_wp2_with fail
          refine (l1In_any _ _ _ _).mono ?_
          rintro e w3 ⟨rfl, rfl⟩
          rw [HVI.out]
          cases vi
          · have hm : Seal (itemAllB x = false) := ⟨HQ2.out⟩
            go_wp2
            go_ret
            exact ⟨ret_b hm.out.symm, S1.out.below⟩
          · have hm : Seal (itemAllB x = vb) := ⟨by rw [HQ2.out]; rfl⟩
            go_wp2_with fail
            refine (l2BodyOk_any p.a2 p.c2 x.body _ (HA.out.body.below S1.out.below (Nat.le_refl _)) Z5 Z6.out).mono ?_
            rintro e w4 ⟨rfl, rfl⟩
            rw [HVB.out]
            go_wp2
            go_ret
            exact ⟨ret_b hm.out.symm, S1.out.below⟩
      · have hm : Seal (itemAllB x = false) := ⟨by unfold itemAllB; rw [decide_eq_false hid]; rfl⟩
        go_wp2
        go_ret
        exact ⟨ret_b hm.out.symm, S.out.below⟩
end Go.Proofs.YtgjkoegpdfcadaaDoor
