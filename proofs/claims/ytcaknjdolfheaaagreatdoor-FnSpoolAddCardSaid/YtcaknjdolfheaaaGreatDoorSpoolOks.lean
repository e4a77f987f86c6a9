/- SpoolOkS, SpoolOkL, SpoolOne, SpoolFind, SpoolEvery, SpoolValid, SpoolOkI, SpoolMany. -/
import Derived.Test.YtcaknjdolfheaaaGreatDoorTk
import Derived.Test.YtcaknjdolfheaaaGreatDoorSpools
import Derived.Test.YtcaknjdolfheaaaGreatDoorAddrs
import Derived.Deep.RegionHeld3
import Derived.Deep.RegionWith
import Derived.Laws.EntriesVeiled
namespace Go.Proofs.YtcaknjdolfheaaaGreatDoor
open Go Go.RowKit

theorem tryB_in (x : RcptD) : tryB x = (inB x.tries 0 3 && inB x.next 0 9999) := rfl
set_option maxRecDepth 100000 in
theorem l5RcptOk_any (x : RcptD) (w : World) (hu : x.u.size ≤ 1048576) (hd : x.d.size ≤ 1048576) :
    Calls Tryz.prog 186 #[.agg (rcptV x)] w fun e w' => e = .returned (.bool (rcptB x)) ∧ Below w.heap.size w w' := by
  have S0 : Seal _ := ⟨(St.start w).alloc (rcptV x) 105⟩
  obtain ⟨v1, h1⟩ : ∃ v, addrB x.u x.d = v := ⟨_, rfl⟩
  obtain ⟨v2, h2⟩ : ∃ v, inB x.tries 0 3 = v := ⟨_, rfl⟩
  obtain ⟨v3, h3⟩ : ∃ v, inB x.next 0 9999 = v := ⟨_, rfl⟩
  have HQ : Seal (rcptB x = (v1 && (v2 && v3))) := ⟨by unfold rcptB; rw [tryB_in, h1, h2, h3]⟩
  have H1 : Seal _ := ⟨h1⟩
  have C2 : Seal _ := ⟨l1In_any x.tries 0 3⟩
  have C3 : Seal _ := ⟨l1In_any x.next 0 9999⟩
  rw [h2] at C2
  rw [h3] at C3
  clear h1 h2 h3
  go_enter Tryz.func186, Tryz.ntmps186
  go_wp2_with fail
  refine (l1AddrOk_any x.u x.d _ (by omega) (by omega)).mono ?_
  rintro e w1 ⟨rfl, hb1⟩
  rw [H1.out]
  have S1 : Seal _ := ⟨S0.out.later hb1⟩
  have g2 := S1.out.head.c 2 _ rfl
  have g3 := S1.out.head.c 3 _ rfl
  clear hb1 S0
  cases v1
  · have hm : Seal (rcptB x = false) := ⟨HQ.out⟩
    go_wp2
    go_ret
    exact ⟨ret_b hm.out.symm, S1.out.below⟩
  · go_wp2_with fail
    refine (C2.out _).mono ?_
    rintro e w2 ⟨rfl, rfl⟩
    cases v2
    · have hm : Seal (rcptB x = false) := ⟨HQ.out⟩
      go_wp2
      go_ret
      exact ⟨ret_b hm.out.symm, S1.out.below⟩
    · go_wp2_with fail
      refine (C3.out _).mono ?_
      rintro e w2 ⟨rfl, rfl⟩
      have hm : Seal (rcptB x = v3) := ⟨by rw [HQ.out]; rfl⟩
      go_wp2
      go_ret
      exact ⟨ret_b hm.out.symm, S1.out.below⟩

theorem pair_eqs {y z : RcptD} (h : rcptPair z = rcptPair y) : z.u = y.u ∧ z.d = y.d := by
  unfold rcptPair at h
  exact ⟨congrArg Prod.fst h, congrArg Prod.snd h⟩
theorem pair_nes {y z : RcptD} (h : rcptPair z ≠ rcptPair y) : ¬ z.u.toList = y.u.toList ∨ (z.u.toList = y.u.toList ∧ ¬ z.d.toList = y.d.toList) := pair_ne h

/-- All of an item, its number too. -/
def itemAllB (x : ItemD) : Bool := decide (0 < x.id) && itemB x

set_option maxHeartbeats 3200000 in
set_option maxRecDepth 100000 in
theorem l5ItemOk_any (x : ItemD) (p : ItemV) (w : World) (hat : ItemAt w x p) (hz : itemN x ≤ 1048576) :
    Calls Tryz.prog 120 #[.agg (itemV x p)] w fun e w' => e = .returned (.bool (itemAllB x)) ∧ Below w.heap.size w w' := by
  obtain ⟨z1, z2, z3, z4, z5, z6⟩ := itemN_parts hz
  have HA : Seal _ := ⟨hat⟩
  have Z4 : Seal _ := ⟨z4⟩
  have Z6 : Seal (∀ y ∈ x.body, y.size ≤ maxLen) := ⟨fun y hy => Nat.le_trans (z6 y hy) (by unfold maxLen; omega)⟩
  have Z5 : x.body.length ≤ maxLen := Nat.le_trans z5 (by unfold maxLen; omega)
  have S0 : Seal (St w _ [Res.cells w.heap.size (itemL x p)]) := ⟨(St.start w).alloc (itemV x p) 43⟩
  clear hat hz z4 z6
  go_enter Tryz.func120, Tryz.ntmps120
  go_wp2
  go_loopw [3] (fun i wr => ∃ k : Nat, k ≤ x.rc.length ∧ i = .int .i64 k ∧ Seal ((x.rc.take k).all rcptB = true) ∧ Seal (((x.rc.take k).map rcptPair).Nodup) ∧ Seal (St w wr [Res.cells w.heap.size (itemL x p)])) (fun i _ => x.rc.length - (intOf i).toNat)
  case atStart => exact ⟨0, Nat.zero_le _, rfl, ⟨by simp⟩, ⟨by simp⟩, S0⟩
  case round =>
    obtain ⟨k, hk, rfl, HB, HN, S⟩ := hrel
    clear S0
    have g3 := S.out.head.c 3 _ rfl
    by_cases hlt : k < x.rc.length
    · obtain ⟨y, hy⟩ : ∃ y, x.rc[k]? = some y := ⟨_, List.getElem?_eq_getElem hlt⟩
      obtain ⟨b, off, ea, c0, c1, c2, c3⟩ := rcptAt (HA.out.rc.below rcptP_stays S.out.below (Nat.le_refl _)) hy
      obtain ⟨s1, s2⟩ := Z4.out y (List.mem_of_getElem? hy)
      have HY : Seal _ := ⟨hy⟩
      rw [ea] at g3
      obtain ⟨v, hv⟩ : ∃ v, rcptB y = v := ⟨_, rfl⟩
      have HV : Seal _ := ⟨hv⟩
      have EA : Seal _ := ⟨ea⟩
      clear hy hv ea
      go_wp2_with fail
      refine (l5RcptOk_any y _ s1 s2).mono ?_
      rintro e w1 ⟨rfl, hb1⟩
      rw [HV.out]
      have S1 : Seal _ := ⟨S.out.later hb1⟩
      clear hb1 S c0 c1 c2 c3 g3
      cases v
      · have hm : Seal (itemAllB x = false) := ⟨by unfold itemAllB; rw [itemB_rcpt HY.out HV.out]; simp⟩
        go_wp2
        go_ret
        exact ⟨ret_b hm.out.symm, S1.out.below⟩
      · go_wp2
        go_loopw [4] (fun i wx => ∃ j : Nat, j ≤ k ∧ i = .int .i64 j ∧ Seal (∀ i z, i < j → x.rc[i]? = some z → rcptPair z ≠ rcptPair y) ∧ Seal (St w wx [Res.cells w.heap.size (itemL x p)])) (fun i _ => k - (intOf i).toNat)
        case atStart => exact ⟨0, Nat.zero_le _, rfl, ⟨fun i z hi => by omega⟩, S1⟩
        case round =>
          obtain ⟨j, hj, rfl, HD, S2⟩ := hrel
          clear S1
          have g3 := S2.out.head.c 3 _ rfl
          rw [EA.out] at g3
          by_cases hlj : j < k
          · obtain ⟨z, hz⟩ : ∃ z, x.rc[j]? = some z := ⟨_, List.getElem?_eq_getElem (by omega)⟩
            have RR := HA.out.rc.below rcptP_stays S2.out.below (Nat.le_refl _)
            rw [EA.out] at RR
            obtain ⟨b', off', e', d0, d1, d2, d3⟩ := rcptAt RR hz
            obtain ⟨b'', off'', e'', c0, c1, c2, c3⟩ := rcptAt RR HY.out
            cases e'
            cases e''
            have HZ : Seal _ := ⟨hz⟩
            clear hz RR
            by_cases hqp : rcptPair z = rcptPair y
            · obtain ⟨q1, q2⟩ := pair_eqs hqp
              have hm : Seal (itemAllB x = false) := ⟨by unfold itemAllB; rw [itemB_twice HY.out HZ.out hlj hqp]; simp⟩
              rw [q1] at d0
              rw [q2] at d1
              clear hqp q1 q2
              go_wp2_with fail
              go_quiet (fail)
              have B3 := drewN_below S2.out.below nq
              go_wp2
              go_ret
              exact ⟨ret_b hm.out.symm, by assumption⟩
            · have HD2 : Seal (∀ i z, i < j + 1 → x.rc[i]? = some z → rcptPair z ≠ rcptPair y) := ⟨fun i u hi e => by
                by_cases hij : i = j
                · subst hij
                  rw [HZ.out] at e
                  rw [← Option.some.inj e]
                  exact hqp
                · exact HD.out i u (by omega) e⟩
              rcases pair_nes hqp with h1 | ⟨h1, h2⟩
              all_goals
                clear hqp
                go_wp2_with fail
                go_quiet (fail)
                go_wp2
                exact ⟨⟨j + 1, by omega, by go_num, HD2, ⟨S2.out.later (drewN_below (Below.refl _ _) _)⟩⟩, by simp [intOf]; omega⟩
          · obtain rfl : j = k := by omega
            have HB2 : Seal ((x.rc.take (j + 1)).all rcptB = true) := ⟨list_all_succ HY.out HB.out HV.out⟩
            have HN2 : Seal (((x.rc.take (j + 1)).map rcptPair).Nodup) := ⟨rcpt_nodup_succ HY.out HN.out HD.out⟩
            go_wp2
            go_roundw
            case rel => exact ⟨j + 1, by omega, by go_num, HB2, HN2, S2⟩
            case measure => simp [intOf]; omega
    · obtain rfl : k = x.rc.length := by omega
      have hAll := HB.out
      have hNod := HN.out
      rw [List.take_length] at hAll hNod
      have hE := itemB_end hAll hNod
      obtain ⟨va, ha⟩ : ∃ v, addrB x.fu x.fd = v := ⟨_, rfl⟩
      obtain ⟨vn, hn⟩ : ∃ v, nullB x.fu x.fd = v := ⟨_, rfl⟩
      obtain ⟨vi, hi⟩ : ∃ v, inB (x.rc.length : Int) 1 4 = v := ⟨_, rfl⟩
      obtain ⟨vb, hb⟩ : ∃ v, bodyB x.body = v := ⟨_, rfl⟩
      have hi2 : decide (1 ≤ x.rc.length ∧ x.rc.length ≤ 4) = vi := by rw [← hi]; unfold inB; rw [decide_eq_decide]; omega
      have HQ : Seal (itemB x = ((vn || va) && (vi && vb))) := ⟨by rw [hE]; unfold senderB; rw [ha, hn, hi2, hb]⟩
      have HVA : Seal _ := ⟨ha⟩
      have HVN : Seal _ := ⟨hn⟩
      have HVI : Seal _ := ⟨hi⟩
      have HVB : Seal _ := ⟨hb⟩
      have g0 := S.out.head.c 0 _ rfl
      have g1 := S.out.head.c 1 _ rfl
      have g2 := S.out.head.c 2 _ rfl
      clear hAll hNod hE ha hn hi hb hi2 HB HN
      by_cases hid : 0 < x.id
      · have HQ2 : Seal (itemAllB x = ((vn || va) && (vi && vb))) := ⟨by unfold itemAllB; rw [decide_eq_true hid, HQ.out]; rfl⟩
        clear HQ
        go_wp2_with fail
        refine (l1AddrOk_any x.fu x.fd _ (by omega) (by omega)).mono ?_
        rintro e w1 ⟨rfl, hb1⟩
        rw [HVA.out]
        have S1 : Seal _ := ⟨S.out.later hb1⟩
        clear hb1 S g0 g1 g2 g3 HVA
        have g1 := S1.out.head.c 1 _ rfl
        have g2 := S1.out.head.c 2 _ rfl
        have g3 := S1.out.head.c 3 _ rfl
        have g4 := S1.out.head.c 4 _ rfl
        cases va
        · go_wp2_with fail
          refine (l1Null_is x.fu x.fd vn HVN.out _).mono ?_
          rintro e w2 ⟨rfl, hb2⟩
          have S2 : Seal _ := ⟨S1.out.later hb2⟩
          clear hb2 S1 g1 g2 g3 g4
          have g3 := S2.out.head.c 3 _ rfl
          have g4 := S2.out.head.c 4 _ rfl
          cases vn
          · have hm : Seal (itemAllB x = false) := ⟨HQ2.out⟩
            go_wp2
            go_ret
            exact ⟨ret_b hm.out.symm, S2.out.below⟩
          · go_wp2_with fail
            refine (l1In_any _ _ _ _).mono ?_
            rintro e w3 ⟨rfl, rfl⟩
            rw [HVI.out]
            cases vi
            · have hm : Seal (itemAllB x = false) := ⟨HQ2.out⟩
              go_wp2
              go_ret
              exact ⟨ret_b hm.out.symm, S2.out.below⟩
            · have hm : Seal (itemAllB x = vb) := ⟨by rw [HQ2.out]; rfl⟩
              go_wp2_with fail
              refine (l2BodyOk_any p.a2 p.c2 x.body _ (HA.out.body.below S2.out.below (Nat.le_refl _)) Z5 Z6.out).mono ?_
              rintro e w4 ⟨rfl, rfl⟩
              rw [HVB.out]
              go_wp2
              go_ret
              exact ⟨ret_b hm.out.symm, S2.out.below⟩
        · have hs : ((vn || true) && (vi && vb)) = (vi && vb) := by cases vn <;> rfl
          rw [hs] at HQ2
          clear hs
          go_wp2_with fail
          refine (l1In_any _ _ _ _).mono ?_
          rintro e w3 ⟨rfl, rfl⟩
          rw [HVI.out]
          cases vi
          · have hm : Seal (itemAllB x = false) := ⟨HQ2.out⟩
            go_wp2
            go_ret
            exact ⟨ret_b hm.out.symm, S1.out.below⟩
          · have hm : Seal (itemAllB x = vb) := ⟨by rw [HQ2.out]; rfl⟩
            go_wp2_with fail
            refine (l2BodyOk_any p.a2 p.c2 x.body _ (HA.out.body.below S1.out.below (Nat.le_refl _)) Z5 Z6.out).mono ?_
            rintro e w4 ⟨rfl, rfl⟩
            rw [HVB.out]
            go_wp2
            go_ret
            exact ⟨ret_b hm.out.symm, S1.out.below⟩
      · have hm : Seal (itemAllB x = false) := ⟨by unfold itemAllB; rw [decide_eq_false hid]; rfl⟩
        go_wp2
        go_ret
        exact ⟨ret_b hm.out.symm, S.out.below⟩
end Go.Proofs.YtcaknjdolfheaaaGreatDoor
namespace Go.Proofs.YtcaknjdolfheaaaGreatDoor
open Go Go.RowKit

theorem itemAll_false {x : ItemD} (h : itemAllB x = false) : x.id ≤ 0 ∨ itemB x = false := by
  unfold itemAllB at h
  rw [Bool.and_eq_false_iff, decide_eq_false_iff_not] at h
  rcases h with h | h
  · exact .inl (by omega)
  · exact .inr h
theorem itemAll_true {x : ItemD} (h : itemAllB x = true) : 0 < x.id ∧ itemB x = true := by
  unfold itemAllB at h
  rw [Bool.and_eq_true, decide_eq_true_eq] at h
  exact h
theorem spoolB_bad {s : SpoolD} {k : Nat} {x : ItemD} (hx : s.items[k]? = some x) (h : itemAllB x = false) : spoolB s = false := by
  rcases itemAll_false h with h1 | h1
  · cases ha : ascB s.last 0 s.items with
    | false => exact spoolB_asc ha
    | true =>
      have := (ahead_pos (Int.le_refl 0) ha x (List.mem_of_getElem? hx)).1
      omega
  · exact spoolB_item (List.mem_of_getElem? hx) h1

set_option maxHeartbeats 16000000 in
set_option maxRecDepth 100000 in
theorem l5Ok_any (s : SpoolD) (ao : Option Addr) (cap : Nat) (w : World) (hat : ItemRow w ao s.items) (hz : spoolN s ≤ 1048576) :
    Calls Tryz.prog 63 #[.agg (spoolV s ao cap)] w fun e w' => e = .returned (.bool (spoolB s)) ∧ Below w.heap.size w w' := by
  obtain ⟨z1, z2⟩ := spoolN_parts hz
  have HZ : Seal _ := ⟨z2⟩
  have HA : Seal _ := ⟨hat⟩
  have S0 : Seal (St w _ [Res.cells w.heap.size (spoolL s ao cap)]) := ⟨(St.start w).alloc (spoolV s ao cap) 25⟩
  clear hat hz z2
  go_enter Tryz.func63, Tryz.ntmps63
  go_wp2
  go_loopw [3] (fun i wr => ∃ k : Nat, k ≤ s.items.length ∧ i = .int .i64 k ∧ Seal ((s.items.take k).all itemB = true) ∧ Seal (ascB s.last 0 s.items = ascB s.last (ahead s.items k) (s.items.drop k)) ∧ Seal (St w wr [Res.cells w.heap.size (spoolL s ao cap)])) (fun i _ => s.items.length - (intOf i).toNat)
  case atStart => exact ⟨0, Nat.zero_le _, rfl, ⟨by simp⟩, ⟨rfl⟩, S0⟩
  case round =>
    obtain ⟨k, hk, rfl, HB, HI, S⟩ := hrel
    clear S0
    have g0 := S.out.head.c 0 _ rfl
    have g1 := S.out.head.c 1 _ rfl
    by_cases hlt : k < s.items.length
    · obtain ⟨x, hx⟩ : ∃ x, s.items[k]? = some x := ⟨_, List.getElem?_eq_getElem hlt⟩
      have RR := HA.out.below itemP_stays S.out.below (Nat.le_refl _)
      obtain ⟨b, off, p, ea, c0, c1, c2, c3, c4, ia⟩ := itemAt RR hx
      rw [ea] at g1
      have HX : Seal _ := ⟨hx⟩
      have IA : Seal _ := ⟨ia⟩
      have HZX : Seal _ := ⟨HZ.out x (List.mem_of_getElem? hx)⟩
      obtain ⟨v, hv⟩ : ∃ v, itemAllB x = v := ⟨_, rfl⟩
      have HV : Seal _ := ⟨hv⟩
      rw [ea] at RR
      have RA : Seal _ := ⟨RR⟩
      clear hx ia RR ea
      cases v
      · have hm : Seal (spoolB s = false) := ⟨spoolB_bad HX.out hv⟩
        clear hv
        go_wp2_with fail
        refine wp_region_held_drew (S := (fun w' => w'.cell? ⟨w.heap.size, 0, none⟩ = some (.int .i64 s.last) ∧ w'.cell? ⟨w.heap.size, 1, none⟩ = some (.slice (some ⟨b, off, none⟩) s.items.length cap) ∧ w'.cell? ⟨b, off + k * 5, none⟩ = some (.int .i64 x.id) ∧ w'.cell? ⟨b, off + k * 5 + 1, none⟩ = some (.string x.fu) ∧ w'.cell? ⟨b, off + k * 5 + 2, none⟩ = some (.string x.fd) ∧ w'.cell? ⟨b, off + k * 5 + 3, none⟩ = some (.slice p.a1 x.rc.length p.c1) ∧ w'.cell? ⟨b, off + k * 5 + 4, none⟩ = some (.slice p.a2 x.body.length p.c2) ∧ Below wr.heap.size wr w')) (by kernel_rfl) ⟨g0, g1, c0, c1, c2, c3, c4, (Below.refl _ _).drew⟩ (fun hHeld => ?_)
        refine tkH 0 (by assumption) (h := ?_)
        refine tkH 1 (by assumption) (h := ?_)
        refine tkH 2 (by assumption) (h := ?_)
        refine tkH 3 (by assumption) (h := ?_)
        refine tkH 4 (by assumption) (h := ?_)
        refine wpAnyH_ready (rs := [5]) (by kernel_rfl) (by simp) ?_
        refine AllReadyH.cons rfl (fun K hK => ?_) AllReadyH.nil
        try dsimp only at hHeld
        go_split_ands
        go_simp
        refine (l5ItemOk_any x p _ (IA.out.later (by assumption : Below wr.heap.size wr _)) HZX.out).mono ?_
        rintro e w1 ⟨rfl, hb1⟩
        rw [HV.out]
        refine hK.out _ _ ⟨heldc (by assumption) hb1, heldc (by assumption) hb1, heldc (by assumption) hb1, heldc (by assumption) hb1, heldc (by assumption) hb1, heldc (by assumption) hb1, heldc (by assumption) hb1, (by assumption : Below wr.heap.size wr _).trans (hb1.mono (by assumption : Below wr.heap.size wr _).size)⟩ (fun hHeld => ?_)
        clear hK K
        try simp only [Act.put, List.setIfInBounds_toArray, List.set_cons_zero, List.set_cons_succ]
        refine tkH 6 (by assumption) (h := ?_)
        refine tkH 7 (by assumption) (h := ?_)
        refine tkN 8 (by assumption) (h := ?_)
        refine tkN 9 (by assumption) (h := ?_)
        refine tkN 10 (by assumption) (h := ?_)
        refine tkN 11 (by assumption) (h := ?_)
        refine tkN 12 (by assumption) (h := ?_)
        refine tkN 13 (by assumption) (h := ?_)
        refine tkN 14 (by assumption) (h := ?_)
        refine tkN 15 (by assumption) (h := ?_)
        refine tkN 16 (by assumption) (h := ?_)
        refine tkH 17 (by assumption) (h := ?_)
        refine tkH 18 (by assumption) (h := ?_)
        refine tkN 19 (by assumption) (h := ?_)
        refine tkN 20 (by assumption) (h := ?_)
        refine tkN 21 (by assumption) (h := ?_)
        refine tkN 22 (by assumption) (h := ?_)
        refine tkN 23 (by assumption) (h := ?_)
        refine tkN 24 (by assumption) (h := ?_)
        refine tkN 25 (by assumption) (h := ?_)
        refine tkN 26 (by assumption) (h := ?_)
        refine tkN 27 (by assumption) (h := ?_)
        refine tkN 28 (by assumption) (h := ?_)
        refine tkN 29 (by assumption) (h := ?_)
        refine tkN 30 (by assumption) (h := ?_)
        refine tkN 31 (by assumption) (h := ?_)
        refine tkN 32 (by assumption) (h := ?_)
        refine tkN 33 (by assumption) (h := ?_)
        refine tkN 34 (by assumption) (h := ?_)
        refine tkN 35 (by assumption) (h := ?_)
        refine tkN 36 (by assumption) (h := ?_)
        refine tkH 37 (by assumption) (h := ?_)
        refine wpAnyH_done (by kernel_rfl) ?_ _
        try dsimp only at hHeld
        go_split_ands
        have hbx := (by assumption : Below wr.heap.size wr _)
        clear c0 c1 c2 c3 c4 g0 g1
        go_wp2
        go_ret
        exact ⟨ret_b hm.out.symm, (S.out.later hbx).below⟩
      obtain ⟨hpos, hib⟩ := itemAll_true hv
      have HA2 : Seal ((s.items.take (k + 1)).all itemB = true) := ⟨list_all_succ HX.out HB.out hib⟩
      clear hv hib
      by_cases hlast : s.last < x.id
      · have hm : Seal (spoolB s = false) := ⟨spoolB_asc (asc_miss HX.out HI.out (by omega))⟩
        go_wp2_with fail
        refine wp_region_held_drew (S := (fun w' => w'.cell? ⟨w.heap.size, 0, none⟩ = some (.int .i64 s.last) ∧ w'.cell? ⟨w.heap.size, 1, none⟩ = some (.slice (some ⟨b, off, none⟩) s.items.length cap) ∧ w'.cell? ⟨b, off + k * 5, none⟩ = some (.int .i64 x.id) ∧ w'.cell? ⟨b, off + k * 5 + 1, none⟩ = some (.string x.fu) ∧ w'.cell? ⟨b, off + k * 5 + 2, none⟩ = some (.string x.fd) ∧ w'.cell? ⟨b, off + k * 5 + 3, none⟩ = some (.slice p.a1 x.rc.length p.c1) ∧ w'.cell? ⟨b, off + k * 5 + 4, none⟩ = some (.slice p.a2 x.body.length p.c2) ∧ Below wr.heap.size wr w')) (by kernel_rfl) ⟨g0, g1, c0, c1, c2, c3, c4, (Below.refl _ _).drew⟩ (fun hHeld => ?_)
        refine tkH 0 (by assumption) (h := ?_)
        refine tkH 1 (by assumption) (h := ?_)
        refine tkH 2 (by assumption) (h := ?_)
        refine tkH 3 (by assumption) (h := ?_)
        refine tkH 4 (by assumption) (h := ?_)
        refine wpAnyH_ready (rs := [5]) (by kernel_rfl) (by simp) ?_
        refine AllReadyH.cons rfl (fun K hK => ?_) AllReadyH.nil
        try dsimp only at hHeld
        go_split_ands
        go_simp
        refine (l5ItemOk_any x p _ (IA.out.later (by assumption : Below wr.heap.size wr _)) HZX.out).mono ?_
        rintro e w1 ⟨rfl, hb1⟩
        rw [HV.out]
        refine hK.out _ _ ⟨heldc (by assumption) hb1, heldc (by assumption) hb1, heldc (by assumption) hb1, heldc (by assumption) hb1, heldc (by assumption) hb1, heldc (by assumption) hb1, heldc (by assumption) hb1, (by assumption : Below wr.heap.size wr _).trans (hb1.mono (by assumption : Below wr.heap.size wr _).size)⟩ (fun hHeld => ?_)
        clear hK K
        try simp only [Act.put, List.setIfInBounds_toArray, List.set_cons_zero, List.set_cons_succ]
        refine tkH 6 (by assumption) (h := ?_)
        refine tkH 7 (by assumption) (h := ?_)
        refine tkH 8 (by assumption) (h := ?_)
        refine tkH 9 (by assumption) (h := ?_)
        refine tkH 10 (by assumption) (h := ?_)
        refine tkH 11 (by assumption) (h := ?_)
        refine tkH 12 (by assumption) (h := ?_)
        refine tkH 13 (by assumption) (h := ?_)
        refine tkH 14 (by assumption) (h := ?_)
        refine tkH 15 (by assumption) (h := ?_)
        refine tkH 16 (by assumption) (h := ?_)
        refine tkH 17 (by assumption) (h := ?_)
        refine tkH 18 (by assumption) (h := ?_)
        refine tkN 19 (by assumption) (h := ?_)
        refine tkN 20 (by assumption) (h := ?_)
        refine tkN 21 (by assumption) (h := ?_)
        refine tkN 22 (by assumption) (h := ?_)
        refine tkN 23 (by assumption) (h := ?_)
        refine tkN 24 (by assumption) (h := ?_)
        refine tkN 25 (by assumption) (h := ?_)
        refine tkN 26 (by assumption) (h := ?_)
        refine tkN 27 (by assumption) (h := ?_)
        refine tkN 28 (by assumption) (h := ?_)
        refine tkN 29 (by assumption) (h := ?_)
        refine tkN 30 (by assumption) (h := ?_)
        refine tkN 31 (by assumption) (h := ?_)
        refine tkN 32 (by assumption) (h := ?_)
        refine tkN 33 (by assumption) (h := ?_)
        refine tkN 34 (by assumption) (h := ?_)
        refine tkN 35 (by assumption) (h := ?_)
        refine tkN 36 (by assumption) (h := ?_)
        refine tkH 37 (by assumption) (h := ?_)
        refine wpAnyH_done (by kernel_rfl) ?_ _
        try dsimp only at hHeld
        go_split_ands
        have hbx := (by assumption : Below wr.heap.size wr _)
        clear c0 c1 c2 c3 c4 g0 g1
        go_wp2
        go_ret
        exact ⟨ret_b hm.out.symm, (S.out.later hbx).below⟩
      have hle : x.id ≤ s.last := by omega
      have hd1 : decide (s.last < x.id) = false := decide_eq_false (by omega)
      by_cases hk0 : k = 0
      · have HI2 : Seal (ascB s.last 0 s.items = ascB s.last (ahead s.items (k + 1)) (s.items.drop (k + 1))) := ⟨asc_next HX.out HI.out (by rw [hk0]; exact hpos) hle⟩
        have hd0 : decide (0 < k) = false := by rw [hk0]; rfl
        clear hk0
        go_wp2_with fail
        refine wp_region_held_drew (S := (fun w' => w'.cell? ⟨w.heap.size, 0, none⟩ = some (.int .i64 s.last) ∧ w'.cell? ⟨w.heap.size, 1, none⟩ = some (.slice (some ⟨b, off, none⟩) s.items.length cap) ∧ w'.cell? ⟨b, off + k * 5, none⟩ = some (.int .i64 x.id) ∧ w'.cell? ⟨b, off + k * 5 + 1, none⟩ = some (.string x.fu) ∧ w'.cell? ⟨b, off + k * 5 + 2, none⟩ = some (.string x.fd) ∧ w'.cell? ⟨b, off + k * 5 + 3, none⟩ = some (.slice p.a1 x.rc.length p.c1) ∧ w'.cell? ⟨b, off + k * 5 + 4, none⟩ = some (.slice p.a2 x.body.length p.c2) ∧ Below wr.heap.size wr w')) (by kernel_rfl) ⟨g0, g1, c0, c1, c2, c3, c4, (Below.refl _ _).drew⟩ (fun hHeld => ?_)
        refine tkH 0 (by assumption) (h := ?_)
        refine tkH 1 (by assumption) (h := ?_)
        refine tkH 2 (by assumption) (h := ?_)
        refine tkH 3 (by assumption) (h := ?_)
        refine tkH 4 (by assumption) (h := ?_)
        refine wpAnyH_ready (rs := [5]) (by kernel_rfl) (by simp) ?_
        refine AllReadyH.cons rfl (fun K hK => ?_) AllReadyH.nil
        try dsimp only at hHeld
        go_split_ands
        go_simp
        refine (l5ItemOk_any x p _ (IA.out.later (by assumption : Below wr.heap.size wr _)) HZX.out).mono ?_
        rintro e w1 ⟨rfl, hb1⟩
        rw [HV.out]
        refine hK.out _ _ ⟨heldc (by assumption) hb1, heldc (by assumption) hb1, heldc (by assumption) hb1, heldc (by assumption) hb1, heldc (by assumption) hb1, heldc (by assumption) hb1, heldc (by assumption) hb1, (by assumption : Below wr.heap.size wr _).trans (hb1.mono (by assumption : Below wr.heap.size wr _).size)⟩ (fun hHeld => ?_)
        clear hK K
        try simp only [Act.put, List.setIfInBounds_toArray, List.set_cons_zero, List.set_cons_succ]
        refine tkH 6 (by assumption) (h := ?_)
        refine tkH 7 (by assumption) (h := ?_)
        refine tkH 8 (by assumption) (h := ?_)
        refine tkH 9 (by assumption) (h := ?_)
        refine tkH 10 (by assumption) (h := ?_)
        refine tkH 11 (by assumption) (h := ?_)
        refine tkH 12 (by assumption) (h := ?_)
        refine tkH 13 (by assumption) (h := ?_)
        refine tkH 14 (by assumption) (h := ?_)
        refine tkH 15 (by assumption) (h := ?_)
        refine tkH 16 (by assumption) (h := ?_)
        refine tkH 17 (by assumption) (h := ?_)
        refine tkH 18 (by assumption) (h := ?_)
        refine tkH 19 (by assumption) (h := ?_)
        refine tkH 20 (by assumption) (h := ?_)
        refine tkH 21 (by assumption) (h := ?_)
        refine tkN 22 (by assumption) (h := ?_)
        refine tkN 23 (by assumption) (h := ?_)
        refine tkN 24 (by assumption) (h := ?_)
        refine tkN 25 (by assumption) (h := ?_)
        refine tkN 26 (by assumption) (h := ?_)
        refine tkN 27 (by assumption) (h := ?_)
        refine tkN 28 (by assumption) (h := ?_)
        refine tkN 29 (by assumption) (h := ?_)
        refine tkN 30 (by assumption) (h := ?_)
        refine tkN 31 (by assumption) (h := ?_)
        refine tkN 32 (by assumption) (h := ?_)
        refine tkN 33 (by assumption) (h := ?_)
        refine tkN 34 (by assumption) (h := ?_)
        refine tkN 35 (by assumption) (h := ?_)
        refine tkH 36 (by assumption) (h := ?_)
        refine tkH 37 (by assumption) (h := ?_)
        refine wpAnyH_done (by kernel_rfl) ?_ _
        try dsimp only at hHeld
        go_split_ands
        have hbx := (by assumption : Below wr.heap.size wr _)
        clear c0 c1 c2 c3 c4 g0 g1
        go_wp2
        go_roundw
        case rel => exact ⟨k + 1, by omega, by go_num, HA2, HI2, ⟨S.out.later hbx⟩⟩
        case measure => simp [intOf]; omega
      · obtain ⟨m, rfl⟩ : ∃ m, k = m + 1 := ⟨k - 1, by omega⟩
        obtain ⟨y, hy⟩ : ∃ y, s.items[m]? = some y := ⟨_, List.getElem?_eq_getElem (by omega)⟩
        obtain ⟨b', off', p', e', d0, _⟩ := itemAt RA.out hy
        cases e'
        have ha := ahead_succ hy
        have HYA : Seal _ := ⟨ha⟩
        have hd0 : decide ((0 : Int) < (m : Int) + 1) = true := decide_eq_true (by omega)
        have j0 : (0 : Int) ≤ (m : Int) + 1 := by omega
        have j1 : (m : Int) + 1 < (s.items.length : Int) := by omega
        have j2 : (0 : Int) < (m : Int) + 1 := by omega
        have w1 : IntKind.i64.wrap (m : Int) = (m : Int) := IntWalk.i64_in _ (by omega)
        have j3 : (m : Int) < (s.items.length : Int) := by omega
        have j4 : m < s.items.length := by omega
        clear hk0 hy ha
        by_cases hle2 : x.id ≤ y.id
        · have hm : Seal (spoolB s = false) := ⟨spoolB_asc (asc_miss HX.out HI.out (by rw [HYA.out]; omega))⟩
          go_wp2_with fail
          refine wp_region_held_drew (S := (fun w' => w'.cell? ⟨w.heap.size, 0, none⟩ = some (.int .i64 s.last) ∧ w'.cell? ⟨w.heap.size, 1, none⟩ = some (.slice (some ⟨b, off, none⟩) s.items.length cap) ∧ w'.cell? ⟨b, off + (m + 1) * 5, none⟩ = some (.int .i64 x.id) ∧ w'.cell? ⟨b, off + (m + 1) * 5 + 1, none⟩ = some (.string x.fu) ∧ w'.cell? ⟨b, off + (m + 1) * 5 + 2, none⟩ = some (.string x.fd) ∧ w'.cell? ⟨b, off + (m + 1) * 5 + 3, none⟩ = some (.slice p.a1 x.rc.length p.c1) ∧ w'.cell? ⟨b, off + (m + 1) * 5 + 4, none⟩ = some (.slice p.a2 x.body.length p.c2) ∧ w'.cell? ⟨b, off + m * 5, none⟩ = some (.int .i64 y.id) ∧ Below wr.heap.size wr w')) (by kernel_rfl) ⟨g0, g1, c0, c1, c2, c3, c4, d0, (Below.refl _ _).drew⟩ (fun hHeld => ?_)
          refine tkH 0 (by assumption) (h := ?_)
          refine tkH 1 (by assumption) (h := ?_)
          refine tkH 2 (by assumption) (h := ?_)
          refine tkH 3 (by assumption) (h := ?_)
          refine tkH 4 (by assumption) (h := ?_)
          refine wpAnyH_ready (rs := [5]) (by kernel_rfl) (by simp) ?_
          refine AllReadyH.cons rfl (fun K hK => ?_) AllReadyH.nil
          try dsimp only at hHeld
          go_split_ands
          go_simp
          refine (l5ItemOk_any x p _ (IA.out.later (by assumption : Below wr.heap.size wr _)) HZX.out).mono ?_
          rintro e w1 ⟨rfl, hb1⟩
          rw [HV.out]
          refine hK.out _ _ ⟨heldc (by assumption) hb1, heldc (by assumption) hb1, heldc (by assumption) hb1, heldc (by assumption) hb1, heldc (by assumption) hb1, heldc (by assumption) hb1, heldc (by assumption) hb1, heldc (by assumption) hb1, (by assumption : Below wr.heap.size wr _).trans (hb1.mono (by assumption : Below wr.heap.size wr _).size)⟩ (fun hHeld => ?_)
          clear hK K
          try simp only [Act.put, List.setIfInBounds_toArray, List.set_cons_zero, List.set_cons_succ]
          refine tkH 6 (by assumption) (h := ?_)
          refine tkH 7 (by assumption) (h := ?_)
          refine tkH 8 (by assumption) (h := ?_)
          refine tkH 9 (by assumption) (h := ?_)
          refine tkH 10 (by assumption) (h := ?_)
          refine tkH 11 (by assumption) (h := ?_)
          refine tkH 12 (by assumption) (h := ?_)
          refine tkH 13 (by assumption) (h := ?_)
          refine tkH 14 (by assumption) (h := ?_)
          refine tkH 15 (by assumption) (h := ?_)
          refine tkH 16 (by assumption) (h := ?_)
          refine tkH 17 (by assumption) (h := ?_)
          refine tkH 18 (by assumption) (h := ?_)
          refine tkH 19 (by assumption) (h := ?_)
          refine tkH 20 (by assumption) (h := ?_)
          refine tkH 21 (by assumption) (h := ?_)
          refine tkH 22 (by assumption) (h := ?_)
          refine tkH 23 (by assumption) (h := ?_)
          refine tkH 24 (by assumption) (h := ?_)
          refine tkH 25 (by assumption) (h := ?_)
          refine tkH 26 (by assumption) (h := ?_)
          refine tkH 27 (by assumption) (h := ?_)
          refine tkH 28 (by assumption) (h := ?_)
          refine tkH 29 (by assumption) (h := ?_)
          refine tkH 30 (by assumption) (h := ?_)
          refine tkH 31 (by assumption) (h := ?_)
          refine tkH 32 (by assumption) (h := ?_)
          refine tkH 33 (by assumption) (h := ?_)
          refine tkH 34 (by assumption) (h := ?_)
          refine tkH 35 (by assumption) (h := ?_)
          refine tkH 36 (by assumption) (h := ?_)
          refine tkH 37 (by assumption) (h := ?_)
          refine wpAnyH_done (by kernel_rfl) ?_ _
          try dsimp only at hHeld
          go_split_ands
          have hbx := (by assumption : Below wr.heap.size wr _)
          clear c0 c1 c2 c3 c4 g0 g1
          go_wp2
          go_ret
          exact ⟨ret_b hm.out.symm, (S.out.later hbx).below⟩
        · have HI2 : Seal (ascB s.last 0 s.items = ascB s.last (ahead s.items (m + 1 + 1)) (s.items.drop (m + 1 + 1))) := ⟨asc_next HX.out HI.out (by rw [HYA.out]; omega) hle⟩
          go_wp2_with fail
          refine wp_region_held_drew (S := (fun w' => w'.cell? ⟨w.heap.size, 0, none⟩ = some (.int .i64 s.last) ∧ w'.cell? ⟨w.heap.size, 1, none⟩ = some (.slice (some ⟨b, off, none⟩) s.items.length cap) ∧ w'.cell? ⟨b, off + (m + 1) * 5, none⟩ = some (.int .i64 x.id) ∧ w'.cell? ⟨b, off + (m + 1) * 5 + 1, none⟩ = some (.string x.fu) ∧ w'.cell? ⟨b, off + (m + 1) * 5 + 2, none⟩ = some (.string x.fd) ∧ w'.cell? ⟨b, off + (m + 1) * 5 + 3, none⟩ = some (.slice p.a1 x.rc.length p.c1) ∧ w'.cell? ⟨b, off + (m + 1) * 5 + 4, none⟩ = some (.slice p.a2 x.body.length p.c2) ∧ w'.cell? ⟨b, off + m * 5, none⟩ = some (.int .i64 y.id) ∧ Below wr.heap.size wr w')) (by kernel_rfl) ⟨g0, g1, c0, c1, c2, c3, c4, d0, (Below.refl _ _).drew⟩ (fun hHeld => ?_)
          refine tkH 0 (by assumption) (h := ?_)
          refine tkH 1 (by assumption) (h := ?_)
          refine tkH 2 (by assumption) (h := ?_)
          refine tkH 3 (by assumption) (h := ?_)
          refine tkH 4 (by assumption) (h := ?_)
          refine wpAnyH_ready (rs := [5]) (by kernel_rfl) (by simp) ?_
          refine AllReadyH.cons rfl (fun K hK => ?_) AllReadyH.nil
          try dsimp only at hHeld
          go_split_ands
          go_simp
          refine (l5ItemOk_any x p _ (IA.out.later (by assumption : Below wr.heap.size wr _)) HZX.out).mono ?_
          rintro e w1 ⟨rfl, hb1⟩
          rw [HV.out]
          refine hK.out _ _ ⟨heldc (by assumption) hb1, heldc (by assumption) hb1, heldc (by assumption) hb1, heldc (by assumption) hb1, heldc (by assumption) hb1, heldc (by assumption) hb1, heldc (by assumption) hb1, heldc (by assumption) hb1, (by assumption : Below wr.heap.size wr _).trans (hb1.mono (by assumption : Below wr.heap.size wr _).size)⟩ (fun hHeld => ?_)
          clear hK K
          try simp only [Act.put, List.setIfInBounds_toArray, List.set_cons_zero, List.set_cons_succ]
          refine tkH 6 (by assumption) (h := ?_)
          refine tkH 7 (by assumption) (h := ?_)
          refine tkH 8 (by assumption) (h := ?_)
          refine tkH 9 (by assumption) (h := ?_)
          refine tkH 10 (by assumption) (h := ?_)
          refine tkH 11 (by assumption) (h := ?_)
          refine tkH 12 (by assumption) (h := ?_)
          refine tkH 13 (by assumption) (h := ?_)
          refine tkH 14 (by assumption) (h := ?_)
          refine tkH 15 (by assumption) (h := ?_)
          refine tkH 16 (by assumption) (h := ?_)
          refine tkH 17 (by assumption) (h := ?_)
          refine tkH 18 (by assumption) (h := ?_)
          refine tkH 19 (by assumption) (h := ?_)
          refine tkH 20 (by assumption) (h := ?_)
          refine tkH 21 (by assumption) (h := ?_)
          refine tkH 22 (by assumption) (h := ?_)
          refine tkH 23 (by assumption) (h := ?_)
          refine tkH 24 (by assumption) (h := ?_)
          refine tkH 25 (by assumption) (h := ?_)
          refine tkH 26 (by assumption) (h := ?_)
          refine tkH 27 (by assumption) (h := ?_)
          refine tkH 28 (by assumption) (h := ?_)
          refine tkH 29 (by assumption) (h := ?_)
          refine tkH 30 (by assumption) (h := ?_)
          refine tkH 31 (by assumption) (h := ?_)
          refine tkH 32 (by assumption) (h := ?_)
          refine tkH 33 (by assumption) (h := ?_)
          refine tkH 34 (by assumption) (h := ?_)
          refine tkH 35 (by assumption) (h := ?_)
          refine tkH 36 (by assumption) (h := ?_)
          refine tkH 37 (by assumption) (h := ?_)
          refine wpAnyH_done (by kernel_rfl) ?_ _
          try dsimp only at hHeld
          go_split_ands
          have hbx := (by assumption : Below wr.heap.size wr _)
          clear c0 c1 c2 c3 c4 g0 g1
          go_wp2
          go_roundw
          case rel => exact ⟨m + 1 + 1, by omega, by go_num, HA2, HI2, ⟨S.out.later hbx⟩⟩
          case measure => simp [intOf]; omega
    · obtain rfl : k = s.items.length := by omega
      have hAll := HB.out
      rw [List.take_length] at hAll
      have hE := spoolB_end hAll (asc_end (Nat.le_refl _) HI.out)
      obtain ⟨vl, hvl⟩ : ∃ v, inB s.last 0 999 = v := ⟨_, rfl⟩
      have HVL : Seal _ := ⟨hvl⟩
      have HQ : Seal (spoolB s = (vl && decide ((s.items.length : Int) ≤ 10))) := ⟨by rw [hE, ← hvl]; unfold inB; congr 1; rw [decide_eq_decide]; omega⟩
      clear hE hvl hAll HB HI
      go_wp2_with fail
      refine (l1In_any _ _ _ _).mono ?_
      rintro e w3 ⟨rfl, rfl⟩
      rw [HVL.out]
      cases vl
      · have hm : Seal (spoolB s = false) := ⟨HQ.out⟩
        go_wp2
        go_ret
        exact ⟨ret_b hm.out.symm, S.out.below⟩
      · have hm : Seal (spoolB s = decide ((s.items.length : Int) ≤ 10)) := ⟨by rw [HQ.out]; rfl⟩
        go_wp2
        go_ret
        exact ⟨ret_b hm.out.symm, S.out.below⟩

set_option maxRecDepth 100000 in
theorem specSpoolOk_any (s : SpoolD) (ao : Option Addr) (cap : Nat) (w : World) (hat : ItemRow w ao s.items) (hz : spoolN s ≤ 1048576) :
    Calls Tryz.prog 20 #[.agg (spoolV s ao cap)] w fun e w' => e = .returned (.bool (spoolB s)) ∧ Below w.heap.size w w' := by
  have HA : Seal _ := ⟨hat⟩
  have HZ : Seal _ := ⟨hz⟩
  have S0 : Seal _ := ⟨(St.start w).alloc (spoolV s ao cap) 25⟩
  clear hat hz
  go_enter Tryz.func20, Tryz.ntmps20
  go_wp2_with fail
  refine (l5Ok_any s ao cap _ (HA.out.below itemP_stays S0.out.below (Nat.le_refl _)) HZ.out).mono ?_
  rintro e w1 ⟨rfl, hb1⟩
  have S1 : Seal _ := ⟨S0.out.later hb1⟩
  clear hb1 S0
  go_wp2
  go_ret
  exact ⟨rfl, S1.out.below⟩
end Go.Proofs.YtcaknjdolfheaaaGreatDoor
namespace Go.Proofs.YtcaknjdolfheaaaGreatDoor
open Go Go.RowKit

theorem row_value {w : World} {B : Nat} {e : TypeId} {size : Nat} {v : Value} {n : Nat} {xs : List Value} (h : w.ownsRow B e size v n xs) : ∃ ao cap, v = .slice ao n cap ∧ n ≤ cap := by
  rcases h.2 with ⟨hv, hn⟩ | ⟨g, cap, cur, hv, _, _, hc, _⟩
  · subst hn
    exact ⟨none, 0, hv, Nat.le_refl _⟩
  · exact ⟨_, cap, hv, hc⟩

theorem isTime_any (n : Int) (w : World) :
    Calls Tryz.prog 61 #[.int .i64 n] w fun e w' => e = .returned (.bool (inB n 0 9999)) ∧ w = w' := by
  rcases (show n < 0 ∨ (0 ≤ n ∧ n ≤ 9999) ∨ (0 ≤ n ∧ 9999 < n) by omega) with h | ⟨h, h'⟩ | ⟨h, h'⟩
  · have hm : Seal (inB n 0 9999 = false) := ⟨inB_false (by omega)⟩
    go_enter Tryz.func61, Tryz.ntmps61
    go_wp2
    go_ret
    exact ⟨ret_b hm.out.symm, rfl⟩
  · have hm : Seal (inB n 0 9999 = true) := ⟨inB_true (by omega)⟩
    go_enter Tryz.func61, Tryz.ntmps61
    go_wp2
    go_ret
    exact ⟨ret_b (by first | exact hm.out.symm | (rw [hm.out]; exact decide_eq_true (by omega))), rfl⟩
  · have hm : Seal (inB n 0 9999 = false) := ⟨inB_false (by omega)⟩
    go_enter Tryz.func61, Tryz.ntmps61
    go_wp2
    go_ret
    exact ⟨ret_b (by first | exact hm.out.symm | (rw [hm.out]; exact decide_eq_false (by omega))), rfl⟩

set_option maxRecDepth 100000 in
theorem rcptValid_any (x : RcptD) (w : World) :
    Calls Tryz.prog 130 #[.agg (rcptV x)] w fun e w' => e = .returned (.bool (tryB x)) ∧ Below w.heap.size w w' := by
  have S0 : Seal _ := ⟨(St.start w).alloc (rcptV x) 105⟩
  by_cases h : 0 ≤ x.tries ∧ x.tries ≤ 3
  · obtain ⟨h1, h2⟩ := h
    have hm : Seal (tryB x = inB x.next 0 9999) := ⟨by unfold tryB; rw [decide_eq_true ⟨h1, h2⟩]; rfl⟩
    go_enter Tryz.func130, Tryz.ntmps130
    go_wp2_with fail
    refine (isTime_any _ _).mono ?_
    rintro e w1 ⟨rfl, rfl⟩
    rw [← hm.out]
    go_wp2
    go_ret
    exact ⟨rfl, S0.out.below⟩
  · have hm : Seal (tryB x = false) := ⟨by unfold tryB; rw [decide_eq_false h]; rfl⟩
    by_cases h1 : 0 ≤ x.tries
    · have h2 : 3 < x.tries := by omega
      clear h
      go_enter Tryz.func130, Tryz.ntmps130
      go_wp2
      go_ret
      exact ⟨ret_b hm.out.symm, S0.out.below⟩
    · clear h
      go_enter Tryz.func130, Tryz.ntmps130
      go_wp2
      go_ret
      exact ⟨ret_b hm.out.symm, S0.out.below⟩

theorem recipients_any (x : ItemD) (p : ItemV) (w : World) :
    Calls Tryz.prog 128 #[.agg (itemV x p)] w fun e w' => e = .returned (.slice p.a1 x.rc.length p.c1) ∧ Below w.heap.size w w' := by
  have S0 : Seal _ := ⟨(St.start w).alloc (itemV x p) 43⟩
  go_enter Tryz.func128, Tryz.ntmps128
  go_wp2
  go_ret
  exact ⟨rfl, S0.out.below⟩

set_option maxRecDepth 100000 in
theorem mailOne_any (x : RcptD) (w : World) :
    Calls Tryz.prog 191 #[.agg (rcptV x)] w fun e w' => e = .returned (.agg #[.string x.u, .string x.d]) ∧ Below w.heap.size w w' := by
  go_enter Tryz.func191, Tryz.ntmps191
  go_wp2
  exact bodyPost_ret (v := .agg #[.string x.u, .string x.d]) (by simp [results, Tryz.results191, go_sem]) rfl ⟨rfl, ((Below.refl _ _).alloc (Nat.le_refl _) _).alloc (by simp) _⟩

/-- The addresses of the first k, as cells. -/
def firstPairs (xs : List RcptD) (k : Nat) : List Value := pairCells ((xs.take k).map rcptPair)
theorem rcptPairs_snoc {xs : List RcptD} {k : Nat} {x : RcptD} (hx : xs[k]? = some x) : firstPairs xs (k + 1) = firstPairs xs k ++ [.string x.u, .string x.d] := by
  unfold firstPairs
  obtain ⟨hk, e⟩ := List.getElem?_eq_some_iff.1 hx
  rw [List.take_succ_eq_append_getElem hk, e, List.map_append]
  unfold pairCells
  rw [List.flatMap_append]
  rfl

set_option maxHeartbeats 1600000 in
set_option maxRecDepth 100000 in
theorem eachMail_any (ao : Option Addr) (cap : Nat) (xs : List RcptD) (w : World) (hr : RcptRow w ao xs) (hl : xs.length ≤ 1048576) :
    Calls Tryz.prog 190 #[.slice ao xs.length cap, .func (.func 191) #[] #[]] w fun e w' => ∃ bo c, xs.length ≤ c ∧ e = .returned (.slice bo xs.length c) ∧ St w w' [Res.row 27 2 (.slice bo xs.length c) xs.length (pairCells (xs.map rcptPair))] := by
  obtain ⟨i0, hi, hz0, hz1, hz2⟩ := info_parts infoAddr
  have HR : Seal _ := ⟨hr⟩
  clear hr
  go_enter Tryz.func190, Tryz.ntmps190
  go_wp2
  go_loopw [5, 10] (fun v i wr => ∃ k : Nat, k ≤ xs.length ∧ i = .int .i64 k ∧ Seal (St w wr [Res.row 27 2 v k (firstPairs xs k)])) (fun _ i _ => xs.length - (intOf i).toNat)
  case atStart => exact ⟨0, Nat.zero_le _, rfl, ⟨(St.start w).nothing _ _⟩⟩
  case round =>
    obtain ⟨k, hk, rfl, S⟩ := hrel
    by_cases hlt : k < xs.length
    · obtain ⟨x, hx⟩ : ∃ x, xs[k]? = some x := ⟨_, List.getElem?_eq_getElem hlt⟩
      obtain ⟨b, off, rfl, c0, c1, c2, c3⟩ := rcptAt (HR.out.below rcptP_stays S.out.below (Nat.le_refl _)) hx
      have HX : Seal _ := ⟨rcptPairs_snoc hx⟩
      have S1 : Seal _ := ⟨S.out.more (.cells (rcptV x) 105)⟩
      clear hx S
      go_wp2_with fail
      refine (mailOne_any x _).mono ?_
      rintro e w1 ⟨rfl, hb1⟩
      have S2 : Seal _ := ⟨(S1.out.later hb1).more (.cells #[.string x.u, .string x.d] 27)⟩
      have OW : Seal _ := ⟨S2.out.head⟩
      clear hb1 S1 c0 c1 c2 c3
      go_wp2_with (at_builtin; refine wpList_append_own_at _ rfl _ _ 28 rfl 0 27 i0 (.agg #[.string ByteArray.empty, .string ByteArray.empty]) 2 32 Tryz.underlying28 hi hz0 hz1 hz2 rfl (by decide) _ _ _ rfl OW.out ⟨w1.heap.size, 0, none⟩ 1 1 [.string x.u, .string x.d] rfl rfl ?c1 ?c2 ?c3 ?c4 ?c5 ?_)
      case c1 =>
        intro j u hj
        match j, hj with
        | 0, hj => simp at hj; subst hj; simp [Addr.add]
        | 1, hj => simp at hj; subst hj; simp [Addr.add]
      case c2 => intro u hu; simp at hu; rcases hu with rfl | rfl <;> rfl
      case c3 => unfold maxLen; omega
      case c4 => omega
      case c5 => exact Nat.zero_le _
      · intro v' w2 hown hg _ hat
        have S3 : Seal _ := ⟨S2.out.app hown hg (by rw [World.size_alloc]; exact hat)⟩
        rw [← HX.out] at S3
        clear hown hg hat OW S2 HX
        go_wp2
        go_roundw
        case rel => exact ⟨k + 1, by omega, by go_num, S3⟩
        case measure => simp [intOf]; omega
    · obtain rfl : k = xs.length := by omega
      have hown := S.out.head
      obtain ⟨bo, c, rfl, hc⟩ := row_value hown
      unfold firstPairs at S
      rw [List.take_length] at S
      clear hown
      go_wp2
      go_ret
      exact ⟨_, _, hc, rfl, S.out⟩
end Go.Proofs.YtcaknjdolfheaaaGreatDoor
namespace Go.Proofs.YtcaknjdolfheaaaGreatDoor
open Go Go.RowKit

/-- The first place that is wanted, or -1: what the world is like then. -/
def FindPost (n : Nat) (q : Nat → Bool) (I : Nat → World → Prop) (J : Nat → World → Prop) (e : Ending) (w : World) : Prop :=
  ∃ r : Int, e = .returned (.int .i64 r) ∧ ((∃ k, k < n ∧ r = k ∧ q k = true ∧ (∀ j, j < k → q j = false) ∧ J k w) ∨ (r = -1 ∧ (∀ j, j < n → q j = false) ∧ I n w))
theorem itemAtB {w0 w : World} {ao : Option Addr} {xs : List ItemD} (h : ItemRow w0 ao xs) (hb : Below w0.heap.size w0 w) {k : Nat} {x : ItemD} (hx : xs[k]? = some x) :
    ∃ b off p, ao = some ⟨b, off, none⟩ ∧ w.cell? ⟨b, off + k * 5, none⟩ = some (.int .i64 x.id) ∧ w.cell? ⟨b, off + k * 5 + 1, none⟩ = some (.string x.fu) ∧ w.cell? ⟨b, off + k * 5 + 2, none⟩ = some (.string x.fd) ∧ w.cell? ⟨b, off + k * 5 + 3, none⟩ = some (.slice p.a1 x.rc.length p.c1) ∧ w.cell? ⟨b, off + k * 5 + 4, none⟩ = some (.slice p.a2 x.body.length p.c2) ∧ ItemAt w0 x p := by
  obtain ⟨b, off, p, e, c0, c1, c2, c3, c4, ia⟩ := itemAt h hx
  exact ⟨b, off, p, e, heldc c0 hb, heldc c1 hb, heldc c2 hb, heldc c3 hb, heldc c4 hb, ia⟩
theorem none_succ {q : Nat → Bool} {k : Nat} (h : ∀ j, j < k → q j = false) (hk : q k = false) : ∀ j, j < k + 1 → q j = false := fun j hj => by
  rcases Nat.lt_or_eq_of_le (Nat.le_of_lt_succ hj) with h1 | h1
  · exact h j h1
  · rw [h1]; exact hk

set_option maxHeartbeats 1600000 in
set_option maxRecDepth 100000 in
theorem findRcpt_any (f : Nat) (a : Addr) (ao : Option Addr) (cap : Nat) (xs : List RcptD) (q : Nat → Bool) (I : Nat → World → Prop) (J : Nat → World → Prop) (w : World) (hf : ∀ args w, (callFunc f args).run Tryz.prog w = .ok (.enter f args) w) (hl : xs.length ≤ 1048576)
    (hI : I 0 w) (hmore : ∀ k W W', I k W → Below W.heap.size W W' → I k W') (w0 : World) (hrow : RcptRow w0 ao xs) (hbel : ∀ k W, I k W → Below w0.heap.size w0 W)
    (hcall : ∀ k x W, xs[k]? = some x → I k W → Calls Tryz.prog f #[.agg (rcptV x), .pointer (some a)] W fun e W' => e = .returned (.bool (q k)) ∧ (q k = true → J k W') ∧ (q k = false → I (k + 1) W')) :
    Calls Tryz.prog 131 #[.slice ao xs.length cap, .func (.func f) #[] #[.pointer (some a)]] w (FindPost xs.length q I J) := by
  have HC : Seal _ := ⟨hcall⟩
  have HI : Seal _ := ⟨hI⟩
  clear hcall hI
  go_enter Tryz.func131, Tryz.ntmps131
  go_wp2
  go_loopw [9] (fun i wr => ∃ k : Nat, k ≤ xs.length ∧ i = .int .i64 k ∧ Seal (∀ j, j < k → q j = false) ∧ Seal (I k wr)) (fun i _ => xs.length - (intOf i).toNat)
  case atStart => exact ⟨0, Nat.zero_le _, rfl, ⟨fun j hj => by omega⟩, HI⟩
  case round =>
    obtain ⟨k, hk, rfl, HN, S⟩ := hrel
    clear HI
    by_cases hlt : k < xs.length
    · obtain ⟨x, hx⟩ : ∃ x, xs[k]? = some x := ⟨_, List.getElem?_eq_getElem hlt⟩
      obtain ⟨b, off, rfl, c0, c1, c2, c3⟩ := rcptAt (hrow.below rcptP_stays (hbel k wr S.out) (Nat.le_refl _)) hx
      have HX : Seal _ := ⟨hx⟩

      clear hx
      have C : Seal _ := ⟨(HC.out k x _ HX.out (hmore k _ _ S.out (Below.alloc (Below.refl _ _) (Nat.le_refl _) (.cells (rcptV x) 105))))⟩
      obtain ⟨v, hv⟩ : ∃ v, q k = v := ⟨_, rfl⟩
      have HV : Seal _ := ⟨hv⟩
      rw [hv] at C
      clear hv hmore hrow hbel
      go_wp2_with fail
      refine C.out.mono ?_
      rintro e w1 ⟨rfl, h1, h2⟩
      cases v
      · have S1 : Seal _ := ⟨h2 rfl⟩
        have HN2 : Seal _ := ⟨none_succ HN.out HV.out⟩
        clear h1 h2 C
        go_wp2
        go_roundw
        case rel => exact ⟨k + 1, by omega, by go_num, HN2, S1⟩
        case measure => simp [intOf]; omega
      · have S1 : Seal _ := ⟨h1 rfl⟩
        clear h1 h2 C
        go_wp2
        go_ret
        exact ⟨_, rfl, .inl ⟨k, hlt, rfl, HV.out, HN.out, S1.out⟩⟩
    · obtain rfl : k = xs.length := by omega
      go_wp2
      go_ret
      exact ⟨_, rfl, .inr ⟨rfl, HN.out, S.out⟩⟩

set_option maxHeartbeats 1600000 in
set_option maxRecDepth 100000 in
theorem findItem_any (f : Nat) (a : Addr) (ao : Option Addr) (cap : Nat) (xs : List ItemD) (q : Nat → Bool) (I : Nat → World → Prop) (J : Nat → World → Prop) (w : World) (hf : ∀ args w, (callFunc f args).run Tryz.prog w = .ok (.enter f args) w) (hl : xs.length ≤ 1048576)
    (hI : I 0 w) (hmore : ∀ k W W', I k W → Below W.heap.size W W' → I k W') (w0 : World) (hrow : ItemRow w0 ao xs) (hbel : ∀ k W, I k W → Below w0.heap.size w0 W)
    (hcall : ∀ k x p W, xs[k]? = some x → ItemAt w0 x p → I k W → Calls Tryz.prog f #[.agg (itemV x p), .pointer (some a)] W fun e W' => e = .returned (.bool (q k)) ∧ (q k = true → J k W') ∧ (q k = false → I (k + 1) W')) :
    Calls Tryz.prog 125 #[.slice ao xs.length cap, .func (.func f) #[] #[.pointer (some a)]] w (FindPost xs.length q I J) := by
  have HC : Seal _ := ⟨hcall⟩
  have HI : Seal _ := ⟨hI⟩
  clear hcall hI
  go_enter Tryz.func125, Tryz.ntmps125
  go_wp2
  go_loopw [9] (fun i wr => ∃ k : Nat, k ≤ xs.length ∧ i = .int .i64 k ∧ Seal (∀ j, j < k → q j = false) ∧ Seal (I k wr)) (fun i _ => xs.length - (intOf i).toNat)
  case atStart => exact ⟨0, Nat.zero_le _, rfl, ⟨fun j hj => by omega⟩, HI⟩
  case round =>
    obtain ⟨k, hk, rfl, HN, S⟩ := hrel
    clear HI
    by_cases hlt : k < xs.length
    · obtain ⟨x, hx⟩ : ∃ x, xs[k]? = some x := ⟨_, List.getElem?_eq_getElem hlt⟩
      obtain ⟨b, off, p, rfl, c0, c1, c2, c3, c4, ia⟩ := itemAtB hrow (hbel k wr S.out) hx
      have HX : Seal _ := ⟨hx⟩
      have IA : Seal _ := ⟨ia⟩
      clear hx ia
      have C : Seal _ := ⟨(HC.out k x p _ HX.out IA.out (hmore k _ _ S.out (Below.alloc (Below.refl _ _) (Nat.le_refl _) (.cells (itemV x p) 43))))⟩
      obtain ⟨v, hv⟩ : ∃ v, q k = v := ⟨_, rfl⟩
      have HV : Seal _ := ⟨hv⟩
      rw [hv] at C
      clear hv hmore hrow hbel
      go_wp2_with fail
      refine C.out.mono ?_
      rintro e w1 ⟨rfl, h1, h2⟩
      cases v
      · have S1 : Seal _ := ⟨h2 rfl⟩
        have HN2 : Seal _ := ⟨none_succ HN.out HV.out⟩
        clear h1 h2 C
        go_wp2
        go_roundw
        case rel => exact ⟨k + 1, by omega, by go_num, HN2, S1⟩
        case measure => simp [intOf]; omega
      · have S1 : Seal _ := ⟨h1 rfl⟩
        clear h1 h2 C
        go_wp2
        go_ret
        exact ⟨_, rfl, .inl ⟨k, hlt, rfl, HV.out, HN.out, S1.out⟩⟩
    · obtain rfl : k = xs.length := by omega
      go_wp2
      go_ret
      exact ⟨_, rfl, .inr ⟨rfl, HN.out, S.out⟩⟩
end Go.Proofs.YtcaknjdolfheaaaGreatDoor
namespace Go.Proofs.YtcaknjdolfheaaaGreatDoor
open Go Go.RowKit

set_option maxRecDepth 100000 in
theorem everyOneRcpt_any (a : Addr) (x : RcptD) (w : World) (hc : w.cell? a = some (.func (.func 130) #[] #[])) :
    Calls Tryz.prog 192 #[.agg (rcptV x), .pointer (some a)] w fun e w' => e = .returned (.bool (!tryB x)) ∧ Below w.heap.size w w' := by
  have b0 : Seal (Below w.heap.size w (w.alloc (.cells (rcptV x) 105))) := ⟨(Below.refl _ _).alloc (Nat.le_refl _) _⟩
  have c1 := heldc hc b0.out
  obtain ⟨v, hv⟩ : ∃ v, tryB x = v := ⟨_, rfl⟩
  have HV : Seal _ := ⟨hv⟩
  rw [hv]
  clear hc hv
  go_enter Tryz.func192, Tryz.ntmps192
  go_wp2_with fail
  refine (rcptValid_any x _).mono ?_
  rintro e w1 ⟨rfl, hb1⟩
  rw [HV.out]
  have B1 : Seal _ := ⟨b0.out.trans (hb1.mono b0.out.size)⟩
  clear hb1
  go_wp2
  go_ret
  exact ⟨rfl, B1.out⟩

/-- Which place does not meet what is asked. -/
def badAt {α : Type} (f : α → Bool) (xs : List α) (k : Nat) : Bool := match xs[k]? with
  | some x => !f x
  | none => false
theorem badAt_of {α : Type} {f : α → Bool} {xs : List α} {k : Nat} {x : α} (h : xs[k]? = some x) : badAt f xs k = !f x := by unfold badAt; rw [h]
theorem all_of_none {α : Type} {f : α → Bool} {xs : List α} (h : ∀ j, j < xs.length → badAt f xs j = false) : xs.all f = true := by
  rw [List.all_eq_true]
  intro x hx
  obtain ⟨k, hk⟩ := List.getElem?_of_mem hx
  have := h k (List.getElem?_eq_some_iff.1 hk).1
  rw [badAt_of hk] at this
  simpa using this
theorem not_all_of {α : Type} {f : α → Bool} {xs : List α} {k : Nat} (hk : k < xs.length) (h : badAt f xs k = true) : xs.all f = false := by
  obtain ⟨x, hx⟩ : ∃ x, xs[k]? = some x := ⟨_, List.getElem?_eq_getElem hk⟩
  rw [badAt_of hx] at h
  exact list_all_miss hx (by simpa using h)

set_option maxHeartbeats 1600000 in
set_option maxRecDepth 100000 in
theorem everyRcpt_any (ao : Option Addr) (cap : Nat) (xs : List RcptD) (w : World) (hr : RcptRow w ao xs) (hl : xs.length ≤ 1048576) :
    Calls Tryz.prog 129 #[.slice ao xs.length cap, .func (.func 130) #[] #[]] w fun e w' => e = .returned (.bool (xs.all tryB)) ∧ Below w.heap.size w w' := by
  have S0 : Seal (St w (w.alloc (.cells #[.func (.func 130) #[] #[]] 161)) [Res.cells w.heap.size [.func (.func 130) #[] #[]]]) := ⟨(St.start w).alloc #[.func (.func 130) #[] #[]] 161⟩
  have HR : Seal _ := ⟨hr⟩
  have C : Seal _ := ⟨findRcpt_any 192 ⟨w.heap.size, 0, none⟩ ao cap xs (badAt tryB xs) (fun _ W => St w W [Res.cells w.heap.size [.func (.func 130) #[] #[]]]) (fun _ W => St w W [Res.cells w.heap.size [.func (.func 130) #[] #[]]]) _
    (enters_of Tryz.func192 (by kernel_rfl) rfl) hl S0.out (fun k W W' h hb => h.later hb) w hr (fun k W h => h.below)
    (fun k x W hx h => by
      refine (everyOneRcpt_any ⟨w.heap.size, 0, none⟩ x W (h.head.c 0 _ rfl)).mono ?_
      rintro e w1 ⟨rfl, hb1⟩
      rw [badAt_of hx]
      exact ⟨rfl, fun _ => h.later hb1, fun _ => h.later hb1⟩)⟩
  clear hr
  go_enter Tryz.func129, Tryz.ntmps129
  go_wp2_with fail
  refine C.out.mono ?_
  rintro e w1 ⟨r, rfl, h⟩
  rcases h with ⟨k, hk, rfl, hq, _, hs⟩ | ⟨rfl, hn, hs⟩
  · have hm : Seal (xs.all tryB = false) := ⟨not_all_of hk hq⟩
    have B1 : Seal _ := ⟨hs.below⟩
    clear hs hq C
    go_wp2
    go_ret
    exact ⟨ret_b hm.out.symm, B1.out⟩
  · have hm : Seal (xs.all tryB = true) := ⟨all_of_none hn⟩
    have B1 : Seal _ := ⟨hs.below⟩
    clear hs hn C
    go_wp2
    go_ret
    exact ⟨ret_b hm.out.symm, B1.out⟩
end Go.Proofs.YtcaknjdolfheaaaGreatDoor
namespace Go.Proofs.YtcaknjdolfheaaaGreatDoor
open Go Go.RowKit

theorem pairs_of {w : World} {bo : Option Addr} {c : Nat} {xs : List RcptD} (h : (Res.row 27 2 (.slice bo xs.length c) xs.length (pairCells (xs.map rcptPair))).P w) : PairRow w bo (xs.map rcptPair) := by
  refine PRow.pairs (B := 0) (t := 27) (cap := c) ?_
  unfold PRow
  rw [List.length_map]
  exact h
/-- What the mail of an item is. -/
def MailOf (x : ItemD) (p : ItemV) (w : World) (e : Ending) (w' : World) : Prop :=
  ∃ bo c, x.rc.length ≤ c ∧ e = .returned (.agg #[.string x.fu, .string x.fd, .slice bo x.rc.length c, .slice p.a2 x.body.length p.c2]) ∧ St w w' [Res.row 27 2 (.slice bo x.rc.length c) x.rc.length (pairCells (x.rc.map rcptPair))]

set_option maxHeartbeats 3200000 in
set_option maxRecDepth 100000 in
theorem itemMail_any (x : ItemD) (p : ItemV) (w : World) (hat : ItemAt w x p) (hz : itemN x ≤ 1048576) :
    Calls Tryz.prog 127 #[.agg (itemV x p)] w (MailOf x p w) := by
  obtain ⟨_, _, z3, _, _, _⟩ := itemN_parts hz
  have s0 := ((St.start w).alloc (itemV x p) 43).alloc #[.string { data := #[] }, .string { data := #[] }, .slice none 0 0, .slice none 0 0] 31
  simp only [World.size_alloc] at s0
  have S0 : Seal _ := ⟨s0⟩
  have C : Seal _ := ⟨eachMail_any p.a1 p.c1 x.rc _ (hat.rc.below rcptP_stays s0.drew.below (Nat.le_refl _)) z3⟩
  have K0 := s0.two.head
  have g1 := K0.c 1 _ rfl
  have g2 := K0.c 2 _ rfl
  have g3 := K0.c 3 _ rfl
  have g4 := K0.c 4 _ rfl
  clear hat hz s0 K0
  go_enter Tryz.func127, Tryz.ntmps127
  go_wp2_with fail
  go_region_with (go_at_call 190; refine C.out.mono ?_; rintro e w1 ⟨bo, c, hc, rfl, k1⟩; have S1 : Seal _ := ⟨S0.out.drew.join k1⟩; have K1 := S1.out.three.head; have R1 := S1.out.two.head; have y1 := K1.c 1 _ rfl; have y2 := K1.c 2 _ rfl; have y3 := K1.c 3 _ rfl; have y4 := K1.c 4 _ rfl; have r0 := R1.c 0 _ rfl; have r1 := R1.c 1 _ rfl; have r2 := R1.c 2 _ rfl; have r3 := R1.c 3 _ rfl; have f0 := R1.f 0 (by simp); have f1 := R1.f 1 (by simp); have f2 := R1.f 2 (by simp); have f3 := R1.f 3 (by simp); clear K1 R1 k1)
  all_goals
    have S2 := (((S1.out.two.set 0 (.string x.fu) (by simp)).set 1 (.string x.fd) (by simp)).set 2 (.slice bo x.rc.length c) (by simp)).set 3 (.slice p.a2 x.body.length p.c2) (by simp)
    have S3 : Seal _ := ⟨S2.tail.first (l := [Res.row 27 2 (.slice bo x.rc.length c) x.rc.length (pairCells (x.rc.map rcptPair))])⟩
    clear S2
    go_wp2
    exact bodyPost_ret (v := .agg #[.string x.fu, .string x.fd, .slice bo x.rc.length c, .slice p.a2 x.body.length p.c2]) (by simp [results, Tryz.results127, go_sem, r0, r1, r2, r3]) rfl ⟨bo, c, hc, rfl, S3.out⟩

set_option maxHeartbeats 1600000 in
set_option maxRecDepth 100000 in
theorem itemValid_any (x : ItemD) (p : ItemV) (w : World) (hm : HasMax w) (hat : ItemAt w x p) (hz : itemN x ≤ 1048576) :
    Calls Tryz.prog 72 #[.agg (itemV x p)] w fun e w' => e = .returned (.bool (itemB x)) ∧ Below w.heap.size w w' := by
  obtain ⟨z1, z2, z3, z4, z5, z6⟩ := itemN_parts hz
  have S0 : Seal _ := ⟨(St.start w).alloc (itemV x p) 43⟩
  have HA : Seal _ := ⟨hat⟩
  have HM : Seal _ := ⟨hm⟩
  have HZ : Seal _ := ⟨hz⟩
  have HMZ : Seal (MailSz 1048576 (itemMail x)) := ⟨⟨z1, z2, by rw [List.length_map]; exact z3, fun q hq => by
    obtain ⟨y, hy, rfl⟩ := List.mem_map.1 hq
    exact z4 y hy, z5, z6⟩⟩
  obtain ⟨v1, h1⟩ : ∃ v, mailB (itemMail x) = v := ⟨_, rfl⟩
  obtain ⟨v2, h2⟩ : ∃ v, x.rc.all tryB = v := ⟨_, rfl⟩
  have HQ : Seal (itemB x = (v1 && v2)) := ⟨by unfold itemB; rw [h1, h2]⟩
  have H1 : Seal _ := ⟨h1⟩
  have H2 : Seal _ := ⟨h2⟩
  clear hat hm hz h1 h2 z4 z6
  go_enter Tryz.func72, Tryz.ntmps72
  go_wp2_with fail
  refine (itemMail_any x p _ (HA.out.below S0.out.below (Nat.le_refl _)) HZ.out).mono ?_
  rintro e w1 ⟨bo, c, hc, rfl, k1⟩
  have S1 : Seal _ := ⟨S0.out.join k1⟩
  have PR : Seal (PairRow w1 bo (itemMail x).rc) := ⟨pairs_of (c := c) k1.head⟩
  have eV : mailV (itemMail x) bo c p.a2 p.c2 = #[.string x.fu, .string x.fd, .slice bo x.rc.length c, .slice p.a2 x.body.length p.c2] := by
    show (#[.string x.fu, .string x.fd, .slice bo (x.rc.map rcptPair).length c, .slice p.a2 x.body.length p.c2] : Array Value) = _
    rw [List.length_map]
  have C : Seal (Calls Tryz.prog 60 #[.agg #[.string x.fu, .string x.fd, .slice bo x.rc.length c, .slice p.a2 x.body.length p.c2]] w1 fun e w' => e = .returned (.bool v1) ∧ Below w1.heap.size w1 w') := ⟨by
    have h := implMailOk_any (itemMail x) bo c p.a2 p.c2 w1 (HM.out.below S1.out.below (Nat.le_refl _)) ⟨PR.out, HA.out.body.below S1.out.below (Nat.le_refl _)⟩ HMZ.out (by rw [List.length_map]; exact hc)
    rw [eV, H1.out] at h
    exact h⟩
  clear k1 S0 eV
  go_wp2_with fail
  refine C.out.mono ?_
  rintro e w2 ⟨rfl, hb2⟩
  have S2 : Seal _ := ⟨S1.out.later hb2⟩
  have K2 := S2.out.two.head
  have g0 := K2.c 0 _ rfl
  have g1 := K2.c 1 _ rfl
  have g2 := K2.c 2 _ rfl
  have g3 := K2.c 3 _ rfl
  have g4 := K2.c 4 _ rfl
  clear hb2 S1 K2 C PR
  cases v1
  · have hm : Seal (itemB x = false) := ⟨HQ.out⟩
    go_wp2
    go_ret
    exact ⟨ret_b hm.out.symm, S2.out.below⟩
  · have hm : Seal (itemB x = v2) := ⟨by rw [HQ.out]; rfl⟩
    go_wp2_with fail
    refine (recipients_any x p _).mono ?_
    rintro e w3 ⟨rfl, hb3⟩
    have S3 : Seal _ := ⟨S2.out.later hb3⟩
    clear hb3 S2 g0 g1 g2 g3 g4
    go_wp2_with fail
    refine (everyRcpt_any p.a1 p.c1 x.rc _ (HA.out.rc.below rcptP_stays S3.out.below (Nat.le_refl _)) z3).mono ?_
    rintro e w4 ⟨rfl, hb4⟩
    rw [H2.out]
    have S4 : Seal _ := ⟨S3.out.later hb4⟩
    clear hb4 S3
    go_wp2
    go_ret
    exact ⟨ret_b hm.out.symm, S4.out.below⟩
end Go.Proofs.YtcaknjdolfheaaaGreatDoor
namespace Go.Proofs.YtcaknjdolfheaaaGreatDoor
open Go Go.RowKit

/-- What is asked of the next item, behind one with the number p. -/
def nextB (last p : Int) (x : ItemD) : Bool := decide (p < x.id ∧ x.id ≤ last) && itemB x
def spoolBad (s : SpoolD) (k : Nat) : Bool := match s.items[k]? with
  | some x => !nextB s.last (ahead s.items k) x
  | none => false
theorem spoolBad_of {s : SpoolD} {k : Nat} {x : ItemD} (h : s.items[k]? = some x) : spoolBad s k = !nextB s.last (ahead s.items k) x := by unfold spoolBad; rw [h]
theorem good_chain {s : SpoolD} : ∀ {k : Nat}, k ≤ s.items.length → (∀ j, j < k → spoolBad s j = false) → (s.items.take k).all itemB = true ∧ ascB s.last 0 s.items = ascB s.last (ahead s.items k) (s.items.drop k)
  | 0, _, _ => ⟨by simp, rfl⟩
  | k + 1, hk, h => by
    obtain ⟨x, hx⟩ : ∃ x, s.items[k]? = some x := ⟨_, List.getElem?_eq_getElem hk⟩
    have ih := good_chain (s := s) (k := k) (by omega) fun j hj => h j (by omega)
    have hq := h k (Nat.lt_succ_self k)
    rw [spoolBad_of hx] at hq
    have hq2 : nextB s.last (ahead s.items k) x = true := by simpa using hq
    unfold nextB at hq2
    rw [Bool.and_eq_true, decide_eq_true_eq] at hq2
    exact ⟨list_all_succ hx ih.1 hq2.2, asc_next hx ih.2 hq2.1.1 hq2.1.2⟩
theorem spool_good {s : SpoolD} (h : ∀ j, j < s.items.length → spoolBad s j = false) : spoolB s = (decide (0 ≤ s.last ∧ s.last ≤ 999) && decide (s.items.length ≤ 10)) := by
  have := good_chain (Nat.le_refl _) h
  rw [List.take_length] at this
  exact spoolB_end this.1 (asc_end (Nat.le_refl _) this.2)
theorem spool_bad {s : SpoolD} {k : Nat} (hk : k < s.items.length) (hq : spoolBad s k = true) (h : ∀ j, j < k → spoolBad s j = false) : spoolB s = false := by
  obtain ⟨x, hx⟩ : ∃ x, s.items[k]? = some x := ⟨_, List.getElem?_eq_getElem hk⟩
  have hc := good_chain (Nat.le_of_lt hk) h
  rw [spoolBad_of hx] at hq
  have hq2 : nextB s.last (ahead s.items k) x = false := by simpa using hq
  unfold nextB at hq2
  rw [Bool.and_eq_false_iff, decide_eq_false_iff_not] at hq2
  rcases hq2 with h1 | h1
  · exact spoolB_asc (asc_miss hx hc.2 h1)
  · exact spoolB_item (List.mem_of_getElem? hx) h1

/-- The memory of the question: the number that was last, the spool. -/
abbrev askL (b1 b2 : Nat) (s : SpoolD) (ao : Option Addr) (cap : Nat) (p : Int) (l : List Res) : List Res := Res.cells b1 [.int .i64 p] :: Res.cells b2 (spoolL s ao cap) :: l

set_option maxHeartbeats 1600000 in
set_option maxRecDepth 100000 in
theorem okOne_any (b1 b2 : Nat) (s : SpoolD) (ao : Option Addr) (cap : Nat) (prev : Int) (l : List Res) (x : ItemD) (p : ItemV) (w0 w : World) (hm : HasMax w0) (hat : ItemAt w0 x p) (hz : itemN x ≤ 1048576) (h : St w0 w (askL b1 b2 s ao cap prev l)) :
    Calls Tryz.prog 71 #[.agg (itemV x p), .pointer (some ⟨b1, 0, none⟩), .pointer (some ⟨b2, 0, none⟩)] w fun e w' => e = .returned (.bool (nextB s.last prev x)) ∧ St w0 w' (askL b1 b2 s ao cap x.id l) := by
  have hl1 := h.head.lt
  have s0 := (h.alloc (itemV x p) 43)
  have K0 := s0.head
  have g0 := K0.c 0 _ rfl
  have P0 := s0.two.head
  have p0 := P0.c 0 _ rfl
  have f0 := P0.f 0 (by simp)
  have q0 := s0.three.head.c 0 _ rfl
  have s1 := (h.set 0 (.int .i64 x.id) (by simp)).alloc (itemV x p) 43
  simp only [World.size_setCell] at s1
  have S1 : Seal _ := ⟨s1⟩
  have hne : b1 ≠ w.heap.size := by omega
  have C : Seal _ := ⟨itemValid_any x p _ (hm.below s1.below (Nat.le_refl _)) (hat.below s1.below (Nat.le_refl _)) hz⟩
  obtain ⟨v2, h2⟩ : ∃ v, itemB x = v := ⟨_, rfl⟩
  rw [h2] at C
  have K1 := s1.head
  have k0 := K1.c 0 _ rfl
  have k1 := K1.c 1 _ rfl
  have k2 := K1.c 2 _ rfl
  have k3 := K1.c 3 _ rfl
  have k4 := K1.c 4 _ rfl
  by_cases ha : prev < x.id ∧ x.id ≤ s.last
  · have hq : Seal (nextB s.last prev x = v2) := ⟨by unfold nextB; rw [decide_eq_true ha, h2]; rfl⟩
    obtain ⟨ha1, ha2⟩ := ha
    clear h hat hm s0 s1 K0 P0 K1 h2 hz
    go_enter Tryz.func71, Tryz.ntmps71
    go_wp2_with fail
    refine C.out.mono ?_
    rintro e w1 ⟨rfl, hb1⟩
    have S2 : Seal _ := ⟨(S1.out.later hb1)⟩
    clear hb1 C S1
    go_wp2
    go_ret
    exact ⟨ret_b hq.out.symm, S2.out.tail⟩
  · have hq : Seal (nextB s.last prev x = false) := ⟨by unfold nextB; rw [decide_eq_false ha]; rfl⟩
    have S2 : Seal _ := ⟨s1.tail⟩
    clear h hat hm s0 s1 K0 P0 K1 h2 hz C S1
    by_cases ha1 : prev < x.id
    · have ha2 : s.last < x.id := by omega
      clear ha
      go_enter Tryz.func71, Tryz.ntmps71
      go_wp2
      go_ret
      exact ⟨ret_b hq.out.symm, S2.out⟩
    · clear ha
      go_enter Tryz.func71, Tryz.ntmps71
      go_wp2
      go_ret
      exact ⟨ret_b hq.out.symm, S2.out⟩

/-- The question as a value. -/
abbrev askF (b1 b2 : Nat) : Value := .func (.func 71) #[] #[.pointer (some ⟨b1, 0, none⟩), .pointer (some ⟨b2, 0, none⟩)]

set_option maxRecDepth 100000 in
theorem everyOneItem_any (b1 b2 b3 : Nat) (s : SpoolD) (ao : Option Addr) (cap : Nat) (prev : Int) (l : List Res) (x : ItemD) (p : ItemV) (w0 w : World) (hm : HasMax w0) (hat : ItemAt w0 x p) (hz : itemN x ≤ 1048576) (h : St w0 w (askL b1 b2 s ao cap prev (Res.cells b3 [askF b1 b2] :: l))) :
    Calls Tryz.prog 126 #[.agg (itemV x p), .pointer (some ⟨b3, 0, none⟩)] w fun e w' => e = .returned (.bool (!nextB s.last prev x)) ∧ St w0 w' (askL b1 b2 s ao cap x.id (Res.cells b3 [askF b1 b2] :: l)) := by
  have s0 := h.more (.cells (itemV x p) 43)
  have c1 := s0.three.head.c 0 _ rfl
  have C : Seal _ := ⟨okOne_any b1 b2 s ao cap prev _ x p w0 _ hm hat hz s0⟩
  obtain ⟨v, hv⟩ : ∃ v, nextB s.last prev x = v := ⟨_, rfl⟩
  rw [hv] at C ⊢
  clear h hat hm hz s0 hv
  go_enter Tryz.func126, Tryz.ntmps126
  go_wp2_with fail
  refine C.out.mono ?_
  rintro e w1 ⟨rfl, h1⟩
  have S1 : Seal _ := ⟨h1⟩
  clear h1 C
  go_wp2
  go_ret
  exact ⟨rfl, S1.out⟩

set_option maxHeartbeats 1600000 in
set_option maxRecDepth 100000 in
theorem everyItem_any (b1 b2 : Nat) (s : SpoolD) (ao : Option Addr) (cap : Nat) (l : List Res) (w0 w : World) (hm : HasMax w0) (hat : ItemRow w0 ao s.items) (hz : spoolN s ≤ 1048576) (h : St w0 w (askL b1 b2 s ao cap 0 l)) (hs1 : 0 ≤ s.last ∧ s.last ≤ 999) (hs2 : s.items.length ≤ 10) :
    Calls Tryz.prog 70 #[.slice ao s.items.length cap, askF b1 b2] w fun e w' => e = .returned (.bool (spoolB s)) ∧ Below w0.heap.size w0 w' := by
  have hz2 := (spoolN_parts hz).2
  have s1 : St w0 _ (askL b1 b2 s ao cap 0 (Res.cells w.heap.size [askF b1 b2] :: l)) := (h.alloc #[askF b1 b2] 102).perm ((List.Perm.swap _ _ _).trans ((List.Perm.swap _ _ _).cons _))
  have C : Seal _ := ⟨findItem_any 126 ⟨w.heap.size, 0, none⟩ ao cap s.items (spoolBad s) (fun k W => St w0 W (askL b1 b2 s ao cap (ahead s.items k) (Res.cells w.heap.size [askF b1 b2] :: l))) (fun k W => St w0 W (askL b1 b2 s ao cap (ahead s.items (k + 1)) (Res.cells w.heap.size [askF b1 b2] :: l))) _
    (enters_of Tryz.func126 (by kernel_rfl) rfl) (by omega) s1 (fun k W W' h hb => h.later hb) w0 hat (fun k W h => h.below)
    (fun k x p W hx ha hi => by
      refine (everyOneItem_any b1 b2 w.heap.size s ao cap (ahead s.items k) l x p w0 W hm ha (hz2 x (List.mem_of_getElem? hx)) hi).mono ?_
      rintro e w1 ⟨rfl, h1⟩
      rw [spoolBad_of hx]
      have h2 := h1
      rw [← ahead_succ hx] at h2
      exact ⟨rfl, fun _ => h2, fun _ => h2⟩)⟩
  have hq : Seal (∀ _ : (∀ j, j < s.items.length → spoolBad s j = false), spoolB s = true) := ⟨fun h => by rw [spool_good h, decide_eq_true hs1, decide_eq_true hs2]; rfl⟩
  clear hat hm hz h s1 hz2 hs1 hs2
  go_enter Tryz.func70, Tryz.ntmps70
  go_wp2_with fail
  refine C.out.mono ?_
  rintro e w1 ⟨r, rfl, hh⟩
  rcases hh with ⟨k, hk, rfl, h1, h2, h3⟩ | ⟨rfl, h2, h3⟩
  · have hm : Seal (spoolB s = false) := ⟨spool_bad hk h1 h2⟩
    have B1 : Seal _ := ⟨h3.below⟩
    clear h1 h2 h3 C
    go_wp2
    go_ret
    exact ⟨ret_b hm.out.symm, B1.out⟩
  · have hm : Seal (spoolB s = true) := ⟨hq.out h2⟩
    have B1 : Seal _ := ⟨h3.below⟩
    clear h2 h3 C
    go_wp2
    go_ret
    exact ⟨ret_b hm.out.symm, B1.out⟩

theorem items_any (s : SpoolD) (ao : Option Addr) (cap : Nat) (w : World) :
    Calls Tryz.prog 69 #[.agg (spoolV s ao cap)] w fun e w' => e = .returned (.slice ao s.items.length cap) ∧ Below w.heap.size w w' := by
  have S0 : Seal _ := ⟨(St.start w).alloc (spoolV s ao cap) 25⟩
  go_enter Tryz.func69, Tryz.ntmps69
  go_wp2
  go_ret
  exact ⟨rfl, S0.out.below⟩

set_option maxHeartbeats 1600000 in
set_option maxRecDepth 100000 in
theorem implSpoolOk_any (s : SpoolD) (ao : Option Addr) (cap : Nat) (w : World) (hm : HasMax w) (hat : ItemRow w ao s.items) (hz : spoolN s ≤ 1048576) :
    Calls Tryz.prog 19 #[.agg (spoolV s ao cap)] w fun e w' => e = .returned (.bool (spoolB s)) ∧ Below w.heap.size w w' := by
  obtain ⟨z1, _⟩ := spoolN_parts hz
  have s0 := (St.start w).alloc (spoolV s ao cap) 25
  have S0 : Seal _ := ⟨s0⟩
  have s1 := s0.alloc #[.int .i64 0] 3
  simp only [World.size_alloc] at s1
  have S1 : Seal _ := ⟨s1⟩
  by_cases h1 : 0 ≤ s.last ∧ s.last ≤ 999
  · obtain ⟨h1a, h1b⟩ := h1
    by_cases h2 : s.items.length ≤ 10
    · have h2' : (s.items.length : Int) ≤ 10 := by omega
      have CE : Seal (∀ W, St w W (askL (w.heap.size + 1) w.heap.size s ao cap 0 []) → Calls Tryz.prog 70 #[.slice ao s.items.length cap, askF (w.heap.size + 1) w.heap.size] W fun e w' => e = .returned (.bool (spoolB s)) ∧ Below w.heap.size w w') := ⟨fun W hW => everyItem_any _ _ s ao cap [] w W hm hat hz hW ⟨h1a, h1b⟩ h2⟩
      clear hm hat hz s0 s1
      have q0 := S1.out.two.head.c 0 _ rfl
      have q1 := S1.out.two.head.c 1 _ rfl
      go_enter Tryz.func19, Tryz.ntmps19
      go_wp2_with fail
      refine (items_any s ao cap _).mono ?_
      rintro e w1 ⟨rfl, hb1⟩
      have S2 : Seal _ := ⟨S1.out.later hb1⟩
      clear hb1 S1
      go_wp2_with fail
      refine (CE.out _ S2.out).mono ?_
      rintro e w2 ⟨rfl, hb2⟩
      have B2 : Seal _ := ⟨hb2⟩
      clear hb2 CE
      go_wp2
      go_ret
      exact ⟨rfl, B2.out⟩
    · have hq : Seal (spoolB s = false) := ⟨spoolB_many h2⟩
      have h2' : (10 : Int) < s.items.length := by omega
      clear hm hat hz s0 s1 h2
      go_enter Tryz.func19, Tryz.ntmps19
      go_wp2
      go_ret
      exact ⟨ret_b hq.out.symm, S0.out.below⟩
  · have hq : Seal (spoolB s = false) := ⟨spoolB_last h1⟩
    clear hm hat hz s0 s1
    by_cases h1a : 0 ≤ s.last
    · have h1b : 999 < s.last := by omega
      clear h1
      go_enter Tryz.func19, Tryz.ntmps19
      go_wp2
      go_ret
      exact ⟨ret_b hq.out.symm, S0.out.below⟩
    · clear h1
      go_enter Tryz.func19, Tryz.ntmps19
      go_wp2
      go_ret
      exact ⟨ret_b hq.out.symm, S0.out.below⟩
end Go.Proofs.YtcaknjdolfheaaaGreatDoor
namespace Go.Proofs.YtcaknjdolfheaaaGreatDoor
open Go Go.RowKit

def rcLen (x : ItemD) : Nat := x.rc.length
def manyR (s : SpoolD) : Int := if spoolB s = true then (sumN rcLen s.items : Int) else -1
theorem sumN_le {α : Type} {f g : α → Nat} {xs : List α} (h : ∀ x ∈ xs, f x ≤ g x) : sumN f xs ≤ sumN g xs := by
  induction xs with
  | nil => exact Nat.le_refl _
  | cons x xs ih =>
    unfold sumN at ih ⊢
    rw [List.map_cons, List.map_cons, List.sum_cons, List.sum_cons]
    have h1 := h x List.mem_cons_self
    have h2 := ih fun y hy => h y (List.mem_cons_of_mem _ hy)
    omega
theorem rcLen_le (x : ItemD) : rcLen x ≤ itemN x := by
  have := rowN_length rcptN x.rc
  unfold rcLen itemN
  omega
theorem many_le (s : SpoolD) (k : Nat) : sumN rcLen (s.items.take k) ≤ spoolN s := by
  have h1 : sumN rcLen (s.items.take k) ≤ sumN itemN (s.items.take k) := sumN_le fun x _ => rcLen_le x
  have h2 := sumN_split itemN s.items k
  unfold spoolN
  rw [rowN_eq]
  omega

set_option maxHeartbeats 1600000 in
set_option maxRecDepth 100000 in
theorem implSpoolMany_any (s : SpoolD) (ao : Option Addr) (cap : Nat) (w : World) (hm : HasMax w) (hat : ItemRow w ao s.items) (hz : spoolN s ≤ 1048576) :
    Calls Tryz.prog 23 #[.agg (spoolV s ao cap)] w fun e w' => e = .returned (.int .i64 (manyR s)) ∧ Below w.heap.size w w' := by
  obtain ⟨z1, _⟩ := spoolN_parts hz
  have HA : Seal _ := ⟨hat⟩
  have HZ : Seal _ := ⟨hz⟩
  have s0 := (St.start w).alloc (spoolV s ao cap) 25
  have S0 : Seal _ := ⟨s0⟩
  have C : Seal _ := ⟨implSpoolOk_any s ao cap _ (hm.below s0.below (Nat.le_refl _)) (hat.below itemP_stays s0.below (Nat.le_refl _)) hz⟩
  obtain ⟨v, hv⟩ : ∃ v, spoolB s = v := ⟨_, rfl⟩
  have HV : Seal _ := ⟨hv⟩
  rw [hv] at C
  clear hat hz hv hm s0
  go_enter Tryz.func23, Tryz.ntmps23
  go_wp2_with fail
  refine C.out.mono ?_
  rintro e w1 ⟨rfl, hb1⟩
  have S1 : Seal _ := ⟨S0.out.later hb1⟩
  have g1 := S1.out.head.c 1 _ rfl
  clear hb1 S0 C
  cases v
  · have hm : Seal (manyR s = -1) := ⟨by unfold manyR; rw [HV.out]; rfl⟩
    go_wp2
    go_ret
    exact ⟨ret_in hm.out.symm, S1.out.below⟩
  · go_wp2
    go_loopw [3, 12] (fun n i wr => ∃ (k m : Nat), k ≤ s.items.length ∧ i = .int .i64 k ∧ n = .int .i64 m ∧ m ≤ 1048576 ∧ Seal (sumN rcLen (s.items.take k) = m) ∧ Seal (Below w.heap.size w wr)) (fun _ i _ => s.items.length - (intOf i).toNat)
    case atStart => exact ⟨0, 0, Nat.zero_le _, rfl, rfl, by omega, ⟨by simp [sumN]⟩, ⟨S1.out.below⟩⟩
    case round =>
      obtain ⟨k, m, hk, rfl, rfl, hm0, H, hb⟩ := hrel
      by_cases hlt : k < s.items.length
      · obtain ⟨x, hx⟩ : ∃ x, s.items[k]? = some x := ⟨_, List.getElem?_eq_getElem hlt⟩
        obtain ⟨b, off, p, rfl, c0, c1, c2, c3, c4, _⟩ := itemAt (HA.out.below itemP_stays hb.out (Nat.le_refl _)) hx
        have hsn := sumN_snoc rcLen hx
        rw [H.out] at hsn
        have hle : m + x.rc.length ≤ 1048576 := by
          have := many_le s (k + 1)
          rw [hsn] at this
          have hz := HZ.out
          unfold rcLen at this
          omega
        have H2 : Seal (sumN rcLen (s.items.take (k + 1)) = m + x.rc.length) := ⟨hsn⟩
        have B2 : Seal _ := ⟨hb.out.alloc hb.out.size (.cells (itemV x p) 43)⟩
        clear hx hsn
        go_wp2
        go_roundw
        case rel => exact ⟨k + 1, m + x.rc.length, by omega, by go_num, by go_num, hle, H2, B2⟩
        case measure => simp [intOf]; omega
      · have hm : Seal (manyR s = m) := ⟨by
          have := H.out
          rw [List.take_of_length_le (by omega)] at this
          unfold manyR
          rw [HV.out, if_pos rfl, this]⟩
        go_wp2
        go_ret
        exact ⟨ret_in hm.out.symm, hb.out⟩
end Go.Proofs.YtcaknjdolfheaaaGreatDoor
