/- Contracts: whether a client's state is ok, of the model and of the program. -/
import Derived.Test.YtgjkoegpdfcadaaDoorCliFns
import Derived.Test.YtgjkoegpdfcadaaDoorAddrs
namespace Go.Proofs.YtgjkoegpdfcadaaDoor
open Go Go.RowKit

def outB (x : Int) : Bool := inB x 0 4
def outcB (xs : List Int) : Bool := xs.all outB
def cliB (c : CliD) : Bool := outcB c.outs && (mailB c.m && (domB c.nm && (decide (c.outs.length = c.m.rc.length) && (inB c.st 0 7 && (inB c.pos 0 c.m.rc.length && (c.st != 3 || decide (0 < c.pos)))))))
theorem outsB_miss {xs : List Int} {k : Nat} {x : Int} (hx : xs[k]? = some x) (h : outB x = false) : outcB xs = false := list_all_miss hx h
theorem outsB_end {xs : List Int} {k : Nat} (hk : xs.length ≤ k) (h : (xs.take k).all outB = true) : outcB xs = true := by
  rwa [List.take_of_length_le hk] at h

set_option maxHeartbeats 400000 in
theorem areOuts_any (ao : Option Addr) (cap : Nat) (xs : List Int) (w : World) (hr : IntRow w ao xs) (hl : xs.length ≤ 1048576) :
    Calls Tryd.prog 91 #[.slice ao xs.length cap] w fun e w' => e = .returned (.bool (outcB xs)) ∧ w = w' := by
  have HR := Lib.hid hr
  clear hr
  go_enter Tryd.func91, Tryd.ntmps91
  go_wp2
  go_loop [7] (fun i => ∃ k : Nat, k ≤ xs.length ∧ i = .int .i64 k ∧ Hid ((xs.take k).all outB = true)) (fun i => xs.length - (intOf i).toNat)
  case atStart => exact ⟨0, Nat.zero_le _, rfl, Lib.hid (by simp)⟩
  case round =>
    obtain ⟨k, hk, rfl, H⟩ := hrel
    by_cases hlt : k < xs.length
    · obtain ⟨x, hx⟩ : ∃ x, xs[k]? = some x := ⟨_, List.getElem?_eq_getElem hlt⟩
      obtain ⟨b, off, rfl, hcell⟩ := HR.out k x hx
      by_cases h0 : x < 0
      · have hm : Hid (outcB xs = false) := Lib.hid (outsB_miss hx (inB_false (by omega)))
        clear hx
        go_wp2
        go_ret
        exact ⟨ret_b hm.out.symm, rfl⟩
      · by_cases h4 : 4 < x
        · have hm : Hid (outcB xs = false) := Lib.hid (outsB_miss hx (inB_false (by omega)))
          clear hx
          go_wp2
          go_ret
          exact ⟨ret_b hm.out.symm, rfl⟩
        · have H2 : Hid ((xs.take (k + 1)).all outB = true) := Lib.hid (list_all_succ hx H.out (inB_true (by omega)))
          clear hx
          go_wp2
          go_round
          case rel => exact ⟨k + 1, by omega, by go_num, H2⟩
          case measure => simp [intOf]; omega
    · have hm : Hid (outcB xs = true) := Lib.hid (outsB_end (by omega) H.out)
      go_wp2
      go_ret
      exact ⟨ret_b hm.out.symm, rfl⟩

set_option maxHeartbeats 2000000 in
set_option maxRecDepth 100000 in
theorem l4Ok_any (c : CliD) (a1 : Option Addr) (c1 : Nat) (a2 : Option Addr) (c2 : Nat) (a3 : Option Addr) (c3 : Nat) (w : World) (hat : CliAt w c a1 a2 a3) (hsz : CliSz 1048576 c) :
    Calls Tryd.prog 93 #[.agg (cliV c a1 c1 a2 c2 a3 c3)] w fun e w' => e = .returned (.bool (cliB c)) ∧ Below w.heap.size w w' := by
  have HAT := Lib.hid hat
  have HS := Lib.hid hsz
  have zn := hsz.nm
  have zo := hsz.outs
  have b0 : Below w.heap.size w (w.alloc (.cells (cliV c a1 c1 a2 c2 a3 c3) 46)) := (Below.refl _ _).alloc (Nat.le_refl _) _
  have K0 := Lib.hid (CellsM.new w (cliV c a1 c1 a2 c2 a3 c3) 46)
  have I0 := Lib.hid (hat.outs.below b0 (Nat.le_refl _))
  have M0 := Lib.hid (hat.m.below b0 (Nat.le_refl _))
  clear hat hsz
  go_enter Tryd.func93, Tryd.ntmps93
  go_wp2
  generalize w.alloc (.cells (cliV c a1 c1 a2 c2 a3 c3) 46) = W at K0 I0 M0 b0 ⊢
  have q0 := K0.out.c 0 _ rfl
  have q1 := K0.out.c 1 _ rfl
  have q2 := K0.out.c 2 _ rfl
  have q3 := K0.out.c 3 _ rfl
  have q4 := K0.out.c 4 _ rfl
  have q5 := K0.out.c 5 _ rfl
  have q6 := K0.out.c 6 _ rfl
  have q7 := K0.out.c 7 _ rfl
  go_loop [3] (fun i => ∃ k : Nat, k ≤ c.outs.length ∧ i = .int .i64 k ∧ Hid ((c.outs.take k).all outB = true)) (fun i => c.outs.length - (intOf i).toNat)
  case atStart => exact ⟨0, Nat.zero_le _, rfl, Lib.hid (by simp)⟩
  case round =>
    obtain ⟨k, hk, rfl, H⟩ := hrel
    by_cases hlt : k < c.outs.length
    · obtain ⟨x, hx⟩ : ∃ x, c.outs[k]? = some x := ⟨_, List.getElem?_eq_getElem hlt⟩
      obtain ⟨b, off, rfl, hcell⟩ := I0.out k x hx
      cases hv : outB x
      · have hm : Hid (cliB c = false) := Lib.hid (by unfold cliB; rw [outsB_miss hx hv]; rfl)
        have hv' := Lib.hid hv
        clear hx hv
        go_wp2_with fail
        refine (l1In_any _ _ _ _).mono ?_
        rintro e w' ⟨rfl, rfl⟩
        rw [show inB x 0 4 = false from hv'.out]
        go_wp2
        go_ret
        exact ⟨ret_b hm.out.symm, b0⟩
      · have H2 : Hid ((c.outs.take (k + 1)).all outB = true) := Lib.hid (list_all_succ hx H.out hv)
        have hv' := Lib.hid hv
        clear hx hv
        go_wp2_with fail
        refine (l1In_any _ _ _ _).mono ?_
        rintro e w' ⟨rfl, rfl⟩
        rw [show inB x 0 4 = true from hv'.out]
        go_wp2
        go_round
        case rel => exact ⟨k + 1, by omega, by go_num, H2⟩
        case measure => simp [intOf]; omega
    · have HO : Hid (outcB c.outs = true) := Lib.hid (outsB_end (by omega) H.out)
      obtain ⟨v1, hv1⟩ : ∃ v, mailB c.m = v := ⟨_, rfl⟩
      obtain ⟨v2, hv2⟩ : ∃ v, domB c.nm = v := ⟨_, rfl⟩
      have V1 := Lib.hid hv1
      have V2 := Lib.hid hv2
      clear hv1 hv2
      go_wp2_with fail
      refine (l2Ok_any c.m a1 c1 a2 c2 _ M0.out HS.out.m).mono ?_
      rintro e w1 ⟨rfl, hb1⟩
      rw [V1.out]
      have K1 := K0.out.later hb1
      have B1 := b0.trans (hb1.mono b0.size)
      clear q0 q1 q2 q3 q4 q5 q6 q7 hb1
      have q0 := K1.c 0 _ rfl
      cases v1
      · have hm : Hid (cliB c = false) := Lib.hid (by unfold cliB; rw [V1.out]; simp)
        go_wp2
        go_ret
        exact ⟨ret_b hm.out.symm, B1⟩
      · go_wp2_with fail
        refine (l1Domain_any c.nm _ (by omega)).mono ?_
        rintro e w2 ⟨rfl, hb2⟩
        rw [V2.out]
        have K2 := K1.later hb2
        have B2 := B1.trans (hb2.mono B1.size)
        clear q0 K1 B1 hb2
        have q3 := K2.c 3 _ rfl
        have q5 := K2.c 5 _ rfl
        have q6 := K2.c 6 _ rfl
        have q7 := K2.c 7 _ rfl
        clear K2
        cases v2
        · have hm : Hid (cliB c = false) := Lib.hid (by unfold cliB; rw [V2.out]; simp)
          go_wp2
          go_ret
          exact ⟨ret_b hm.out.symm, B2⟩
        · by_cases hln : c.outs.length = c.m.rc.length
          · have e1 : ((c.outs.length : Int) == (c.m.rc.length : Int)) = true := by rw [beq_iff_eq]; omega
            have HLN := Lib.hid hln
            clear hln
            obtain ⟨v3, hv3⟩ : ∃ v, inB c.st 0 7 = v := ⟨_, rfl⟩
            obtain ⟨v4, hv4⟩ : ∃ v, inB c.pos 0 c.m.rc.length = v := ⟨_, rfl⟩
            have V3 := Lib.hid hv3
            have V4 := Lib.hid hv4
            clear hv3 hv4
            cases v3
            · have hm : Hid (cliB c = false) := Lib.hid (by unfold cliB; rw [V3.out]; simp)
              go_wp2_with fail
              refine (l1In_any _ _ _ _).mono ?_
              rintro e w' ⟨rfl, rfl⟩
              rw [V3.out]
              go_wp2
              go_ret
              exact ⟨ret_b hm.out.symm, B2⟩
            · cases v4
              · have hm : Hid (cliB c = false) := Lib.hid (by unfold cliB; rw [V4.out]; simp)
                go_wp2_with fail
                refine (l1In_any _ _ _ _).mono ?_
                rintro e w' ⟨rfl, rfl⟩
                rw [V3.out]
                go_wp2_with fail
                refine (l1In_any _ _ _ _).mono ?_
                rintro e w' ⟨rfl, rfl⟩
                rw [V4.out]
                go_wp2
                go_ret
                exact ⟨ret_b hm.out.symm, B2⟩
              · have hm : Hid (cliB c = (c.st != 3 || decide (0 < c.pos))) := Lib.hid (by unfold cliB; rw [HO.out, V1.out, V2.out, V3.out, V4.out, decide_eq_true HLN.out]; simp)
                obtain ⟨v5, hv5⟩ : ∃ v, (c.st != 3) = v := ⟨_, rfl⟩
                obtain ⟨v6, hv6⟩ : ∃ v, decide (0 < c.pos) = v := ⟨_, rfl⟩
                rw [hv5, hv6] at hm
                cases v5
                all_goals
                  cases v6
                  all_goals
                    go_wp2_with fail
                    refine (l1In_any _ _ _ _).mono ?_
                    rintro e w' ⟨rfl, rfl⟩
                    rw [V3.out]
                    go_wp2_with fail
                    refine (l1In_any _ _ _ _).mono ?_
                    rintro e w' ⟨rfl, rfl⟩
                    rw [V4.out]
                    go_wp2
                    go_ret
                    exact ⟨ret_b hm.out.symm, B2⟩
          · have e1 : ((c.outs.length : Int) == (c.m.rc.length : Int)) = false := by rw [beq_eq_false_iff_ne]; omega
            have hm : Hid (cliB c = false) := Lib.hid (by unfold cliB; rw [decide_eq_false hln]; simp)
            go_wp2
            go_ret
            exact ⟨ret_b hm.out.symm, B2⟩

set_option maxHeartbeats 2000000 in
set_option maxRecDepth 100000 in
theorem implCliOk_any (c : CliD) (a1 : Option Addr) (c1 : Nat) (a2 : Option Addr) (c2 : Nat) (a3 : Option Addr) (c3 : Nat) (w : World) (hm : HasMax w) (hat : CliAt w c a1 a2 a3) (hsz : CliSz 1048576 c) (hcap : c.m.rc.length ≤ c1) :
    Calls Tryd.prog 28 #[.agg (cliV c a1 c1 a2 c2 a3 c3)] w fun e w' => e = .returned (.bool (cliB c)) ∧ Below w.heap.size w w' := by
  have HS := Lib.hid hsz
  have zn := hsz.nm
  have zo := hsz.outs
  have b0 : Below w.heap.size w (w.alloc (.cells (cliV c a1 c1 a2 c2 a3 c3) 46)) := (Below.refl _ _).alloc (Nat.le_refl _) _
  have K0 := Lib.hid (CellsM.new w (cliV c a1 c1 a2 c2 a3 c3) 46)
  have I0 := Lib.hid (hat.outs.below b0 (Nat.le_refl _))
  have M0 := Lib.hid (hat.m.below b0 (Nat.le_refl _))
  have HM := Lib.hid (hm.below b0 (Nat.le_refl _))
  clear hat hsz hm
  obtain ⟨v1, hv1⟩ : ∃ v, domB c.nm = v := ⟨_, rfl⟩
  obtain ⟨v2, hv2⟩ : ∃ v, mailB c.m = v := ⟨_, rfl⟩
  have V1 := Lib.hid hv1
  have V2 := Lib.hid hv2
  clear hv1 hv2
  go_enter Tryd.func28, Tryd.ntmps28
  go_wp2_with fail
  generalize w.alloc (.cells (cliV c a1 c1 a2 c2 a3 c3) 46) = W at K0 I0 M0 b0 HM ⊢
  refine (implDomainOk_max c.nm _ HM.out (by omega)).mono ?_
  rintro e w1 ⟨rfl, hb1⟩
  rw [V1.out]
  have K1 := K0.out.later hb1
  have B1 := b0.trans (hb1.mono b0.size)
  have I1 := Lib.hid (I0.out.below hb1 (Nat.le_refl _))
  have M1 := Lib.hid (M0.out.later hb1)
  have HM1 := Lib.hid (HM.out.below hb1 (Nat.le_refl _))
  clear hb1
  have q1 := K1.c 1 _ rfl
  have q2 := K1.c 2 _ rfl
  have q3 := K1.c 3 _ rfl
  have q4 := K1.c 4 _ rfl
  cases v1
  · have hm : Hid (cliB c = false) := Lib.hid (by unfold cliB; rw [V1.out]; simp)
    go_wp2
    go_ret
    exact ⟨ret_b hm.out.symm, B1⟩
  · go_wp2_with fail
    refine (implMailOk_any c.m a1 c1 a2 c2 _ HM1.out M1.out HS.out.m hcap).mono ?_
    rintro e w2 ⟨rfl, hb2⟩
    rw [V2.out]
    have K2 := K1.later hb2
    have B2 := B1.trans (hb2.mono B1.size)
    have I2 := Lib.hid (I1.out.below hb2 (Nat.le_refl _))
    clear hb2 q1 q2 q3 q4 K1 B1
    have q3 := K2.c 3 _ rfl
    have q5 := K2.c 5 _ rfl
    have q6 := K2.c 6 _ rfl
    have q7 := K2.c 7 _ rfl
    clear K2
    cases v2
    · have hm : Hid (cliB c = false) := Lib.hid (by unfold cliB; rw [V2.out]; simp)
      go_wp2
      go_ret
      exact ⟨ret_b hm.out.symm, B2⟩

    · by_cases g0 : 0 ≤ c.st
      · by_cases g1 : c.st ≤ 7
        · by_cases g2 : 0 ≤ c.pos
          · by_cases g3 : c.pos ≤ (c.m.rc.length : Int)
            · obtain ⟨v5, hv5⟩ : ∃ v, (c.st != 3) = v := ⟨_, rfl⟩
              obtain ⟨v6, hv6⟩ : ∃ v, decide (0 < c.pos) = v := ⟨_, rfl⟩
              have HJ : Hid (cliB c = (outcB c.outs && (decide (c.outs.length = c.m.rc.length) && (v5 || v6)))) := Lib.hid (by unfold cliB; rw [V1.out, V2.out, inB_true ⟨g0, g1⟩, inB_true ⟨g2, g3⟩, hv5, hv6]; simp)
              by_cases hln : c.outs.length = c.m.rc.length
              · have e1 : ((c.outs.length : Int) == (c.m.rc.length : Int)) = true := by rw [beq_iff_eq]; omega
                rw [decide_eq_true hln] at HJ
                have CA := Lib.hid (areOuts_any a3 c3 c.outs _ I2.out zo)
                obtain ⟨vo, hvo⟩ : ∃ v, outcB c.outs = v := ⟨_, rfl⟩
                rw [hvo] at CA HJ
                clear hln hvo
                cases v5
                all_goals
                  cases v6
                  all_goals
                    first
                    | go_wp2_with fail
                      refine CA.out.mono ?_
                      rintro e w' ⟨rfl, rfl⟩
                      go_wp2
                      go_ret
                      exact ⟨ret_b (by rw [HJ.out]; simp), B2⟩
                    | go_wp2
                      go_ret
                      exact ⟨ret_b (by rw [HJ.out]; simp), B2⟩
              · have e1 : ((c.outs.length : Int) == (c.m.rc.length : Int)) = false := by rw [beq_eq_false_iff_ne]; omega
                have hm : Hid (cliB c = false) := Lib.hid (by rw [HJ.out, decide_eq_false hln]; simp)
                clear HJ
                cases v5
                all_goals
                  cases v6
                  all_goals
                    go_wp2
                    go_ret
                    exact ⟨ret_b hm.out.symm, B2⟩
            · have hm : Hid (cliB c = false) := Lib.hid (by unfold cliB; rw [inB_false (show ¬ (0 ≤ c.pos ∧ c.pos ≤ (c.m.rc.length : Int)) by omega)]; simp)
              go_wp2
              go_ret
              exact ⟨ret_b hm.out.symm, B2⟩
          · have hm : Hid (cliB c = false) := Lib.hid (by unfold cliB; rw [inB_false (show ¬ (0 ≤ c.pos ∧ c.pos ≤ (c.m.rc.length : Int)) by omega)]; simp)
            go_wp2
            go_ret
            exact ⟨ret_b hm.out.symm, B2⟩
        · have hm : Hid (cliB c = false) := Lib.hid (by unfold cliB; rw [inB_false (show ¬ (0 ≤ c.st ∧ c.st ≤ 7) by omega)]; simp)
          go_wp2
          go_ret
          exact ⟨ret_b hm.out.symm, B2⟩
      · have hm : Hid (cliB c = false) := Lib.hid (by unfold cliB; rw [inB_false (show ¬ (0 ≤ c.st ∧ c.st ≤ 7) by omega)]; simp)
        go_wp2
        go_ret
        exact ⟨ret_b hm.out.symm, B2⟩
end Go.Proofs.YtgjkoegpdfcadaaDoor
