/- The walk of FnExactSieveFor. -/
import Derived.Test.YtgniokkiejoccaaDoorSieveI
import Derived.Test.YtgniokkiejoccaaDoorSieveS
import Derived.Test.YtgniokkiejoccaaDoorRuleTo
import Derived.Test.YtgniokkiejoccaaDoorRuleEq
namespace Go.Proofs.YtgniokkiejoccaaDoor
open Go Go.RowKit

abbrev mailC (m : MailD) (a1 : Option Addr) (c1 : Nat) (a2 : Option Addr) (c2 : Nat) : List Value := [.string m.fu, .string m.fd, .slice a1 m.rc.length c1, .slice a2 m.body.length c2]
set_option maxHeartbeats 6400000 in
set_option maxRecDepth 100000 in
theorem wFnExactSieveFor.walk (xs : List RuleD) (ao : Option Addr) (cap : Nat) (m : MailD) (a1 : Option Addr) (c1 : Nat) (a2 : Option Addr) (c2 : Nat) (w : World) (hat : RuleRow w ao xs) (hf : xs.length ≤ maxLen ∧ ∀ x ∈ xs, RuleF x) (hma : MailAt w m a1 a2) (hms : MailSz maxLen m) (hm : HasMax w) :
    Calls Tryd.prog 7 #[.slice ao xs.length cap, .agg (mailV m a1 c1 a2 c2)] w fun e w' => e = .returned (.bool true) ∧ Below w.heap.size w w' := by
  have HM : Seal _ := ⟨hm⟩
  have HA : Seal _ := ⟨hat⟩
  have HF : Seal _ := ⟨hf⟩
  have MA : Seal _ := ⟨hma⟩
  have MS : Seal _ := ⟨hms⟩
  have S0 : Seal (St w _ [Res.cells w.heap.size (mailC m a1 c1 a2 c2)]) := ⟨(St.start w).alloc (mailV m a1 c1 a2 c2) 54⟩
  clear hm hat hf hma hms
  obtain ⟨l, hl⟩ : ∃ l, leftN (rowN ruleN xs) 1048576 = l := ⟨_, rfl⟩
  have HL : Seal _ := ⟨hl⟩
  have hsz : ¬ l < 0 → rowN ruleN xs ≤ 1048576 := fun h => by rw [← hl] at h; have := leftN_small h; omega
  have hle := leftN_le (rowN ruleN xs) (left := 1048576) (by omega)
  rw [hl] at hle
  obtain ⟨l2, hl2⟩ : ∃ l2, leftM m l = l2 := ⟨_, rfl⟩
  have HL2 : Seal _ := ⟨hl2⟩
  have hmz : ¬ l < 0 → ¬ l2 < 0 → MailSz 1048576 m := fun h h2 => by rw [← hl2] at h2; exact leftM_small h2 (by omega) hle
  obtain ⟨v, hv⟩ : ∃ v, whichB xs m = v := ⟨_, rfl⟩
  have HV : Seal _ := ⟨hv⟩
  clear hl hl2 hv
  go_enter Tryd.func7, Tryd.ntmps7
  go_wp2_with fail
  refine (szRuleS_any ao cap xs 1048576 _ (HA.out.below ruleP_stays S0.out.below (Nat.le_refl _)) HF.out.1 (by omega) (by omega) HF.out.2).mono ?_
  rintro e w1 ⟨rfl, hb1⟩
  rw [HL.out]
  have S1 : Seal _ := ⟨S0.out.later hb1⟩
  clear hb1 S0
  by_cases hneg : l < 0
  · clear hsz hmz
    go_wp2
    go_ret
    exact ⟨rfl, S1.out.below⟩
  obtain ⟨z1, z2⟩ := rulesN_parts (hsz (by omega))
  have HZ : Seal _ := ⟨z2⟩
  have HMZ0 : Seal _ := ⟨hmz (by omega)⟩
  clear hsz z2 hmz
  have g0 := S1.out.head.c 0 _ rfl
  have g1 := S1.out.head.c 1 _ rfl
  have g2 := S1.out.head.c 2 _ rfl
  have g3 := S1.out.head.c 3 _ rfl
  go_wp2_with fail
  refine (szMail_any m a1 c1 a2 c2 l _ (MA.out.below S1.out.below (Nat.le_refl _)) MS.out (by omega) (by omega)).mono ?_
  rintro e w2 ⟨rfl, hb2⟩
  rw [HL2.out]
  have S2 : Seal _ := ⟨S1.out.later hb2⟩
  clear hb2 S1 g0 g1 g2 g3
  by_cases hneg2 : l2 < 0
  · go_wp2
    go_ret
    exact ⟨rfl, S2.out.below⟩
  have HMZ : Seal _ := ⟨HMZ0.out (by omega)⟩
  have z3 := HMZ.out.rcl
  have z4 := HMZ.out.bol
  clear HMZ0
  have S2d : Seal _ := ⟨S2.out.drew⟩
  have g0 := S2.out.head.c 0 _ rfl
  have g1 := S2.out.head.c 1 _ rfl
  have g2 := S2.out.head.c 2 _ rfl
  have g3 := S2.out.head.c 3 _ rfl
  have lt0 := S2.out.head.lt
  -- what the model answers
  go_wp2_with fail
  go_region_with (first
    | (go_at_call 26; refine (toRuleS_any ao cap xs _ (HA.out.below ruleP_stays S2d.out.below (Nat.le_refl _)) z1).mono ?_; rintro e w3 ⟨b1, d1, rfl, k3⟩; have I3 : Seal _ := ⟨rules_read k3.head⟩; have S3 : Seal _ := ⟨S2d.out.later k3.below⟩; have y0 := S3.out.head.c 0 _ rfl; have y1 := S3.out.head.c 1 _ rfl; have y2 := S3.out.head.c 2 _ rfl; have y3 := S3.out.head.c 3 _ rfl; clear k3)
    | (go_at_call 29; refine (toMail_any m a1 c1 a2 c2 _ (MA.out.below S3.out.below (Nat.le_refl _)) HMZ.out).mono ?_; rintro e w4 ⟨e1, f1, e2, f2, rfl, o4, hb4⟩; have O4 : Seal _ := ⟨o4.at⟩; have I4 : Seal _ := ⟨I3.out.later ruleP_stays hb4⟩; have S4 : Seal _ := ⟨S3.out.later hb4⟩; clear o4 hb4)
    | (go_at_call 11; refine (specSieveFor_any b1 d1 xs m e1 f1 e2 f2 _ I4.out z1 HZ.out O4.out HMZ.out).mono ?_; rintro e w5 ⟨rfl, hb5⟩; rw [HV.out]; have S5 : Seal _ := ⟨S4.out.later hb5⟩; clear hb5 I4 O4))
  all_goals
    clear S2 S2d g0 g1 g2 g3
    -- what the program answers
    go_wp2_with fail
    refine (toRuleS_any ao cap xs _ (HA.out.below ruleP_stays S5.out.below (Nat.le_refl _)) z1).mono ?_
    rintro e w6 ⟨b2, d2, rfl, k6⟩
    have I6 : Seal _ := ⟨rules_read k6.head⟩
    have S6 : Seal _ := ⟨S5.out.later k6.below⟩
    have u0 := S6.out.head.c 0 _ rfl
    have u1 := S6.out.head.c 1 _ rfl
    have u2 := S6.out.head.c 2 _ rfl
    have u3 := S6.out.head.c 3 _ rfl
    clear k6
    go_wp2_with fail
    refine (toMail_any m a1 c1 a2 c2 _ (MA.out.below S6.out.below (Nat.le_refl _)) HMZ.out).mono ?_
    rintro e w7 ⟨e3, f3, e4, f4, rfl, o7, hb7⟩
    have ba := (Below.refl w7.heap.size w7).alloc (Nat.le_refl _) (.cells (mailV m e3 f3 e4 f4) 29)
    have O8 : Seal _ := ⟨o7.at.later ba⟩
    have I8 : Seal _ := ⟨(I6.out.later ruleP_stays hb7).later ruleP_stays ba⟩
    have K8 := o7.rc.cap
    have S8 : Seal (St w _ (Res.cells w7.heap.size (mailC m e3 f3 e4 f4) :: [Res.cells w.heap.size (mailC m a1 c1 a2 c2)])) := ⟨(S6.out.later hb7).alloc (mailV m e3 f3 e4 f4) 29⟩
    clear o7 hb7 ba u0 u1 u2 u3
    go_wp2_with fail
    refine (implSieveFor_any b2 d2 xs m e3 f3 e4 f4 _ (HM.out.below S8.out.below (Nat.le_refl _)) I8.out z1 HZ.out O8.out HMZ.out K8).mono ?_
    rintro e w9 ⟨rfl, hb9⟩
    rw [HV.out]
    have O9 : Seal _ := ⟨O8.out.later hb9⟩
    have I9 : Seal _ := ⟨I8.out.later ruleP_stays hb9⟩
    have S9 : Seal _ := ⟨S8.out.later hb9⟩
    have q1 : (v != v) = false := by simp
    clear hb9 O8 I8 S8
    go_wp2_with fail
    refine (toRuleS_any ao cap xs _ (HA.out.below ruleP_stays S9.out.below (Nat.le_refl _)) z1).mono ?_
    rintro e w10 ⟨b3, d3, rfl, k10⟩
    have I10 : Seal _ := ⟨rules_read k10.head⟩
    have I10' : Seal _ := ⟨I9.out.later ruleP_stays k10.below⟩
    have O10 : Seal _ := ⟨O9.out.later k10.below⟩
    have S10 : Seal _ := ⟨S9.out.later k10.below⟩
    clear k10
    go_wp2_with fail
    refine (eqRuleS_same _ _ _ _ xs _ I10'.out I10.out z1).mono ?_
    rintro e w11 ⟨rfl, hb11⟩
    have O11 : Seal _ := ⟨(O10.out.later hb11).later (Below.refl w11.heap.size w11).drew⟩
    have S11 : Seal _ := ⟨S10.out.later hb11⟩
    have S11d : Seal _ := ⟨S11.out.drew⟩
    have x0 := S11.out.head.c 0 _ rfl
    have x1 := S11.out.head.c 1 _ rfl
    have x2 := S11.out.head.c 2 _ rfl
    have x3 := S11.out.head.c 3 _ rfl
    have lt1 := S11.out.head.lt
    have t0 := S11.out.two.head.c 0 _ rfl
    have t1 := S11.out.two.head.c 1 _ rfl
    have t2 := S11.out.two.head.c 2 _ rfl
    have t3 := S11.out.two.head.c 3 _ rfl
    have lt2 := S11.out.two.head.lt
    clear hb11 S10 O10 O9 I9 I10 I10' S9
    go_wp2_with fail
    go_region_with (first | (go_at_call 29; refine (toMail_any m a1 c1 a2 c2 _ (MA.out.below S11d.out.below (Nat.le_refl _)) HMZ.out).mono ?_; rintro e w12 ⟨e5, f5, e6, f6, rfl, o12, hb12⟩; have S12 : Seal _ := ⟨S11d.out.later hb12⟩; have r0 := S12.out.head.c 0 _ rfl; have r1 := S12.out.head.c 1 _ rfl; have r2 := S12.out.head.c 2 _ rfl; have r3 := S12.out.head.c 3 _ rfl; have O12 : Seal _ := ⟨o12.at⟩; have O12' : Seal _ := ⟨O11.out.later hb12⟩; clear o12 hb12) | (go_at_call 30; refine (eqMail_same m e3 f3 e4 f4 _ _ _ _ _ O12'.out O12.out z3 z4).mono ?_; rintro e w13 ⟨rfl, hb13⟩; have S13 : Seal _ := ⟨S12.out.later hb13⟩; clear hb13))
    all_goals
      go_wp2
      go_ret
      exact ⟨rfl, S13.out.below⟩
end Go.Proofs.YtgniokkiejoccaaDoor
