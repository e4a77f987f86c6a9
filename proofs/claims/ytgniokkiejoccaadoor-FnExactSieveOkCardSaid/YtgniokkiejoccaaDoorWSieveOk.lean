/- The walk of FnExactSieveOk. -/
import Derived.Test.YtgniokkiejoccaaDoorRuleFind
import Derived.Test.YtgniokkiejoccaaDoorRuleOkS
import Derived.Test.YtgniokkiejoccaaDoorRuleTo
import Derived.Test.YtgniokkiejoccaaDoorRuleEq
namespace Go.Proofs.YtgniokkiejoccaaDoor
open Go Go.RowKit

set_option maxHeartbeats 3200000 in
set_option maxRecDepth 100000 in
theorem wFnExactSieveOk.walk (xs : List RuleD) (ao : Option Addr) (cap : Nat) (w : World) (hat : RuleRow w ao xs) (hf : xs.length ≤ maxLen ∧ ∀ x ∈ xs, RuleF x) (hm : HasMax w) :
    Calls Tryd.prog 6 #[.slice ao xs.length cap] w fun e w' => e = .returned (.bool true) ∧ Below w.heap.size w w' := by
  have HM : Seal _ := ⟨hm⟩
  have HA : Seal _ := ⟨hat⟩
  have HF : Seal _ := ⟨hf⟩
  clear hm hat hf
  obtain ⟨l, hl⟩ : ∃ l, leftN (rowN ruleN xs) 1048576 = l := ⟨_, rfl⟩
  have HL : Seal _ := ⟨hl⟩
  have hsz : ¬ l < 0 → rowN ruleN xs ≤ 1048576 := fun h => by rw [← hl] at h; have := leftN_small h; omega
  obtain ⟨v, hv⟩ : ∃ v, rulesB xs = v := ⟨_, rfl⟩
  have HV : Seal _ := ⟨hv⟩
  clear hl hv
  go_enter Tryd.func6, Tryd.ntmps6
  go_wp2_with fail
  refine (szRuleS_any ao cap xs 1048576 _ HA.out HF.out.1 (by omega) (by omega) HF.out.2).mono ?_
  rintro e w1 ⟨rfl, hb1⟩
  rw [HL.out]
  have B1 : Seal _ := ⟨hb1⟩
  clear hb1
  by_cases hneg : l < 0
  · clear hsz
    go_wp2
    go_ret
    exact ⟨rfl, B1.out⟩
  obtain ⟨z1, z2⟩ := rulesN_parts (hsz (by omega))
  have HZ : Seal _ := ⟨z2⟩
  clear hsz z2
  -- what the model answers
  go_wp2_with fail
  refine (toRuleS_any ao cap xs _ (HA.out.below ruleP_stays B1.out (Nat.le_refl _)) z1).mono ?_
  rintro e w2 ⟨b1, d1, rfl, k1⟩
  have I2 : Seal _ := ⟨rules_read k1.head⟩
  have B2 : Seal _ := ⟨B1.out.trans (k1.below.mono B1.out.size)⟩
  clear k1 B1
  go_wp2_with fail
  refine (specSieveOk_any b1 d1 xs _ I2.out z1 HZ.out).mono ?_
  rintro e w3 ⟨rfl, hb3⟩
  rw [HV.out]
  have B3 : Seal _ := ⟨B2.out.trans (hb3.mono B2.out.size)⟩
  clear hb3 B2 I2
  -- what the program answers
  go_wp2_with fail
  refine (toRuleS_any ao cap xs _ (HA.out.below ruleP_stays B3.out (Nat.le_refl _)) z1).mono ?_
  rintro e w4 ⟨b2, d2, rfl, k2⟩
  have I4 : Seal _ := ⟨rules_read k2.head⟩
  have B4 : Seal _ := ⟨B3.out.trans (k2.below.mono B3.out.size)⟩
  clear k2 B3
  go_wp2_with fail
  refine (implSieveOk_any b2 d2 xs _ (HM.out.below B4.out (Nat.le_refl _)) I4.out z1 HZ.out).mono ?_
  rintro e w5 ⟨rfl, hb5⟩
  rw [HV.out]
  have I5 : Seal _ := ⟨I4.out.later ruleP_stays hb5⟩
  have B5 : Seal _ := ⟨B4.out.trans (hb5.mono B4.out.size)⟩
  clear hb5 B4 I4
  cases v
  all_goals
    go_wp2_with fail
    refine (toRuleS_any ao cap xs _ (HA.out.below ruleP_stays B5.out (Nat.le_refl _)) z1).mono ?_
    rintro e w6 ⟨b3, d3, rfl, k3⟩
    have I6 : Seal _ := ⟨rules_read k3.head⟩
    have I6' : Seal _ := ⟨I5.out.later ruleP_stays k3.below⟩
    have B6 : Seal _ := ⟨B5.out.trans (k3.below.mono B5.out.size)⟩
    clear k3
    go_wp2_with fail
    refine (eqRuleS_same _ _ _ _ xs _ I6'.out I6.out z1).mono ?_
    rintro e w7 ⟨rfl, hb7⟩
    have B7 : Seal _ := ⟨B6.out.trans (hb7.mono B6.out.size)⟩
    clear hb7
    go_wp2
    go_ret
    exact ⟨rfl, B7.out⟩
end Go.Proofs.YtgniokkiejoccaaDoor
