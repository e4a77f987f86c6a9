/- The walk of FnExactSieveTidy. -/
import Derived.Test.YtgniokkiejoccaaDoorSieveTidyS
import Derived.Test.YtgniokkiejoccaaDoorRuleMark
import Derived.Test.YtgniokkiejoccaaDoorRuleEq
namespace Go.Proofs.YtgniokkiejoccaaDoor
open Go Go.RowKit

theorem tidy_len (xs : List RuleD) : (tidyR xs).length ≤ xs.length := by
  unfold tidyR
  split
  · have h1 := trim_len (thinR xs)
    have h2 := thinTo_le xs xs.length
    unfold thinTo at h2
    rw [List.take_length] at h2
    unfold thinR at h1 ⊢
    omega
  · simp

set_option maxHeartbeats 6400000 in
set_option maxRecDepth 100000 in
theorem wFnExactSieveTidy.walk (xs : List RuleD) (ao : Option Addr) (cap : Nat) (w : World) (hat : RuleRow w ao xs) (hf : xs.length ≤ maxLen ∧ ∀ x ∈ xs, RuleF x) (hm : HasMax w) :
    Calls Tryd.prog 8 #[.slice ao xs.length cap] w fun e w' => e = .returned (.bool true) ∧ Below w.heap.size w w' := by
  have HM : Seal _ := ⟨hm⟩
  have HA : Seal _ := ⟨hat⟩
  have HF : Seal _ := ⟨hf⟩
  clear hm hat hf
  obtain ⟨l, hl⟩ : ∃ l, leftN (rowN ruleN xs) 1048576 = l := ⟨_, rfl⟩
  have HL : Seal _ := ⟨hl⟩
  have hsz : ¬ l < 0 → rowN ruleN xs ≤ 1048576 := fun h => by rw [← hl] at h; have := leftN_small h; omega
  clear hl
  obtain ⟨T, hT⟩ : ∃ T, tidyR xs = T := ⟨_, rfl⟩
  have HT : Seal _ := ⟨hT⟩
  have hlen := tidy_len xs
  rw [hT] at hlen
  clear hT
  go_enter Tryd.func8, Tryd.ntmps8
  go_wp2_with fail
  refine (szRuleS_any ao cap xs 1048576 _ HA.out HF.out.1 (by omega) (by omega) HF.out.2).mono ?_
  rintro e w1 ⟨rfl, hb1⟩
  rw [HL.out]
  have S1 : Seal (St w w1 []) := ⟨(St.start w).later hb1⟩
  clear hb1
  by_cases hneg : l < 0
  · clear hsz
    go_wp2
    go_ret
    exact ⟨rfl, S1.out.below⟩
  obtain ⟨z1, z2⟩ := rulesN_parts (hsz (by omega))
  have HZ : Seal _ := ⟨z2⟩
  have zT : T.length ≤ 1048576 := by omega
  clear hsz z2
  obtain ⟨N0, hN0⟩ : ∃ N : Nat, 1 + xs.length * 5 = N := ⟨_, rfl⟩
  obtain ⟨N1, hN1⟩ : ∃ N : Nat, 1 + T.length * 5 = N := ⟨_, rfl⟩
  have HN0 : Seal _ := ⟨hN0⟩
  have HN1 : Seal _ := ⟨hN1⟩
  have n0 : ¬ (N0 : Int) < 0 := by omega
  have n1 : ¬ (N1 : Int) < 0 := by omega
  have p0 : 1 + xs.length * 5 ≤ 16777216 := by omega
  have p1 : 1 + T.length * 5 ≤ 16777216 := by omega
  have P0 : Seal _ := ⟨p0⟩
  have P1 : Seal _ := ⟨p1⟩
  have CS : Seal (∀ W a c, RuleRow W a xs → Calls Tryd.prog 24 #[.slice a xs.length c] W fun e w' => ∃ bo c, e = .returned (.slice bo T.length c) ∧ St W w' [rulesV (.slice bo T.length c) T]) := ⟨fun W a c h => by rw [← HT.out]; exact specSieveTidy_any a c xs W h z1 HZ.out⟩
  have CI : Seal (∀ W a c, HasMax W → RuleRow W a xs → Calls Tryd.prog 22 #[.slice a xs.length c] W fun e w' => ∃ bo c, e = .returned (.slice bo T.length c) ∧ St W w' [rulesV (.slice bo T.length c) T]) := ⟨fun W a c hm h => by rw [← HT.out]; exact implSieveTidy_any a c xs W hm h z1 HZ.out⟩
  clear hN0 hN1 p0 p1 hlen
  -- what the model answers
  go_wp2_with fail
  refine (toRuleS_any ao cap xs _ (HA.out.below ruleP_stays S1.out.below (Nat.le_refl _)) z1).mono ?_
  rintro e w2 ⟨a1, d1, rfl, k2⟩
  have S2 : Seal _ := ⟨S1.out.join k2⟩
  clear k2 S1
  go_wp2_with fail
  refine (CS.out _ a1 d1 (rules_read S2.out.head)).mono ?_
  rintro e w3 ⟨bw, cw, rfl, k3⟩
  have S3 : Seal (St w w3 [rulesV (.slice bw T.length cw) T]) := ⟨(S2.out.join k3).two.tail⟩
  clear k3 S2
  -- what the program answers
  go_wp2_with fail
  refine (toRuleS_any ao cap xs _ (HA.out.below ruleP_stays S3.out.below (Nat.le_refl _)) z1).mono ?_
  rintro e w4 ⟨bx, cx, rfl, k4⟩
  have S4 : Seal (St w w4 [rulesR bx cx xs, rulesV (.slice bw T.length cw) T]) := ⟨S3.out.join k4⟩
  clear k4 S3
  go_wp2_with fail
  refine (CI.out _ bx cx (HM.out.below S4.out.below (Nat.le_refl _)) (rules_read S4.out.head)).mono ?_
  rintro e w5 ⟨bg, cg, rfl, k5⟩
  have S5 : Seal (St w w5 [rulesV (.slice bg T.length cg) T, rulesR bx cx xs, rulesV (.slice bw T.length cw) T]) := ⟨S4.out.join k5⟩
  clear k5 S4
  go_wp2_with fail
  refine (eqRuleS_same bg bw cg cw T _ (rules_read S5.out.head) (rules_read S5.out.three.head) zT).mono ?_
  rintro e w6 ⟨rfl, hb6⟩
  have S6 : Seal _ := ⟨S5.out.later hb6⟩
  clear hb6 S5
  -- the argument is as it was
  go_wp2_with fail
  refine (toRuleS_any ao cap xs _ (HA.out.below ruleP_stays S6.out.below (Nat.le_refl _)) z1).mono ?_
  rintro e w7 ⟨b7, d7, rfl, k7⟩
  have S7 : Seal (St w w7 [rulesR b7 d7 xs, rulesV (.slice bg T.length cg) T, rulesR bx cx xs, rulesV (.slice bw T.length cw) T]) := ⟨S6.out.join k7⟩
  clear k7 S6
  go_wp2_with fail
  refine (eqRuleS_same bx b7 cx d7 xs _ (rules_read S7.out.three.head) (rules_read S7.out.head) z1).mono ?_
  rintro e w8 ⟨rfl, hb8⟩
  have S8 : Seal (St w w8 [rulesR bx cx xs, rulesV (.slice bg T.length cg) T, rulesV (.slice bw T.length cw) T]) := ⟨(S7.out.later hb8).tail.two⟩
  clear hb8 S7
  -- the argument is marked: the answer stays
  go_wp2_with fail
  refine (markRuleS_any _ 1 bx cx xs w _ S8.out P0.out).mono ?_
  rw [HN0.out]
  rintro e w9 ⟨rfl, t9⟩
  have S9 : Seal (St w w9 [rulesV (.slice bg T.length cg) T, rulesV (.slice bw T.length cw) T]) := ⟨t9.tail⟩
  clear t9 S8
  go_wp2_with fail
  refine (eqRuleS_same bg bw cg cw T _ (rules_read S9.out.head) (rules_read S9.out.two.head) zT).mono ?_
  rintro e w10 ⟨rfl, hb10⟩
  have S10 : Seal _ := ⟨S9.out.later hb10⟩
  clear hb10 S9
  -- the answer is marked, and holds its marks
  go_wp2_with fail
  refine (markRuleS_any _ 1 bg cg T w _ S10.out P1.out).mono ?_
  rw [HN1.out]
  rintro e w11 ⟨rfl, t11⟩
  have S11 : Seal _ := ⟨t11⟩
  have CH : Seal (∀ W, RuleRow W bg (ruMarks 1 T.length) → Calls Tryd.prog 32 #[.slice bg T.length cg, .int .i64 1] W fun e w' => e = .returned (.int .i64 (N1 : Int)) ∧ Below W.heap.size W w') := ⟨fun W h => HN1.out ▸ heldRuleS_any bg cg 1 T.length W h P1.out⟩
  clear t11 S10
  go_wp2_with fail
  refine (CH.out _ (rules_read S11.out.head)).mono ?_
  rintro e w12 ⟨rfl, hb12⟩
  have S12 : Seal _ := ⟨S11.out.later hb12⟩
  clear hb12 S11
  -- another call's answer shares nothing with it
  go_wp2_with fail
  refine (toRuleS_any ao cap xs _ (HA.out.below ruleP_stays S12.out.below (Nat.le_refl _)) z1).mono ?_
  rintro e w13 ⟨b13, d13, rfl, k13⟩
  have S13 : Seal _ := ⟨S12.out.join k13⟩
  clear k13 S12
  go_wp2_with fail
  refine (CI.out _ b13 d13 (HM.out.below S13.out.below (Nat.le_refl _)) (rules_read S13.out.head)).mono ?_
  rintro e w14 ⟨bh, ch, rfl, k14⟩
  have S14 : Seal _ := ⟨(S13.out.tail.join k14)⟩
  clear k14 S13
  go_wp2_with fail
  refine (eqRuleS_same bh bw ch cw T _ (rules_read S14.out.head) (rules_read S14.out.three.head) zT).mono ?_
  rintro e w15 ⟨rfl, hb15⟩
  have S15 : Seal _ := ⟨S14.out.later hb15⟩
  clear hb15 S14
  go_wp2_with fail
  refine (CH.out _ (rules_read S15.out.two.head)).mono ?_
  rintro e w16 ⟨rfl, hb16⟩
  have S16 : Seal _ := ⟨S15.out.later hb16⟩
  clear hb16 S15
  go_wp2
  go_ret
  exact ⟨rfl, S16.out.below⟩
end Go.Proofs.YtgniokkiejoccaaDoor
