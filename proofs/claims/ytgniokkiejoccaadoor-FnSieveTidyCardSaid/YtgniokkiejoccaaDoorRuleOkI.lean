/- Contracts: what the program asks of a rule. -/
import Derived.Test.YtgniokkiejoccaaDoorRuleD
import Derived.Deep.RegionWith
namespace Go.Proofs.YtgniokkiejoccaaDoor
open Go Go.RowKit

/-- The function that a question is, as it lies in memory. -/
def CondAt (w : World) (x : RuleD) (f : Value) : Prop :=
  (x.ask = 1 ∧ ∃ b, f = .func (.func 104) #[] #[.pointer (some ⟨b, 0, none⟩)] ∧ w.cell? ⟨b, 0, none⟩ = some (.string x.txt)) ∨
  (x.ask = 2 ∧ ∃ b, f = .func (.func 107) #[] #[.pointer (some ⟨b, 0, none⟩)] ∧ w.cell? ⟨b, 0, none⟩ = some (.string x.txt)) ∨
  (x.ask = 3 ∧ f = .func (.func 93) #[] #[]) ∨
  (x.ask = 4 ∧ f = .func (.func 94) #[] #[]) ∨
  (¬ (1 ≤ x.ask ∧ x.ask ≤ 4) ∧ f = .nilFunc)

theorem size_ad (w : World) (o : Obj) : (w.alloc o).drew.heap.size = w.heap.size + 1 := by simp
theorem isFromWithin_any (t : ByteArray) (w : World) :
    Calls Tryd.prog 90 #[.string t] w fun e w' => e = .returned (.func (.func 104) #[] #[.pointer (some ⟨w.heap.size, 0, none⟩)]) ∧ St w w' [Res.cells w.heap.size [.string t]] := by
  have S0 : Seal _ := ⟨(St.start w).alloc #[.string t] 9⟩
  go_enter Tryd.func90, Tryd.ntmps90
  go_wp2
  go_ret
  exact ⟨rfl, S0.out⟩
theorem hasInLine_any (t : ByteArray) (w : World) :
    Calls Tryd.prog 92 #[.string t] w fun e w' => e = .returned (.func (.func 107) #[] #[.pointer (some ⟨w.heap.size, 0, none⟩)]) ∧ St w w' [Res.cells w.heap.size [.string t]] := by
  have S0 : Seal _ := ⟨(St.start w).alloc #[.string t] 9⟩
  go_enter Tryd.func92, Tryd.ntmps92
  go_wp2
  go_ret
  exact ⟨rfl, S0.out⟩

/-- What the compiling of a question answers. -/
def CondPost (x : RuleD) (w : World) (e : Ending) (w' : World) : Prop :=
  ∃ f, e = .returned (.tuple #[f, .bool (askB x)]) ∧ CondAt w' x f ∧ Below w.heap.size w w'
theorem ret_fb {f : Value} {a b : Bool} (h : a = b) : Ending.returned (.tuple #[f, .bool a]) = .returned (.tuple #[f, .bool b]) := by rw [h]

set_option maxHeartbeats 1600000 in
set_option maxRecDepth 100000 in
theorem condition_any (x : RuleD) (w : World) (hm : HasMax w) (hz : ruleN x ≤ 1048576) :
    Calls Tryd.prog 72 #[.agg (ruleV x)] w (CondPost x w) := by
  obtain ⟨z1, z2, z3⟩ := ruleN_parts hz
  have HM : Seal _ := ⟨hm⟩
  have S0 : Seal _ := ⟨(St.start w).alloc (ruleV x) 41⟩
  have SD : Seal _ := ⟨S0.out.drew⟩
  have CW : Seal _ := ⟨isFromWithin_any x.txt⟩
  have CH : Seal _ := ⟨hasInLine_any x.txt⟩
  have CL : Seal _ := ⟨fun W => isLine_any x.txt W (by unfold maxLen; omega)⟩
  have CD : Seal (∀ W, HasMax W → Calls Tryd.prog 91 #[.string x.txt] W fun e w' => e = .returned (.bool (domB x.txt)) ∧ Below W.heap.size W w') := ⟨fun W h => implDomainOk_max x.txt W h (by omega)⟩
  clear hm hz
  by_cases k1 : x.ask = 1
  · have HQ : Seal (askB x = domB x.txt) := ⟨by unfold askB; rw [if_pos k1]⟩
    have e1 : (x.ask == 1) = true := by rw [beq_iff_eq]; exact k1
    have K1 : Seal _ := ⟨k1⟩
    clear k1
    go_enter Tryd.func72, Tryd.ntmps72
    go_wp2_with fail
    go_region_with (first | (go_at_call 90; refine (CW.out _).mono ?_; rintro e w1 ⟨rfl, k1⟩; have S1 : Seal _ := ⟨SD.out.join k1⟩; have y1 := S1.out.two.head.c 1 _ rfl; clear k1) | (go_at_call 91; refine (CD.out _ (HM.out.below S1.out.below (Nat.le_refl _))).mono ?_; rintro e w2 ⟨rfl, hb2⟩; have S2 : Seal _ := ⟨S1.out.later hb2⟩; clear hb2))
    all_goals
      go_wp2
      go_ret2
      exact ⟨_, ret_fb HQ.out.symm, .inl ⟨K1.out, _, rfl, by have q := S2.out.head.c 0 (.string x.txt) rfl; rw [size_ad] at q; exact q⟩, S2.out.below⟩
  have e1 : (x.ask == 1) = false := by rw [beq_eq_false_iff_ne]; exact k1
  by_cases k2 : x.ask = 2
  · have HQ : Seal (askB x = lineB x.txt) := ⟨by unfold askB; rw [if_neg k1, if_pos k2]⟩
    have e2 : (x.ask == 2) = true := by rw [beq_iff_eq]; exact k2
    have K2 : Seal _ := ⟨k2⟩
    clear k1 k2
    go_enter Tryd.func72, Tryd.ntmps72
    go_wp2_with fail
    go_region_with (first | (go_at_call 92; refine (CH.out _).mono ?_; rintro e w1 ⟨rfl, k1⟩; have S1 : Seal _ := ⟨SD.out.join k1⟩; have y1 := S1.out.two.head.c 1 _ rfl; clear k1) | (go_at_call 85; refine (CL.out _).mono ?_; rintro e w2 ⟨rfl, rfl⟩))
    all_goals
      go_wp2
      go_ret2
      exact ⟨_, ret_fb HQ.out.symm, .inr (.inl ⟨K2.out, _, rfl, by have q := S1.out.head.c 0 (.string x.txt) rfl; rw [size_ad] at q; exact q⟩), S1.out.below⟩
  have e2 : (x.ask == 2) = false := by rw [beq_eq_false_iff_ne]; exact k2
  by_cases k3 : x.ask = 3
  · have HQ : Seal (askB x = x.txt.toList.isEmpty) := ⟨by unfold askB; rw [if_neg k1, if_neg k2, decide_eq_true (.inl k3)]; rfl⟩
    have e3 : (x.ask == 3) = true := by rw [beq_iff_eq]; exact k3
    have K3 : Seal _ := ⟨k3⟩
    clear k1 k2 k3
    go_enter Tryd.func72, Tryd.ntmps72
    go_wp2_with fail
    go_region
    go_wp2
    go_ret2
    exact ⟨_, ret_fb HQ.out.symm, .inr (.inr (.inl ⟨K3.out, rfl⟩)), SD.out.below⟩
  have e3 : (x.ask == 3) = false := by rw [beq_eq_false_iff_ne]; exact k3
  by_cases k4 : x.ask = 4
  · have HQ : Seal (askB x = x.txt.toList.isEmpty) := ⟨by unfold askB; rw [if_neg k1, if_neg k2, decide_eq_true (.inr k4)]; rfl⟩
    have e4 : (x.ask == 4) = true := by rw [beq_iff_eq]; exact k4
    have K4 : Seal _ := ⟨k4⟩
    clear k1 k2 k3 k4
    go_enter Tryd.func72, Tryd.ntmps72
    go_wp2_with fail
    go_region
    go_wp2
    go_ret2
    exact ⟨_, ret_fb HQ.out.symm, .inr (.inr (.inr (.inl ⟨K4.out, rfl⟩))), SD.out.below⟩
  have e4 : (x.ask == 4) = false := by rw [beq_eq_false_iff_ne]; exact k4
  have HQ : Seal (askB x = false) := ⟨by unfold askB; rw [if_neg k1, if_neg k2, decide_eq_false (by omega)]; rfl⟩
  have KN : Seal (¬ (1 ≤ x.ask ∧ x.ask ≤ 4)) := ⟨by omega⟩
  clear k1 k2 k3 k4
  go_enter Tryd.func72, Tryd.ntmps72
  go_wp2
  go_ret2
  exact ⟨_, ret_fb HQ.out.symm, .inr (.inr (.inr (.inr ⟨KN.out, rfl⟩))), S0.out.below⟩

set_option maxHeartbeats 800000 in
set_option maxRecDepth 100000 in
theorem actionOk_any (x : RuleD) (w : World) (hm : HasMax w) (hz : ruleN x ≤ 1048576) :
    Calls Tryd.prog 81 #[.agg (ruleV x)] w fun e w' => e = .returned (.bool (actB x)) ∧ Below w.heap.size w w' := by
  obtain ⟨z1, z2, z3⟩ := ruleN_parts hz
  have S0 : Seal _ := ⟨(St.start w).alloc (ruleV x) 41⟩
  have HM : Seal _ := ⟨hm.below S0.out.below (Nat.le_refl _)⟩
  obtain ⟨vn, hvn⟩ : ∃ v, nullB x.u x.d = v := ⟨_, rfl⟩
  have HN : Seal _ := ⟨hvn⟩
  clear hm hz hvn
  by_cases k12 : x.act = 1 ∨ x.act = 2
  · have hq : Seal (actB x = vn) := ⟨by unfold actB; rw [if_pos k12, HN.out]⟩
    rcases k12 with k | k
    · have e1 : (x.act == 1) = true := by rw [beq_iff_eq]; exact k
      clear k
      go_enter Tryd.func81, Tryd.ntmps81
      go_wp2_with fail
      refine (isNull_is x.u x.d vn HN.out _).mono ?_
      rintro e w1 ⟨rfl, hb1⟩
      have S1 : Seal _ := ⟨S0.out.later hb1⟩
      clear hb1
      go_wp2
      go_ret
      exact ⟨ret_b hq.out.symm, S1.out.below⟩
    · have e1 : (x.act == 1) = false := by rw [beq_eq_false_iff_ne]; omega
      have e2 : (x.act == 2) = true := by rw [beq_iff_eq]; exact k
      clear k
      go_enter Tryd.func81, Tryd.ntmps81
      go_wp2_with fail
      refine (isNull_is x.u x.d vn HN.out _).mono ?_
      rintro e w1 ⟨rfl, hb1⟩
      have S1 : Seal _ := ⟨S0.out.later hb1⟩
      clear hb1
      go_wp2
      go_ret
      exact ⟨ret_b hq.out.symm, S1.out.below⟩
  · have e1 : (x.act == 1) = false := by rw [beq_eq_false_iff_ne]; omega
    have e2 : (x.act == 2) = false := by rw [beq_eq_false_iff_ne]; omega
    by_cases k3 : x.act = 3
    · have hq : Seal (actB x = addrB x.u x.d) := ⟨by unfold actB; rw [if_neg k12, decide_eq_true k3]; rfl⟩
      have e3 : (x.act == 3) = true := by rw [beq_iff_eq]; exact k3
      clear k12 k3
      go_enter Tryd.func81, Tryd.ntmps81
      go_wp2_with fail
      refine (implAddrOk_any x.u x.d _ HM.out (by omega) (by omega)).mono ?_
      rintro e w1 ⟨rfl, hb1⟩
      have S1 : Seal _ := ⟨S0.out.later hb1⟩
      clear hb1
      go_wp2
      go_ret
      exact ⟨ret_b hq.out.symm, S1.out.below⟩
    · have hq : Seal (actB x = false) := ⟨by unfold actB; rw [if_neg k12, decide_eq_false k3]; rfl⟩
      have e3 : (x.act == 3) = false := by rw [beq_eq_false_iff_ne]; exact k3
      clear k12 k3
      go_enter Tryd.func81, Tryd.ntmps81
      go_wp2
      go_ret
      exact ⟨ret_b hq.out.symm, S0.out.below⟩

set_option maxHeartbeats 800000 in
set_option maxRecDepth 100000 in
theorem ruleValid_any (x : RuleD) (w : World) (hm : HasMax w) (hz : ruleN x ≤ 1048576) :
    Calls Tryd.prog 43 #[.agg (ruleV x)] w fun e w' => e = .returned (.bool (ruleB x)) ∧ Below w.heap.size w w' := by
  have S0 : Seal _ := ⟨(St.start w).alloc (ruleV x) 41⟩
  have HM : Seal _ := ⟨hm⟩
  have HZ : Seal _ := ⟨hz⟩
  obtain ⟨va, hva⟩ : ∃ v, askB x = v := ⟨_, rfl⟩
  have HV : Seal _ := ⟨hva⟩
  have HQ : Seal (ruleB x = (va && actB x)) := ⟨by unfold ruleB; rw [hva]⟩
  clear hm hz hva
  go_enter Tryd.func43, Tryd.ntmps43
  go_wp2_with fail
  refine (condition_any x _ (HM.out.below S0.out.below (Nat.le_refl _)) HZ.out).mono ?_
  rintro e w1 ⟨f, rfl, _, hb1⟩
  rw [HV.out]
  have S1 : Seal _ := ⟨S0.out.later hb1⟩
  have K1 := S1.out.head
  have y0 := K1.c 0 _ rfl
  have y1 := K1.c 1 _ rfl
  have y2 := K1.c 2 _ rfl
  have y3 := K1.c 3 _ rfl
  have y4 := K1.c 4 _ rfl
  clear hb1 S0 K1
  cases va
  · have hq : Seal (ruleB x = false) := ⟨HQ.out⟩
    go_wp2
    go_ret
    exact ⟨ret_b hq.out.symm, S1.out.below⟩
  · have hq : Seal (ruleB x = actB x) := ⟨by rw [HQ.out]; rfl⟩
    go_wp2_with fail
    refine (actionOk_any x _ (HM.out.below S1.out.below (Nat.le_refl _)) HZ.out).mono ?_
    rintro e w2 ⟨rfl, hb2⟩
    have S2 : Seal _ := ⟨S1.out.later hb2⟩
    clear hb2
    go_wp2
    go_ret
    exact ⟨ret_b hq.out.symm, S2.out.below⟩
end Go.Proofs.YtgniokkiejoccaaDoor
