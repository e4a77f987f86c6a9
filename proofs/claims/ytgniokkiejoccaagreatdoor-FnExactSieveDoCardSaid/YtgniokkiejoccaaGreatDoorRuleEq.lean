/- Contracts: the laws' comparisons of rules that read the same. -/
import Derived.Test.YtgniokkiejoccaaGreatDoorRuleD
import Derived.Deep.RegionHeld3
namespace Go.Proofs.YtgniokkiejoccaaGreatDoor
open Go Go.RowKit

set_option maxRecDepth 100000 in
theorem eqRule_same (x : RuleD) (w : World) :
    Calls Tryz.prog 34 #[.agg (ruleV x), .agg (ruleV x)] w fun e w' => e = .returned (.bool true) ∧ Below w.heap.size w w' := by
  have s0 := ((St.start w).alloc (ruleV x) 56).alloc (ruleV x) 56
  simp only [World.size_alloc] at s0
  have S0 : Seal _ := ⟨s0⟩
  have q1 : (x.ask != x.ask) = false := by simp
  have q2 : (x.act != x.act) = false := by simp
  have q3 : (x.txt.toList != x.txt.toList) = false := by simp
  clear s0
  go_enter Tryz.func34, Tryz.ntmps34
  go_wp2_with fail
  refine (eqAddr_same x.u x.d _).mono ?_
  rintro e w1 ⟨rfl, hb1⟩
  have S1 : Seal _ := ⟨S0.out.later hb1⟩
  clear hb1 S0
  go_wp2
  go_ret
  exact ⟨rfl, S1.out.below⟩

set_option maxHeartbeats 3200000 in
set_option maxRecDepth 100000 in
theorem eqRuleS_same (ao bo : Option Addr) (c1 c2 : Nat) (xs : List RuleD) (w : World) (ha : RuleRow w ao xs) (hb : RuleRow w bo xs) (hl : xs.length ≤ 1048576) :
    Calls Tryz.prog 11 #[.slice ao xs.length c1, .slice bo xs.length c2] w fun e w' => e = .returned (.bool true) ∧ Below w.heap.size w w' := by
  have HA : Seal _ := ⟨ha⟩
  have HB : Seal _ := ⟨hb⟩
  clear ha hb
  go_enter Tryz.func11, Tryz.ntmps11
  go_wp2
  go_loopw [5] (fun i wr => ∃ k : Nat, k ≤ xs.length ∧ i = .int .i64 k ∧ Seal (Below w.heap.size w wr)) (fun i _ => xs.length - (intOf i).toNat)
  case atStart => exact ⟨0, Nat.zero_le _, rfl, ⟨Below.refl _ _⟩⟩
  case round =>
    obtain ⟨k, hk, rfl, hbe⟩ := hrel
    by_cases hlt : k < xs.length
    · obtain ⟨x, hx⟩ : ∃ x, xs[k]? = some x := ⟨_, List.getElem?_eq_getElem hlt⟩
      obtain ⟨b, off, rfl, c0, c1, c2, c3, c4⟩ := ruleAt (HA.out.below ruleP_stays hbe.out (Nat.le_refl _)) hx
      obtain ⟨b', off', rfl, d0, d1, d2, d3, d4⟩ := ruleAt (HB.out.below ruleP_stays hbe.out (Nat.le_refl _)) hx
      clear hx
      go_wp2_with fail
      go_region_held3 (fun w' => w'.cell? ⟨b, off + k * 5, none⟩ = some (.int .i64 x.ask) ∧ w'.cell? ⟨b, off + k * 5 + 1, none⟩ = some (.string x.txt) ∧ w'.cell? ⟨b, off + k * 5 + 2, none⟩ = some (.int .i64 x.act) ∧ w'.cell? ⟨b, off + k * 5 + 3, none⟩ = some (.string x.u) ∧ w'.cell? ⟨b, off + k * 5 + 4, none⟩ = some (.string x.d) ∧ w'.cell? ⟨b', off' + k * 5, none⟩ = some (.int .i64 x.ask) ∧ w'.cell? ⟨b', off' + k * 5 + 1, none⟩ = some (.string x.txt) ∧ w'.cell? ⟨b', off' + k * 5 + 2, none⟩ = some (.int .i64 x.act) ∧ w'.cell? ⟨b', off' + k * 5 + 3, none⟩ = some (.string x.u) ∧ w'.cell? ⟨b', off' + k * 5 + 4, none⟩ = some (.string x.d) ∧ Below wr.heap.size wr w') (first | exact ⟨c0, c1, c2, c3, c4, d0, d1, d2, d3, d4, (Below.refl _ _).drew⟩ | (go_split_ands; exact ⟨heldc (by assumption) hb1, heldc (by assumption) hb1, heldc (by assumption) hb1, heldc (by assumption) hb1, heldc (by assumption) hb1, heldc (by assumption) hb1, heldc (by assumption) hb1, heldc (by assumption) hb1, heldc (by assumption) hb1, heldc (by assumption) hb1, (by assumption : Below wr.heap.size wr _).trans (hb1.mono (by assumption : Below wr.heap.size wr _).size)⟩) | (go_split_ands; exact ⟨by assumption, by assumption, by assumption, by assumption, by assumption, by assumption, by assumption, by assumption, by assumption, by assumption, Below.drew (by assumption)⟩) | (go_split_ands; exact ⟨by assumption, by assumption, by assumption, by assumption, by assumption, by assumption, by assumption, by assumption, by assumption, by assumption, by assumption⟩)) (first | (go_at_call 34; refine (eqRule_same x _).mono ?_; rintro e w1 ⟨rfl, hb1⟩))
      go_split_ands
      have hbx := (by assumption : Below wr.heap.size wr _)
      go_wp2
      go_roundw
      case rel => exact ⟨k + 1, by omega, by go_num, ⟨hbe.out.trans (hbx.mono hbe.out.size)⟩⟩
      case measure => simp [intOf]; omega
    · go_wp2
      go_ret
      exact ⟨rfl, hbe.out⟩
end Go.Proofs.YtgniokkiejoccaaGreatDoor
