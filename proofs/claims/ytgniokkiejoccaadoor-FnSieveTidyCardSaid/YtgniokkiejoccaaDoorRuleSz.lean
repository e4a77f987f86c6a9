/- Contracts: the laws' sizes of rules. -/
import Derived.Test.YtgniokkiejoccaaDoorRuleD
namespace Go.Proofs.YtgniokkiejoccaaDoor
open Go Go.RowKit

set_option maxRecDepth 100000 in
theorem szRule_any (x : RuleD) (left : Int) (w : World) (h0 : 0 ≤ left) (h1 : left ≤ 1048576) (hf : RuleF x) :
    Calls Tryd.prog 52 #[.agg (ruleV x), .int .i64 left] w fun e w' => e = .returned (.int .i64 (leftN (ruleN x) left)) ∧ Below w.heap.size w w' := by
  have b0 : Seal (Below w.heap.size w (w.alloc (.cells (ruleV x) 75))) := ⟨(Below.refl _ _).alloc (Nat.le_refl _) _⟩
  obtain ⟨z0, z1, z2⟩ := hf
  unfold maxLen at z0 z1 z2
  by_cases ht : (x.txt.size : Int) ≤ left
  · obtain ⟨l, hl⟩ : ∃ l, leftA x.u x.d (left - x.txt.size) = l := ⟨_, rfl⟩
    have HL : Seal _ := ⟨hl⟩
    have HQ : Seal (leftN (ruleN x) left = l) := ⟨by rw [← hl, leftU_N]; unfold ruleN leftN; split <;> split <;> omega⟩
    have hm : l < 0 → l = -1 := fun h => by rw [← HQ.out] at h ⊢; exact leftN_neg h
    clear hl
    go_enter Tryd.func52, Tryd.ntmps52
    go_wp2_with fail
    refine (szAddr_any x.u x.d (left - x.txt.size) _ (by omega) (by omega) (by omega) (by omega)).mono ?_
    rintro e w1 ⟨rfl, hb1⟩
    rw [HL.out]
    have B1 : Seal _ := ⟨b0.out.trans (hb1.mono b0.out.size)⟩
    clear hb1 b0
    by_cases hn : l < 0
    · have HN : Seal _ := ⟨hm hn⟩
      clear hm
      go_wp2
      go_ret
      exact ⟨ret_i (HN.out.symm.trans HQ.out.symm), B1.out⟩
    · clear hm
      go_wp2
      go_ret
      exact ⟨ret_i HQ.out.symm, B1.out⟩
  · have HQ : Seal (leftN (ruleN x) left = -1) := ⟨by unfold ruleN leftN; rw [if_neg (by omega)]⟩
    go_enter Tryd.func52, Tryd.ntmps52
    go_wp2
    go_ret
    exact ⟨ret_i HQ.out.symm, b0.out⟩

set_option maxHeartbeats 800000 in
set_option maxRecDepth 100000 in
theorem szRuleS_any (ao : Option Addr) (cap : Nat) (xs : List RuleD) (left : Int) (w : World) (hr : RuleRow w ao xs) (hl : xs.length ≤ maxLen) (h0 : 0 ≤ left) (h1 : left ≤ 1048576) (hs : ∀ x ∈ xs, RuleF x) :
    Calls Tryd.prog 25 #[.slice ao xs.length cap, .int .i64 left] w fun e w' => e = .returned (.int .i64 (leftN (rowN ruleN xs) left)) ∧ Below w.heap.size w w' := by
  have HR : Seal _ := ⟨hr⟩
  have HS : Seal _ := ⟨hs⟩
  unfold maxLen at hl
  clear hr hs
  by_cases hlen : left < xs.length
  · have hm : Seal (leftN (rowN ruleN xs) left = -1) := ⟨by unfold leftN rowN; rw [if_neg (by omega)]⟩
    go_enter Tryd.func25, Tryd.ntmps25
    go_wp2
    go_ret
    exact ⟨ret_i hm.out.symm, Below.refl _ _⟩
  · have HI : Seal (leftN (xs.length + sumN ruleN (xs.take 0)) left = left - xs.length) := ⟨by unfold leftN sumN; rw [if_pos (by simp; omega)]; simp⟩
    go_enter Tryd.func25, Tryd.ntmps25
    go_wp2
    go_loopw [1, 5] (fun l i wr => ∃ (k : Nat) (r : Int), k ≤ xs.length ∧ i = .int .i64 k ∧ l = .int .i64 r ∧ 0 ≤ r ∧ r ≤ 1048576 ∧ Seal (leftN (xs.length + sumN ruleN (xs.take k)) left = r) ∧ Seal (Below w.heap.size w wr)) (fun _ i _ => xs.length - (intOf i).toNat)
    case atStart => exact ⟨0, left - xs.length, Nat.zero_le _, rfl, rfl, by omega, by omega, HI, ⟨Below.refl _ _⟩⟩
    case round =>
      obtain ⟨k, r, hk, rfl, rfl, hr0, hr1, H, hb⟩ := hrel
      clear HI
      by_cases hlt : k < xs.length
      · obtain ⟨x, hx⟩ : ∃ x, xs[k]? = some x := ⟨_, List.getElem?_eq_getElem hlt⟩
        obtain ⟨b, off, rfl, c0, c1, c2, c3, c4⟩ := ruleAt (HR.out.below ruleP_stays hb.out (Nat.le_refl _)) hx
        have HF : Seal _ := ⟨HS.out x (List.mem_of_getElem? hx)⟩
        have HN : Seal _ := ⟨leftN_row_next ruleN hx H.out (by omega)⟩
        clear hx
        obtain ⟨l2, h2⟩ : ∃ l2, leftN (ruleN x) r = l2 := ⟨_, rfl⟩
        have hle := leftN_le (ruleN x) hr0
        rw [h2] at hle
        have HL : Seal _ := ⟨h2⟩
        clear h2
        go_wp2_with fail
        refine (szRule_any x r _ hr0 hr1 HF.out).mono ?_
        rintro e w1 ⟨rfl, hb1⟩
        rw [HL.out]
        have B1 : Seal _ := ⟨hb.out.trans (hb1.mono hb.out.size)⟩
        clear hb1 hb
        by_cases hneg : l2 < 0
        · have hm : Seal (leftN (rowN ruleN xs) left = -1) := ⟨leftN_row_bad ruleN xs (k + 1) (by rw [HN.out]; exact HL.out) hneg⟩
          go_wp2
          go_ret
          exact ⟨ret_i hm.out.symm, B1.out⟩
        · go_wp2
          go_roundw
          case rel => exact ⟨k + 1, l2, by omega, by go_num, rfl, by omega, by omega, ⟨by rw [HN.out]; exact HL.out⟩, B1⟩
          case measure => simp [intOf]; omega
      · have hm : Seal (leftN (rowN ruleN xs) left = r) := ⟨by
          have e1 := H.out
          rw [List.take_of_length_le (by omega)] at e1
          exact e1⟩
        go_wp2
        go_ret
        exact ⟨ret_i hm.out.symm, hb.out⟩

end Go.Proofs.YtgniokkiejoccaaDoor
