/- Contracts: rules without those that change nothing, of the model. -/
import Derived.Test.YtgniokkiejoccaaDoorSieveTidyP
import Derived.Test.YtgniokkiejoccaaDoorRuleOkS
import Derived.BigQuiet
namespace Go.Proofs.YtgniokkiejoccaaDoor
open Go Go.RowKit

theorem hides_split (y x : RuleD) : hidesB y x = ((y.ask == 4) || ((y.ask == x.ask) && (y.txt.toList == x.txt.toList))) := rfl
set_option maxHeartbeats 16000000 in
set_option maxRecDepth 100000 in
theorem specSieveTidy_any (ao : Option Addr) (cap : Nat) (xs : List RuleD) (w : World) (hr : RuleRow w ao xs) (hl : xs.length ≤ 1048576) (hz : ∀ x ∈ xs, ruleN x ≤ 1048576) :
    Calls Tryd.prog 24 #[.slice ao xs.length cap] w (TidyPost xs w) := by
  obtain ⟨i0, hi, hz0, hz1, hz2⟩ := info_parts infoRule
  have HR : Seal _ := ⟨hr⟩
  have S0 : Seal _ := ⟨(St.start w).made 41 5 #[] 0 (by unfold maxLen; omega) rfl⟩
  have C : Seal _ := ⟨l13Ok_any ao cap xs _ (hr.below ruleP_stays S0.out.below (Nat.le_refl _)) hl hz⟩
  obtain ⟨v, hv⟩ : ∃ v, rulesB xs = v := ⟨_, rfl⟩
  have HV : Seal _ := ⟨hv⟩
  rw [hv] at C
  clear hr hz hv
  go_enter Tryd.func24, Tryd.ntmps24
  go_wp2_with fail
  refine C.out.mono ?_
  rintro e w1 ⟨rfl, hb1⟩
  have S1 : Seal _ := ⟨S0.out.later hb1⟩
  clear hb1 C S0
  cases v
  · have hq : Seal (tidyR xs = []) := ⟨tidy_bad HV.out⟩
    go_wp2
    go_ret
    exact ⟨_, 0, by rw [hq.out]; rfl, by rw [hq.out]; exact S1.out⟩
  · go_wp2
    go_loopw [3, 4] (fun v i wr => ∃ (k : Nat), k ≤ xs.length ∧ i = .int .i64 k ∧ Seal (St w wr [rulesV v (thinTo xs k)])) (fun _ i _ => xs.length - (intOf i).toNat)
    case atStart => exact ⟨0, Nat.zero_le _, rfl, S1⟩
    case round =>
      obtain ⟨k, hk, rfl, S⟩ := hrel
      clear S1
      obtain ⟨bo, c, rfl, _⟩ := rules_value S.out.head
      by_cases hlt : k < xs.length
      · obtain ⟨x, hx⟩ : ∃ x, xs[k]? = some x := ⟨_, List.getElem?_eq_getElem hlt⟩
        obtain ⟨b, off, rfl, _⟩ := ruleAt HR.out hx
        have HX : Seal _ := ⟨hx⟩
        have hle := thinTo_le xs k
        obtain ⟨m, hm⟩ : ∃ m, (thinTo xs k).length = m := ⟨_, rfl⟩
        rw [hm] at hle
        have HM : Seal _ := ⟨hm⟩
        have SM : Seal (St w wr [Res.row 41 5 (.slice bo m c) m (ruleE.all (thinTo xs k) (units1 (thinTo xs k)))]) := ⟨by rw [← HM.out]; exact S.out⟩
        rw [hm]
        clear hx hm S
        go_wp2
        go_loopw [5, 6] (fun t i wr => ∃ (n : Nat) (d : Bool), n ≤ m ∧ i = .int .i64 n ∧ t = .bool d ∧ Seal (((thinTo xs k).take n).any (fun y => hidesB y x) = d) ∧ Seal (St w wr [Res.row 41 5 (.slice bo m c) m (ruleE.all (thinTo xs k) (units1 (thinTo xs k)))])) (fun _ i _ => m - (intOf i).toNat)
        case atStart => exact ⟨0, false, Nat.zero_le _, rfl, rfl, ⟨by simp⟩, SM⟩
        case round =>
          obtain ⟨n, d, hn, rfl, rfl, HD, S⟩ := hrel
          clear SM
          obtain ⟨b1, off1, e1, c0, c1, c2, c3, c4⟩ := ruleAt (HR.out.below ruleP_stays S.out.below (Nat.le_refl _)) HX.out
          cases e1
          by_cases hn2 : n < m
          · obtain ⟨y, hy⟩ : ∃ y, (thinTo xs k)[n]? = some y := ⟨_, List.getElem?_eq_getElem (by rw [HM.out]; exact hn2)⟩
            have hrow : RuleRow wr bo (thinTo xs k) := rules_read (cap := c) (by have q := S.out.head; rw [← HM.out] at q; exact q)
            obtain ⟨b2, off2, rfl, d0, d1, d2, d3, d4⟩ := ruleAt hrow hy
            have HN : Seal (∀ v, (d || hidesB y x) = v → ((thinTo xs k).take (n + 1)).any (fun y => hidesB y x) = v) := ⟨fun v hv => by rw [take_one hy, List.any_append, HD.out, ← hv]; simp⟩
            clear hy hrow HD
            obtain ⟨v1, q1⟩ : ∃ v, (y.ask == 4) = v := ⟨_, rfl⟩
            obtain ⟨v2, q2⟩ : ∃ v, (y.ask == x.ask) = v := ⟨_, rfl⟩
            obtain ⟨v3, q3⟩ : ∃ v, (y.txt.toList == x.txt.toList) = v := ⟨_, rfl⟩
            have HQ : Seal (hidesB y x = (v1 || (v2 && v3))) := ⟨by rw [hides_split, q1, q2, q3]⟩
            cases d
            · cases v1
              · cases v2
                · have HD2 : Seal (((thinTo xs k).take (n + 1)).any (fun y => hidesB y x) = false) := ⟨HN.out _ (by rw [HQ.out]; rfl)⟩
                  clear HN HQ
                  go_wp2_with fail
                  go_quiet (fail)
                  have S2 : Seal _ := ⟨S.out.later (below_drewN _ wr nq)⟩
                  go_wp2
                  go_roundw
                  case rel => exact ⟨n + 1, false, by omega, by go_num, rfl, HD2, S2⟩
                  case measure => simp [intOf]; omega
                · cases v3
                  · have HD2 : Seal (((thinTo xs k).take (n + 1)).any (fun y => hidesB y x) = false) := ⟨HN.out _ (by rw [HQ.out]; rfl)⟩
                    clear HN HQ
                    go_wp2_with fail
                    go_quiet (fail)
                    have S2 : Seal _ := ⟨S.out.later (below_drewN _ wr nq)⟩
                    go_wp2
                    go_roundw
                    case rel => exact ⟨n + 1, false, by omega, by go_num, rfl, HD2, S2⟩
                    case measure => simp [intOf]; omega
                  · have HD2 : Seal (((thinTo xs k).take (n + 1)).any (fun y => hidesB y x) = true) := ⟨HN.out _ (by rw [HQ.out]; rfl)⟩
                    clear HN HQ
                    go_wp2_with fail
                    go_quiet (fail)
                    have S2 : Seal _ := ⟨S.out.later (below_drewN _ wr nq)⟩
                    go_wp2
                    go_roundw
                    case rel => exact ⟨n + 1, true, by omega, by go_num, rfl, HD2, S2⟩
                    case measure => simp [intOf]; omega
              · have HD2 : Seal (((thinTo xs k).take (n + 1)).any (fun y => hidesB y x) = true) := ⟨HN.out _ (by rw [HQ.out]; rfl)⟩
                clear HN HQ
                go_wp2_with fail
                go_quiet (fail)
                have S2 : Seal _ := ⟨S.out.later (below_drewN _ wr nq)⟩
                go_wp2
                go_roundw
                case rel => exact ⟨n + 1, true, by omega, by go_num, rfl, HD2, S2⟩
                case measure => simp [intOf]; omega
            · have HD2 : Seal (((thinTo xs k).take (n + 1)).any (fun y => hidesB y x) = true) := ⟨HN.out _ (by rw [HQ.out]; rfl)⟩
              clear HN HQ
              go_wp2_with fail
              go_quiet (fail)
              have S2 : Seal _ := ⟨S.out.later (below_drewN _ wr nq)⟩
              go_wp2
              go_roundw
              case rel => exact ⟨n + 1, true, by omega, by go_num, rfl, HD2, S2⟩
              case measure => simp [intOf]; omega
          · obtain rfl : n = m := by omega
            have HA : Seal ((thinTo xs k).any (fun y => hidesB y x) = d) := ⟨by
              have := HD.out
              rw [List.take_of_length_le (by rw [HM.out]; omega)] at this
              exact this⟩
            clear HD
            cases d
            · have HT : Seal _ := ⟨thinTo_no HX.out HA.out⟩
              have s4 := S.out.more (.cells (ruleV x) 41)
              have S4 : Seal (St w (wr.alloc (.cells (ruleV x) 41)) [Res.row 41 5 (.slice bo n c) n (ruleE.all (thinTo xs k) (units1 (thinTo xs k)))]) := ⟨s4⟩
              have OW : Seal (World.ownsRow _ 0 41 5 (.slice bo n c) n (ruleE.all (thinTo xs k) (units1 (thinTo xs k)))) := ⟨S4.out.head⟩
              clear s4 S
              go_wp2_with (at_builtin; refine wpList_append_own_at _ rfl _ _ 23 rfl 0 41 i0 (.agg #[.int .i64 0, .string ByteArray.empty, .int .i64 0, .string ByteArray.empty, .string ByteArray.empty]) 5 64 Tryd.underlying23 hi hz0 hz1 hz2 rfl (by decide) _ _ _ rfl OW.out ⟨wr.heap.size, 0, none⟩ 1 1 (ruleL x) rfl rfl ?c1 ?c2 ?c3 ?c4 ?c5 ?_)
              case c1 =>
                intro j u hj
                have := (CellsM.new wr (ruleV x) 41).c j u hj
                by_cases h0 : j = 0
                · subst h0; simpa [Addr.add] using this
                · simpa [Addr.add, h0] using this
              case c2 => exact rule_one x
              case c3 => unfold maxLen; omega
              case c4 => omega
              case c5 => exact Nat.zero_le _
              intro v' w3 hown hg _ hat
              have s5 := S4.out.app hown hg (by rw [World.size_alloc]; exact hat)
              have S5 : Seal (St w w3 [rulesV v' (thinTo xs (k + 1))]) := ⟨by
                unfold rulesV
                rw [HT.out, rules_snoc, List.length_append, HM.out]
                exact s5⟩
              clear hown hg hat OW S4 s5
              go_wp2
              go_roundw
              case rel => exact ⟨k + 1, by omega, by go_num, S5⟩
              case measure => simp [intOf]; omega
            · have HT : Seal _ := ⟨thinTo_yes HX.out HA.out⟩
              have S4 : Seal (St w wr [rulesV (.slice bo n c) (thinTo xs (k + 1))]) := ⟨by rw [HT.out, ← HM.out]; have := S.out; rw [← HM.out] at this; exact this⟩
              clear hle S
              go_wp2
              go_roundw
              case rel => exact ⟨k + 1, by omega, by go_num, S4⟩
              case measure => simp [intOf]; omega
      · obtain rfl : k = xs.length := by omega
        have HQ : Seal (tidyR xs = trimR (thinTo xs xs.length)) := ⟨tidy_good HV.out⟩
        have hle := thinTo_le xs xs.length
        go_wp2
        go_loopw [3] (fun v wr => ∃ (ys : List RuleD), Seal (tidyR xs = trimR ys) ∧ ys.length ≤ 1048576 ∧ Seal (St w wr [rulesV v ys])) (fun v _ => lenV v)
        case atStart => exact ⟨_, HQ, by omega, S⟩
        case round =>
          obtain ⟨ys, HY, hyl, T⟩ := hrel
          clear S HQ hle
          obtain ⟨bo, c, rfl, hc⟩ := rules_value T.out.head
          rcases List.eq_nil_or_concat ys with rfl | ⟨zs, y, hzy⟩
          · have hq : Seal (tidyR xs = []) := ⟨HY.out⟩
            go_wp2
            go_ret
            exact ⟨bo, c, by rw [hq.out]; rfl, by rw [hq.out]; exact T.out⟩
          · rw [List.concat_eq_append] at hzy
            subst hzy
            obtain ⟨k, hk⟩ : ∃ k, zs.length = k := ⟨_, rfl⟩
            have hg : (zs ++ [y])[k]? = some y := by rw [← hk]; simp
            obtain ⟨b, off, rfl, c0, c1, c2, c3, c4⟩ := ruleAt (rules_read T.out.head) hg
            have hlen : (zs ++ [y]).length = k + 1 := by rw [List.length_append, hk]; rfl
            have T2 : Seal _ := ⟨T.out.dropLast⟩
            rw [hlen] at hc hyl
            rw [hlen]
            have HK : Seal _ := ⟨hk⟩
            have w1 : IntKind.i64.wrap (k : Int) = (k : Int) := IntWalk.i64_in _ (by omega)
            have j0 : (0 : Int) < (k : Int) + 1 := by omega
            have j3 : (k : Int) < (k : Int) + 1 := by omega
            have j4 : k < k + 1 := by omega
            have j5 : k ≤ c := by omega
            clear hg hlen hk
            obtain ⟨v, hv⟩ : ∃ v, (y.act == 1) = v := ⟨_, rfl⟩
            cases v
            · have hq : Seal (tidyR xs = zs ++ [y]) := ⟨HY.out.trans (trimR_no hv)⟩
              have T3 : Seal (St w wr [rulesV (.slice (some ⟨b, off, none⟩) (k + 1) c) (zs ++ [y])]) := ⟨by have := T.out; rw [List.length_append, HK.out] at this; exact this⟩
              clear T T2
              go_wp2
              go_ret
              exact ⟨_, c, by rw [hq.out, List.length_append, HK.out]; rfl, by rw [hq.out, List.length_append, HK.out]; exact T3.out⟩
            · have HY2 : Seal (tidyR xs = trimR zs) := ⟨HY.out.trans (trimR_yes hv)⟩
              have T3 : Seal (St w wr [rulesV (.slice (some ⟨b, off, none⟩) k c) zs]) := ⟨by have := T2.out; rw [HK.out] at this; exact this⟩
              clear T T2
              go_wp2
              go_roundw
              case rel => exact ⟨zs, HY2, by rw [HK.out]; omega, T3⟩
              case measure => simp [lenV]
end Go.Proofs.YtgniokkiejoccaaDoor
