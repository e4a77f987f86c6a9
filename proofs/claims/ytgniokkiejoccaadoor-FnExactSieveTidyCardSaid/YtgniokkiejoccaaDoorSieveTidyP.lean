/- Contracts: rules without those that change nothing, of the program: the whole. -/
import Derived.Test.YtgniokkiejoccaaDoorSieveTidyI
namespace Go.Proofs.YtgniokkiejoccaaDoor
open Go Go.RowKit

/-- What tidying answers. -/
def TidyPost (xs : List RuleD) (w : World) (e : Ending) (w' : World) : Prop := ∃ bo c, e = .returned (.slice bo (tidyR xs).length c) ∧ St w w' [rulesV (.slice bo (tidyR xs).length c) (tidyR xs)]
theorem rule_one (x : RuleD) : ∀ u ∈ ruleL x, u.oneCell' = true := by
  intro u hu
  simp only [List.mem_cons, List.not_mem_nil, or_false] at hu
  rcases hu with rfl | rfl | rfl | rfl | rfl
  all_goals rfl

set_option maxHeartbeats 6400000 in
set_option maxRecDepth 100000 in
theorem implSieveTidy_any (ao : Option Addr) (cap : Nat) (xs : List RuleD) (w : World) (hm : HasMax w) (hr : RuleRow w ao xs) (hl : xs.length ≤ 1048576) (hz : ∀ x ∈ xs, ruleN x ≤ 1048576) :
    Calls Tryd.prog 22 #[.slice ao xs.length cap] w (TidyPost xs w) := by
  obtain ⟨i0, hi, hz0, hz1, hz2⟩ := info_parts infoRule
  have HR : Seal _ := ⟨hr⟩
  have C : Seal _ := ⟨implSieveOk_any ao cap xs w hm hr hl hz⟩
  obtain ⟨v, hv⟩ : ∃ v, rulesB xs = v := ⟨_, rfl⟩
  have HV : Seal _ := ⟨hv⟩
  rw [hv] at C
  clear hr hz hv hm
  go_enter Tryd.func22, Tryd.ntmps22
  go_wp2_with fail
  refine C.out.mono ?_
  rintro e w1 ⟨rfl, hb1⟩
  have B1 : Seal _ := ⟨hb1⟩
  clear hb1 C
  cases v
  · have hq : Seal (tidyR xs = []) := ⟨tidy_bad HV.out⟩
    have S2 : Seal _ := ⟨((St.start w).later B1.out).nothing 41 5⟩
    go_wp2
    go_ret
    exact ⟨none, 0, by rw [hq.out]; rfl, by rw [hq.out]; exact S2.out⟩
  · go_wp2
    go_loopw [3, 11] (fun v i wr => ∃ (k : Nat), k ≤ xs.length ∧ i = .int .i64 k ∧ Seal (St w wr [rulesV v (thinTo xs k)])) (fun _ i _ => xs.length - (intOf i).toNat)
    case atStart => exact ⟨0, Nat.zero_le _, rfl, ⟨((St.start w).later B1.out).nothing 41 5⟩⟩
    case round =>
      obtain ⟨k, hk, rfl, S⟩ := hrel
      obtain ⟨bo, c, rfl, _⟩ := rules_value S.out.head
      by_cases hlt : k < xs.length
      · obtain ⟨x, hx⟩ : ∃ x, xs[k]? = some x := ⟨_, List.getElem?_eq_getElem hlt⟩
        obtain ⟨b, off, rfl, c0, c1, c2, c3, c4⟩ := ruleAt (HR.out.below ruleP_stays S.out.below (Nat.le_refl _)) hx
        have HX : Seal _ := ⟨hx⟩
        have S2 : Seal _ := ⟨S.out.alloc (ruleV x) 41⟩
        have hle := thinTo_le xs k
        obtain ⟨d, hd⟩ : ∃ d, (thinTo xs k).any (fun y => hidesB y x) = d := ⟨_, rfl⟩
        have HD : Seal _ := ⟨hd⟩
        have CD : Seal _ := ⟨anyHid_any bo c (thinTo xs k) x wr.heap.size _ (rules_read S2.out.two.head) (by omega) S2.out.head⟩
        rw [hd] at CD
        obtain ⟨m, hm⟩ : ∃ m, (thinTo xs k).length = m := ⟨_, rfl⟩
        rw [hm] at hle CD
        have HM : Seal _ := ⟨hm⟩
        rw [hm]
        clear hx hd hm
        go_wp2_with fail
        refine CD.out.mono ?_
        rintro e w2 ⟨rfl, hb2⟩
        have S3 : Seal _ := ⟨S2.out.later hb2⟩
        have K3 := S3.out.head
        have x0 := K3.c 0 _ rfl
        have x1 := K3.c 1 _ rfl
        have x2 := K3.c 2 _ rfl
        have x3 := K3.c 3 _ rfl
        have x4 := K3.c 4 _ rfl
        clear hb2 CD S2 K3 c0 c1 c2 c3 c4 S
        cases d
        · have HT : Seal _ := ⟨thinTo_no HX.out HD.out⟩
          have s4 := S3.out.tail.more (.cells (ruleV x) 41)
          have S4 : Seal (St w (w2.alloc (.cells (ruleV x) 41)) [Res.row 41 5 (.slice bo m c) m (ruleE.all (thinTo xs k) (units1 (thinTo xs k)))]) := ⟨by rw [← HM.out]; exact s4⟩
          have OW : Seal (World.ownsRow _ 0 41 5 (.slice bo m c) m (ruleE.all (thinTo xs k) (units1 (thinTo xs k)))) := ⟨S4.out.head⟩
          clear s4 S3
          go_wp2_with (at_builtin; refine wpList_append_own_at _ rfl _ _ 23 rfl 0 41 i0 (.agg #[.int .i64 0, .string ByteArray.empty, .int .i64 0, .string ByteArray.empty, .string ByteArray.empty]) 5 64 Tryd.underlying23 hi hz0 hz1 hz2 rfl (by decide) _ _ _ rfl OW.out ⟨w2.heap.size, 0, none⟩ 1 1 (ruleL x) rfl rfl ?c1 ?c2 ?c3 ?c4 ?c5 ?_)
          case c1 =>
            intro j u hj
            have := (CellsM.new w2 (ruleV x) 41).c j u hj
            by_cases h0 : j = 0
            · subst h0; simpa [Addr.add] using this
            · simpa [Addr.add, h0] using this
          case c2 => exact rule_one x
          case c3 => unfold maxLen; omega
          case c4 => omega
          case c5 => exact Nat.zero_le _
          intro v' w3 hown hg _ hat
          have s5 := S4.out.app hown hg (by rw [World.size_alloc]; exact hat)
          have S5 : Seal (St w w3 [rulesV v' (thinTo xs (k + 1))]) := ⟨by
            unfold rulesV
            rw [HT.out, rules_snoc, List.length_append, HM.out]
            exact s5⟩
          clear hown hg hat OW S4 s5 x0 x1 x2 x3 x4
          go_wp2
          go_roundw
          case rel => exact ⟨k + 1, by omega, by go_num, S5⟩
          case measure => simp [intOf]; omega
        · have HT : Seal _ := ⟨thinTo_yes HX.out HD.out⟩
          have s4 := S3.out.tail
          have S4 : Seal (St w w2 [rulesV (.slice bo m c) (thinTo xs (k + 1))]) := ⟨by rw [HT.out, ← HM.out]; exact s4⟩
          clear hle S3 s4 x0 x1 x2 x3 x4
          go_wp2
          go_roundw
          case rel => exact ⟨k + 1, by omega, by go_num, S4⟩
          case measure => simp [intOf]; omega
      · obtain rfl : k = xs.length := by omega
        have HQ : Seal (tidyR xs = trimR (thinTo xs xs.length)) := ⟨tidy_good HV.out⟩
        have hle := thinTo_le xs xs.length
        go_wp2
        go_loopw [3] (fun v wr => ∃ (ys : List RuleD), Seal (tidyR xs = trimR ys) ∧ ys.length ≤ 1048576 ∧ Seal (St w wr [rulesV v ys])) (fun v _ => lenV v)
        case atStart => exact ⟨_, HQ, by omega, S⟩
        case round =>
          obtain ⟨ys, HY, hyl, T⟩ := hrel
          clear S HQ hle
          obtain ⟨bo, c, rfl, hc⟩ := rules_value T.out.head
          rcases List.eq_nil_or_concat ys with rfl | ⟨zs, y, hzy⟩
          · have hq : Seal (tidyR xs = []) := ⟨HY.out⟩
            go_wp2
            go_ret
            exact ⟨bo, c, by rw [hq.out]; rfl, by rw [hq.out]; exact T.out⟩
          · rw [List.concat_eq_append] at hzy
            subst hzy
            obtain ⟨k, hk⟩ : ∃ k, zs.length = k := ⟨_, rfl⟩
            have hg : (zs ++ [y])[k]? = some y := by rw [← hk]; simp
            obtain ⟨b, off, rfl, c0, c1, c2, c3, c4⟩ := ruleAt (rules_read T.out.head) hg
            have hlen : (zs ++ [y]).length = k + 1 := by rw [List.length_append, hk]; rfl
            have T2 : Seal _ := ⟨T.out.dropLast⟩
            rw [hlen] at hc hyl
            rw [hlen]
            have HK : Seal _ := ⟨hk⟩
            have w1 : IntKind.i64.wrap (k : Int) = (k : Int) := IntWalk.i64_in _ (by omega)
            have j0 : (0 : Int) < (k : Int) + 1 := by omega
            have j3 : (k : Int) < (k : Int) + 1 := by omega
            have j4 : k < k + 1 := by omega
            have j5 : k ≤ c := by omega
            clear hg hlen hk
            obtain ⟨v, hv⟩ : ∃ v, (y.act == 1) = v := ⟨_, rfl⟩
            cases v
            · have hq : Seal (tidyR xs = zs ++ [y]) := ⟨HY.out.trans (trimR_no hv)⟩
              have T3 : Seal (St w wr [rulesV (.slice (some ⟨b, off, none⟩) (k + 1) c) (zs ++ [y])]) := ⟨by have := T.out; rw [List.length_append, HK.out] at this; exact this⟩
              clear T T2
              go_wp2
              go_ret
              exact ⟨_, c, by rw [hq.out, List.length_append, HK.out]; rfl, by rw [hq.out, List.length_append, HK.out]; exact T3.out⟩
            · have HY2 : Seal (tidyR xs = trimR zs) := ⟨HY.out.trans (trimR_yes hv)⟩
              have T3 : Seal (St w wr [rulesV (.slice (some ⟨b, off, none⟩) k c) zs]) := ⟨by have := T2.out; rw [HK.out] at this; exact this⟩
              clear T T2
              go_wp2
              go_roundw
              case rel => exact ⟨zs, HY2, by rw [HK.out]; omega, T3⟩
              case measure => simp [lenV]
end Go.Proofs.YtgniokkiejoccaaDoor
