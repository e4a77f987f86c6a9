/- SieveTidyI, SieveTidyP. -/
import Derived.Test.YtgniokkiejoccaaDoorRuleFind
import Derived.Test.YtgniokkiejoccaaDoorRuleTo
namespace Go.Proofs.YtgniokkiejoccaaDoor
open Go Go.RowKit

/-! ### plain facts -/
def hidesB (a b : RuleD) : Bool := (a.ask == 4) || ((a.ask == b.ask) && (a.txt.toList == b.txt.toList))
def thinOne (out : List RuleD) (x : RuleD) : List RuleD := if out.any (fun y => hidesB y x) then out else out ++ [x]
def thinR (xs : List RuleD) : List RuleD := xs.foldl thinOne []
def trimR (ys : List RuleD) : List RuleD := (ys.reverse.dropWhile (fun y => y.act == 1)).reverse
def tidyR (xs : List RuleD) : List RuleD := if rulesB xs then trimR (thinR xs) else []
theorem trimR_nil : trimR [] = [] := rfl
theorem trimR_yes {ys : List RuleD} {y : RuleD} (h : (y.act == 1) = true) : trimR (ys ++ [y]) = trimR ys := by
  unfold trimR; rw [List.reverse_append, List.reverse_singleton, List.singleton_append, List.dropWhile_cons, if_pos h]
theorem trimR_no {ys : List RuleD} {y : RuleD} (h : (y.act == 1) = false) : trimR (ys ++ [y]) = ys ++ [y] := by
  unfold trimR; rw [List.reverse_append, List.reverse_singleton, List.singleton_append, List.dropWhile_cons, if_neg (by rw [h]; decide)]; simp
theorem thinOne_yes {out : List RuleD} {x : RuleD} (h : out.any (fun y => hidesB y x) = true) : thinOne out x = out := if_pos h
theorem thinOne_no {out : List RuleD} {x : RuleD} (h : out.any (fun y => hidesB y x) = false) : thinOne out x = out ++ [x] := if_neg (by rw [h]; decide)
theorem thin_step {xs : List RuleD} {k : Nat} {x : RuleD} (h : xs[k]? = some x) : (xs.take (k + 1)).foldl thinOne [] = thinOne ((xs.take k).foldl thinOne []) x := by
  obtain ⟨hk, e⟩ := List.getElem?_eq_some_iff.1 h
  rw [List.take_succ_eq_append_getElem hk, e, List.foldl_append]; rfl
theorem thin_len (xs : List RuleD) : ∀ out : List RuleD, (xs.foldl thinOne out).length ≤ out.length + xs.length := by
  induction xs with
  | nil => intro out; simp
  | cons x xs ih =>
    intro out
    have h := ih (thinOne out x)
    have h2 : (thinOne out x).length ≤ out.length + 1 := by unfold thinOne; split <;> simp
    simp only [List.foldl_cons, List.length_cons]
    omega
theorem trim_len (ys : List RuleD) : (trimR ys).length ≤ ys.length := by
  unfold trimR
  rw [List.length_reverse]
  have := (List.dropWhile_sublist (fun y : RuleD => y.act == 1) (l := ys.reverse)).length_le
  rw [List.length_reverse] at this
  exact this
def thinTo (xs : List RuleD) (k : Nat) : List RuleD := (xs.take k).foldl thinOne []
theorem thinTo_le (xs : List RuleD) (k : Nat) : (thinTo xs k).length ≤ xs.length := by
  have h := thin_len (xs.take k) []
  unfold thinTo
  simp at h
  omega
theorem thinTo_yes {xs : List RuleD} {k : Nat} {x : RuleD} (h : xs[k]? = some x) (hd : (thinTo xs k).any (fun y => hidesB y x) = true) : thinTo xs (k + 1) = thinTo xs k := by
  unfold thinTo at hd ⊢; rw [thin_step h]; exact thinOne_yes hd
theorem thinTo_no {xs : List RuleD} {k : Nat} {x : RuleD} (h : xs[k]? = some x) (hd : (thinTo xs k).any (fun y => hidesB y x) = false) : thinTo xs (k + 1) = thinTo xs k ++ [x] := by
  unfold thinTo at hd ⊢; rw [thin_step h]; exact thinOne_no hd
theorem tidy_bad {xs : List RuleD} (h : rulesB xs = false) : tidyR xs = [] := by unfold tidyR; rw [h]; rfl
theorem tidy_good {xs : List RuleD} (h : rulesB xs = true) : tidyR xs = trimR (thinTo xs xs.length) := by unfold tidyR thinTo thinR; rw [h, List.take_length]; rfl

/-! ### rows of rules of a call's own -/
/-- The length that a slice has. -/
def lenV : Value → Nat
  | .slice _ n _ => n
  | _ => 0
abbrev rulesV (v : Value) (xs : List RuleD) : Res := Res.row 41 5 v xs.length (ruleE.all xs (units1 xs))
theorem rules_value {w : World} {v : Value} {xs : List RuleD} (h : (rulesV v xs).P w) : ∃ ao cap, v = .slice ao xs.length cap ∧ xs.length ≤ cap := by
  have h1 : w.ownsRow 0 41 5 v xs.length (ruleE.all xs (units1 xs)) := h
  rcases h1.2 with ⟨hv, hn⟩ | ⟨g, cap, cur, hv, _, _, hc, _⟩
  · exact ⟨none, 0, by rw [hv, hn], by omega⟩
  · exact ⟨_, cap, hv, hc⟩
theorem rules_snoc (xs : List RuleD) (x : RuleD) : ruleE.all (xs ++ [x]) (units1 (xs ++ [x])) = ruleE.all xs (units1 xs) ++ ruleL x := by
  have h := ruleE.all_snoc (xs := xs) (ps := units1 xs) (by simp) x ()
  have e : units1 (xs ++ [x]) = units1 xs ++ [()] := by unfold units1; rw [List.length_append, List.length_singleton, List.replicate_succ']
  rw [e]
  exact h
theorem StX.dropLast {X : Nat → Prop} {w0 w : World} {ao : Option Addr} {cap : Nat} {ys : List RuleD} {y : RuleD} {l : List Res} (h : StX X w0 w (rulesV (.slice ao (ys ++ [y]).length cap) (ys ++ [y]) :: l)) : StX X w0 w (rulesV (.slice ao ys.length cap) ys :: l) := by
  refine h.change (Only.refl _ w) (rulesV (.slice ao ys.length cap) ys) ?_ ?_
  · have h1 : w.ownsRow 0 41 5 (.slice ao (ys ++ [y]).length cap) (ys ++ [y]).length (ruleE.all (ys ++ [y]) (units1 (ys ++ [y]))) := h.head
    have hl : (ruleE.all ys (units1 ys)).length = ys.length * 5 := ruleE.all_length (by simp)
    refine ⟨hl, ?_⟩
    rcases h1.2 with ⟨_, hn⟩ | ⟨g, c, cur, hv, hb, hh, hc, hm, hs, ht⟩
    · simp at hn
    · refine .inr ⟨g, c, cur, ?_, hb, hh, ?_, hm, hs, ?_⟩
      · cases hv; rfl
      · rw [List.length_append] at hc; omega
      · rw [rules_snoc] at ht
        have h2 := congrArg (List.take (ys.length * 5)) ht
        rw [List.take_take, List.take_left' hl, Nat.min_eq_left (by rw [List.length_append]; omega)] at h2
        exact h2
  · intro i hi
    have hS : (rulesV (.slice ao (ys ++ [y]).length cap) (ys ++ [y])).S i := by
      cases ao with
      | none => cases hi
      | some a => exact hi
    exact ⟨.inl hS, (h.low i hS).2⟩

/-! ### one rule behind another -/
set_option maxHeartbeats 800000 in
set_option maxRecDepth 100000 in
theorem hides_any (a b : RuleD) (w : World) :
    Calls Tryd.prog 51 #[.agg (ruleV a), .agg (ruleV b)] w fun e w' => e = .returned (.bool (hidesB a b)) ∧ Below w.heap.size w w' := by
  have s0 := ((St.start w).alloc (ruleV a) 41).alloc (ruleV b) 41
  have S0 : Seal _ := ⟨s0.below⟩
  clear s0
  obtain ⟨v1, e1⟩ : ∃ v, (a.ask == 4) = v := ⟨_, rfl⟩
  obtain ⟨v2, e2⟩ : ∃ v, (a.ask == b.ask) = v := ⟨_, rfl⟩
  obtain ⟨v3, e3⟩ : ∃ v, (a.txt.toList == b.txt.toList) = v := ⟨_, rfl⟩
  have hq : Seal (hidesB a b = (v1 || (v2 && v3))) := ⟨by unfold hidesB; rw [e1, e2, e3]⟩
  cases v1
  · cases v2
    · go_enter Tryd.func51, Tryd.ntmps51
      go_wp2
      go_ret
      exact ⟨ret_b hq.out.symm, S0.out⟩
    · cases v3
      all_goals
        go_enter Tryd.func51, Tryd.ntmps51
        go_wp2
        go_ret
        exact ⟨ret_b hq.out.symm, S0.out⟩
  · go_enter Tryd.func51, Tryd.ntmps51
    go_wp2
    go_ret
    exact ⟨ret_b hq.out.symm, S0.out⟩

set_option maxHeartbeats 800000 in
set_option maxRecDepth 100000 in
theorem hidden_any (a x : RuleD) (b : Nat) (w : World) (hc : (Res.cells b (ruleL x)).P w) :
    Calls Tryd.prog 50 #[.agg (ruleV a), .pointer (some ⟨b, 0, none⟩)] w fun e w' => e = .returned (.bool (hidesB a x)) ∧ Below w.heap.size w w' := by
  have S0 : Seal _ := ⟨(St.start w).alloc (ruleV a) 41⟩
  have y0 := heldc (hc.c 0 _ rfl) S0.out.below
  have y1 := heldc (hc.c 1 _ rfl) S0.out.below
  have y2 := heldc (hc.c 2 _ rfl) S0.out.below
  have y3 := heldc (hc.c 3 _ rfl) S0.out.below
  have y4 := heldc (hc.c 4 _ rfl) S0.out.below
  clear hc
  go_enter Tryd.func50, Tryd.ntmps50
  go_wp2_with fail
  refine (hides_any a x _).mono ?_
  rintro e w1 ⟨rfl, hb1⟩
  have S1 : Seal _ := ⟨S0.out.later hb1⟩
  clear hb1
  go_wp2
  go_ret
  exact ⟨rfl, S1.out.below⟩

def HidPost (x : RuleD) (ys : List RuleD) (w : World) (e : Ending) (w' : World) : Prop := ∃ n : Int, e = .returned (.int .i64 n) ∧ ((0 ≤ n ∧ ys.any (fun y => hidesB y x) = true) ∨ (n = -1 ∧ ys.any (fun y => hidesB y x) = false)) ∧ Below w.heap.size w w'
theorem take_one {α : Type} {xs : List α} {k : Nat} {x : α} (h : xs[k]? = some x) : xs.take (k + 1) = xs.take k ++ [x] := by
  obtain ⟨hk, e⟩ := List.getElem?_eq_some_iff.1 h
  rw [List.take_succ_eq_append_getElem hk, e]

set_option maxHeartbeats 1600000 in
set_option maxRecDepth 100000 in
theorem whereHid_any (ao : Option Addr) (cap : Nat) (ys : List RuleD) (x : RuleD) (b : Nat) (w : World) (hr : RuleRow w ao ys) (hl : ys.length ≤ 1048576) (hc : (Res.cells b (ruleL x)).P w) :
    Calls Tryd.prog 87 #[.slice ao ys.length cap, .func (.func 50) #[] #[.pointer (some ⟨b, 0, none⟩)]] w (HidPost x ys w) := by
  have HR : Seal _ := ⟨hr⟩
  have HC : Seal (∀ W, Below w.heap.size w W → (Res.cells b (ruleL x)).P W) := ⟨fun W hW => CellsM.later (show CellsM w b (ruleL x) from hc) hW⟩
  clear hr hc
  go_enter Tryd.func87, Tryd.ntmps87
  go_wp2
  go_loopw [8] (fun i wr => ∃ k : Nat, k ≤ ys.length ∧ i = .int .i64 k ∧ Seal ((ys.take k).any (fun y => hidesB y x) = false) ∧ Seal (Below w.heap.size w wr)) (fun i _ => ys.length - (intOf i).toNat)
  case atStart => exact ⟨0, Nat.zero_le _, rfl, ⟨by simp⟩, ⟨Below.refl _ _⟩⟩
  case round =>
    obtain ⟨k, hk, rfl, HN, hbe⟩ := hrel
    by_cases hk2 : k < ys.length
    · obtain ⟨y, hy⟩ : ∃ y, ys[k]? = some y := ⟨_, List.getElem?_eq_getElem hk2⟩
      obtain ⟨b', off, rfl, c0, c1, c2, c3, c4⟩ := ruleAt (HR.out.below ruleP_stays hbe.out (Nat.le_refl _)) hy
      have HY : Seal _ := ⟨hy⟩
      obtain ⟨v, hv⟩ : ∃ v, hidesB y x = v := ⟨_, rfl⟩
      have C : Seal _ := ⟨hidden_any y x b wr (HC.out wr hbe.out)⟩
      rw [hv] at C
      have HV : Seal _ := ⟨hv⟩
      clear hy hv
      go_wp2_with fail
      refine C.out.mono ?_
      rintro e w1 ⟨rfl, hb1⟩
      have B1 : Seal _ := ⟨hbe.out.trans (hb1.mono hbe.out.size)⟩
      clear hb1 C
      cases v
      · have HN2 : Seal ((ys.take (k + 1)).any (fun y => hidesB y x) = false) := ⟨by
          rw [take_one HY.out, List.any_append, HN.out]; simp [HV.out]⟩
        go_wp2
        go_roundw
        case rel => exact ⟨k + 1, by omega, by go_num, HN2, B1⟩
        case measure => simp [intOf]; omega
      · have hm : Seal (ys.any (fun y => hidesB y x) = true) := ⟨by rw [List.any_eq_true]; exact ⟨y, List.mem_of_getElem? HY.out, HV.out⟩⟩
        go_wp2
        go_ret
        exact ⟨_, rfl, .inl ⟨by omega, hm.out⟩, B1.out⟩
    · have hm : Seal (ys.any (fun y => hidesB y x) = false) := ⟨by
        have := HN.out
        rw [List.take_of_length_le (by omega)] at this
        exact this⟩
      go_wp2
      go_ret
      exact ⟨-1, rfl, .inr ⟨rfl, hm.out⟩, hbe.out⟩

theorem anyHid_any (ao : Option Addr) (cap : Nat) (ys : List RuleD) (x : RuleD) (b : Nat) (w : World) (hr : RuleRow w ao ys) (hl : ys.length ≤ 1048576) (hc : (Res.cells b (ruleL x)).P w) :
    Calls Tryd.prog 49 #[.slice ao ys.length cap, .func (.func 50) #[] #[.pointer (some ⟨b, 0, none⟩)]] w fun e w' => e = .returned (.bool (ys.any (fun y => hidesB y x))) ∧ Below w.heap.size w w' := by
  have C : Seal _ := ⟨whereHid_any ao cap ys x b w hr hl hc⟩
  clear hr hc
  go_enter Tryd.func49, Tryd.ntmps49
  go_wp2_with fail
  refine C.out.mono ?_
  rintro e w1 ⟨n, rfl, hn, hb1⟩
  have B1 : Seal _ := ⟨hb1⟩
  clear C hb1
  rcases hn with ⟨h0, hm⟩ | ⟨rfl, hm⟩
  · have hv : Seal _ := ⟨hm⟩
    clear hm
    go_wp2
    go_ret
    exact ⟨ret_b hv.out.symm, B1.out⟩
  · have hv : Seal _ := ⟨hm⟩
    clear hm
    go_wp2
    go_ret
    exact ⟨ret_b hv.out.symm, B1.out⟩
end Go.Proofs.YtgniokkiejoccaaDoor
namespace Go.Proofs.YtgniokkiejoccaaDoor
open Go Go.RowKit

/-- What tidying answers. -/
def TidyPost (xs : List RuleD) (w : World) (e : Ending) (w' : World) : Prop := ∃ bo c, e = .returned (.slice bo (tidyR xs).length c) ∧ St w w' [rulesV (.slice bo (tidyR xs).length c) (tidyR xs)]
theorem rule_one (x : RuleD) : ∀ u ∈ ruleL x, u.oneCell' = true := by
  intro u hu
  simp only [List.mem_cons, List.not_mem_nil, or_false] at hu
  rcases hu with rfl | rfl | rfl | rfl | rfl
  all_goals rfl

set_option maxHeartbeats 6400000 in
set_option maxRecDepth 100000 in
theorem implSieveTidy_any (ao : Option Addr) (cap : Nat) (xs : List RuleD) (w : World) (hm : HasMax w) (hr : RuleRow w ao xs) (hl : xs.length ≤ 1048576) (hz : ∀ x ∈ xs, ruleN x ≤ 1048576) :
    Calls Tryd.prog 22 #[.slice ao xs.length cap] w (TidyPost xs w) := by
  obtain ⟨i0, hi, hz0, hz1, hz2⟩ := info_parts infoRule
  have HR : Seal _ := ⟨hr⟩
  have C : Seal _ := ⟨implSieveOk_any ao cap xs w hm hr hl hz⟩
  obtain ⟨v, hv⟩ : ∃ v, rulesB xs = v := ⟨_, rfl⟩
  have HV : Seal _ := ⟨hv⟩
  rw [hv] at C
  clear hr hz hv hm
  go_enter Tryd.func22, Tryd.ntmps22
  go_wp2_with fail
  refine C.out.mono ?_
  rintro e w1 ⟨rfl, hb1⟩
  have B1 : Seal _ := ⟨hb1⟩
  clear hb1 C
  cases v
  · have hq : Seal (tidyR xs = []) := ⟨tidy_bad HV.out⟩
    have S2 : Seal _ := ⟨((St.start w).later B1.out).nothing 41 5⟩
    go_wp2
    go_ret
    exact ⟨none, 0, by rw [hq.out]; rfl, by rw [hq.out]; exact S2.out⟩
  · go_wp2
    go_loopw [3, 11] (fun v i wr => ∃ (k : Nat), k ≤ xs.length ∧ i = .int .i64 k ∧ Seal (St w wr [rulesV v (thinTo xs k)])) (fun _ i _ => xs.length - (intOf i).toNat)
    case atStart => exact ⟨0, Nat.zero_le _, rfl, ⟨((St.start w).later B1.out).nothing 41 5⟩⟩
    case round =>
      obtain ⟨k, hk, rfl, S⟩ := hrel
      obtain ⟨bo, c, rfl, _⟩ := rules_value S.out.head
      by_cases hlt : k < xs.length
      · obtain ⟨x, hx⟩ : ∃ x, xs[k]? = some x := ⟨_, List.getElem?_eq_getElem hlt⟩
        obtain ⟨b, off, rfl, c0, c1, c2, c3, c4⟩ := ruleAt (HR.out.below ruleP_stays S.out.below (Nat.le_refl _)) hx
        have HX : Seal _ := ⟨hx⟩
        have S2 : Seal _ := ⟨S.out.alloc (ruleV x) 41⟩
        have hle := thinTo_le xs k
        obtain ⟨d, hd⟩ : ∃ d, (thinTo xs k).any (fun y => hidesB y x) = d := ⟨_, rfl⟩
        have HD : Seal _ := ⟨hd⟩
        have CD : Seal _ := ⟨anyHid_any bo c (thinTo xs k) x wr.heap.size _ (rules_read S2.out.two.head) (by omega) S2.out.head⟩
        rw [hd] at CD
        obtain ⟨m, hm⟩ : ∃ m, (thinTo xs k).length = m := ⟨_, rfl⟩
        rw [hm] at hle CD
        have HM : Seal _ := ⟨hm⟩
        rw [hm]
        clear hx hd hm
        go_wp2_with fail
        refine CD.out.mono ?_
        rintro e w2 ⟨rfl, hb2⟩
        have S3 : Seal _ := ⟨S2.out.later hb2⟩
        have K3 := S3.out.head
        have x0 := K3.c 0 _ rfl
        have x1 := K3.c 1 _ rfl
        have x2 := K3.c 2 _ rfl
        have x3 := K3.c 3 _ rfl
        have x4 := K3.c 4 _ rfl
        clear hb2 CD S2 K3 c0 c1 c2 c3 c4 S
        cases d
        · have HT : Seal _ := ⟨thinTo_no HX.out HD.out⟩
          have s4 := S3.out.tail.more (.cells (ruleV x) 41)
          have S4 : Seal (St w (w2.alloc (.cells (ruleV x) 41)) [Res.row 41 5 (.slice bo m c) m (ruleE.all (thinTo xs k) (units1 (thinTo xs k)))]) := ⟨by rw [← HM.out]; exact s4⟩
          have OW : Seal (World.ownsRow _ 0 41 5 (.slice bo m c) m (ruleE.all (thinTo xs k) (units1 (thinTo xs k)))) := ⟨S4.out.head⟩
          clear s4 S3
          go_wp2_with (at_builtin; refine wpList_append_own_at _ rfl _ _ 23 rfl 0 41 i0 (.agg #[.int .i64 0, .string ByteArray.empty, .int .i64 0, .string ByteArray.empty, .string ByteArray.empty]) 5 64 Tryd.underlying23 hi hz0 hz1 hz2 rfl (by decide) _ _ _ rfl OW.out ⟨w2.heap.size, 0, none⟩ 1 1 (ruleL x) rfl rfl ?c1 ?c2 ?c3 ?c4 ?c5 ?_)
          case c1 =>
            intro j u hj
            have := (CellsM.new w2 (ruleV x) 41).c j u hj
            by_cases h0 : j = 0
            · subst h0; simpa [Addr.add] using this
            · simpa [Addr.add, h0] using this
          case c2 => exact rule_one x
          case c3 => unfold maxLen; omega
          case c4 => omega
          case c5 => exact Nat.zero_le _
          intro v' w3 hown hg _ hat
          have s5 := S4.out.app hown hg (by rw [World.size_alloc]; exact hat)
          have S5 : Seal (St w w3 [rulesV v' (thinTo xs (k + 1))]) := ⟨by
            unfold rulesV
            rw [HT.out, rules_snoc, List.length_append, HM.out]
            exact s5⟩
          clear hown hg hat OW S4 s5 x0 x1 x2 x3 x4
          go_wp2
          go_roundw
          case rel => exact ⟨k + 1, by omega, by go_num, S5⟩
          case measure => simp [intOf]; omega
        · have HT : Seal _ := ⟨thinTo_yes HX.out HD.out⟩
          have s4 := S3.out.tail
          have S4 : Seal (St w w2 [rulesV (.slice bo m c) (thinTo xs (k + 1))]) := ⟨by rw [HT.out, ← HM.out]; exact s4⟩
          clear hle S3 s4 x0 x1 x2 x3 x4
          go_wp2
          go_roundw
          case rel => exact ⟨k + 1, by omega, by go_num, S4⟩
          case measure => simp [intOf]; omega
      · obtain rfl : k = xs.length := by omega
        have HQ : Seal (tidyR xs = trimR (thinTo xs xs.length)) := ⟨tidy_good HV.out⟩
        have hle := thinTo_le xs xs.length
        go_wp2
        go_loopw [3] (fun v wr => ∃ (ys : List RuleD), Seal (tidyR xs = trimR ys) ∧ ys.length ≤ 1048576 ∧ Seal (St w wr [rulesV v ys])) (fun v _ => lenV v)
        case atStart => exact ⟨_, HQ, by omega, S⟩
        case round =>
          obtain ⟨ys, HY, hyl, T⟩ := hrel
          clear S HQ hle
          obtain ⟨bo, c, rfl, hc⟩ := rules_value T.out.head
          rcases List.eq_nil_or_concat ys with rfl | ⟨zs, y, hzy⟩
          · have hq : Seal (tidyR xs = []) := ⟨HY.out⟩
            go_wp2
            go_ret
            exact ⟨bo, c, by rw [hq.out]; rfl, by rw [hq.out]; exact T.out⟩
          · rw [List.concat_eq_append] at hzy
            subst hzy
            obtain ⟨k, hk⟩ : ∃ k, zs.length = k := ⟨_, rfl⟩
            have hg : (zs ++ [y])[k]? = some y := by rw [← hk]; simp
            obtain ⟨b, off, rfl, c0, c1, c2, c3, c4⟩ := ruleAt (rules_read T.out.head) hg
            have hlen : (zs ++ [y]).length = k + 1 := by rw [List.length_append, hk]; rfl
            have T2 : Seal _ := ⟨T.out.dropLast⟩
            rw [hlen] at hc hyl
            rw [hlen]
            have HK : Seal _ := ⟨hk⟩
            have w1 : IntKind.i64.wrap (k : Int) = (k : Int) := IntWalk.i64_in _ (by omega)
            have j0 : (0 : Int) < (k : Int) + 1 := by omega
            have j3 : (k : Int) < (k : Int) + 1 := by omega
            have j4 : k < k + 1 := by omega
            have j5 : k ≤ c := by omega
            clear hg hlen hk
            obtain ⟨v, hv⟩ : ∃ v, (y.act == 1) = v := ⟨_, rfl⟩
            cases v
            · have hq : Seal (tidyR xs = zs ++ [y]) := ⟨HY.out.trans (trimR_no hv)⟩
              have T3 : Seal (St w wr [rulesV (.slice (some ⟨b, off, none⟩) (k + 1) c) (zs ++ [y])]) := ⟨by have := T.out; rw [List.length_append, HK.out] at this; exact this⟩
              clear T T2
              go_wp2
              go_ret
              exact ⟨_, c, by rw [hq.out, List.length_append, HK.out]; rfl, by rw [hq.out, List.length_append, HK.out]; exact T3.out⟩
            · have HY2 : Seal (tidyR xs = trimR zs) := ⟨HY.out.trans (trimR_yes hv)⟩
              have T3 : Seal (St w wr [rulesV (.slice (some ⟨b, off, none⟩) k c) zs]) := ⟨by have := T2.out; rw [HK.out] at this; exact this⟩
              clear T T2
              go_wp2
              go_roundw
              case rel => exact ⟨zs, HY2, by rw [HK.out]; omega, T3⟩
              case measure => simp [lenV]
end Go.Proofs.YtgniokkiejoccaaDoor
