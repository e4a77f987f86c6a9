/- TidyFacts, SaRules, SieveTidyS, WSieveTidyFn. -/
import Derived.Test.YtgniokkiejoccaaDoorSieveTidy
import Derived.Test.YtgniokkiejoccaaDoorSieveDos
import Derived.Test.YtgniokkiejoccaaDoorDrawSieveFor
import Derived.Test.YtgniokkiejoccaaDoorRuleOkS
import Derived.BigQuiet
import Derived.Test.YtgniokkiejoccaaDoorSaMail
namespace Go.Proofs.YtgniokkiejoccaaDoor
open Go

/-- No rule is hidden by one ahead. -/
def Thin (ys : List RuleD) : Prop := ys.Pairwise fun y x => hidesB y x = false
theorem thinOne_thin {out : List RuleD} {x : RuleD} (h : Thin out) : Thin (thinOne out x) := by
  unfold thinOne
  split
  · exact h
  · rename_i hn
    refine List.pairwise_append.2 ⟨h, List.pairwise_singleton _ _, fun y hy z hz => ?_⟩
    rw [List.mem_singleton.1 hz]
    rw [List.any_eq_true] at hn
    cases hv : hidesB y x with
    | false => rfl
    | true => exact absurd ⟨y, hy, hv⟩ hn
theorem thin_thin (xs : List RuleD) : ∀ out, Thin out → Thin (xs.foldl thinOne out) := by
  induction xs with
  | nil => exact fun _ h => h
  | cons x xs ih => exact fun out h => ih _ (thinOne_thin h)
theorem thin_same (xs : List RuleD) : ∀ out, Thin (out ++ xs) → xs.foldl thinOne out = out ++ xs := by
  induction xs with
  | nil => intro out _; simp
  | cons x xs ih =>
    intro out h
    have e : thinOne out x = out ++ [x] := thinOne_no (by
      rw [List.any_eq_false]
      intro y hy
      have := (List.pairwise_append.1 h).2.2 y hy x List.mem_cons_self
      rw [this]
      exact Bool.false_ne_true)
    rw [List.foldl_cons, e, ih _ (by rw [List.append_assoc]; exact h), List.append_assoc]
    rfl
theorem thin_mem (xs : List RuleD) : ∀ out y, y ∈ xs.foldl thinOne out → y ∈ out ∨ y ∈ xs := by
  induction xs with
  | nil => exact fun _ _ h => .inl h
  | cons x xs ih =>
    intro out y h
    rcases ih _ _ h with h | h
    · unfold thinOne at h
      split at h
      · exact .inl h
      · rcases List.mem_append.1 h with h | h
        · exact .inl h
        · rw [List.mem_singleton.1 h]; exact .inr List.mem_cons_self
    · exact .inr (List.mem_cons_of_mem _ h)
theorem thin_find (f : RuleD → Bool) (hf : ∀ y x, hidesB y x = true → f x = true → f y = true) (xs : List RuleD) : ∀ out, (xs.foldl thinOne out).find? f = (out ++ xs).find? f := by
  induction xs with
  | nil => intro out; simp
  | cons x xs ih =>
    intro out
    rw [List.foldl_cons, ih]
    unfold thinOne
    split
    · rename_i hh
      obtain ⟨y, hy, hv⟩ := List.any_eq_true.1 hh
      rw [List.find?_append, List.find?_append]
      cases ho : out.find? f with
      | some z => rfl
      | none =>
        have hn := List.find?_eq_none.1 ho y hy
        have hx : f x = false := by
          cases h : f x with
          | false => rfl
          | true => exact absurd (hf y x hv h) hn
        simp [hx]
    · rw [List.append_assoc]; rfl
theorem drop_drop {α : Type} (p : α → Bool) (l : List α) : (l.dropWhile p).dropWhile p = l.dropWhile p := by
  induction l with
  | nil => rfl
  | cons a l ih =>
    by_cases h : p a = true
    · rw [List.dropWhile_cons, if_pos h, ih]
    · rw [List.dropWhile_cons, if_neg h, List.dropWhile_cons, if_neg h]
theorem trim_trim (ys : List RuleD) : trimR (trimR ys) = trimR ys := by
  unfold trimR
  rw [List.reverse_reverse, drop_drop]
theorem trim_split (ys : List RuleD) : ∃ t, ys = trimR ys ++ t ∧ ∀ z ∈ t, z.act = 1 := by
  refine ⟨(ys.reverse.takeWhile (fun y => y.act == 1)).reverse, ?_, fun z hz => ?_⟩
  · unfold trimR
    rw [← List.reverse_append, List.takeWhile_append_dropWhile, List.reverse_reverse]
  · rw [List.mem_reverse] at hz
    have h := List.all_takeWhile (p := fun y : RuleD => y.act == 1) (l := ys.reverse)
    rw [List.all_eq_true] at h
    exact eq_of_beq (h z hz)
theorem tidy_mem {xs : List RuleD} {y : RuleD} (h : y ∈ tidyR xs) : y ∈ xs := by
  unfold tidyR at h
  split at h
  · obtain ⟨t, ht, _⟩ := trim_split (thinR xs)
    have : y ∈ thinR xs := by rw [ht]; exact List.mem_append_left _ h
    rcases thin_mem xs [] y this with h | h
    · cases h
    · exact h
  · cases h
theorem tidy_len (xs : List RuleD) : (tidyR xs).length ≤ xs.length := by
  unfold tidyR
  split
  · have h1 := trim_len (thinR xs)
    have h2 := thin_len xs []
    unfold thinR at *
    simp at h2
    omega
  · exact Nat.zero_le _
theorem tidy_ok {xs : List RuleD} (h : rulesB xs = true) : rulesB (tidyR xs) = true := by
  have h' := h
  unfold rulesB at h' ⊢
  rw [Bool.and_eq_true, decide_eq_true_eq, List.all_eq_true] at h' ⊢
  exact ⟨Nat.le_trans (tidy_len xs) h'.1, fun y hy => h'.2 y (tidy_mem hy)⟩
theorem tidy_tidy {xs : List RuleD} (h : rulesB xs = true) : tidyR (tidyR xs) = tidyR xs := by
  have h1 := tidy_ok h
  have e : tidyR xs = trimR (thinR xs) := by unfold tidyR; rw [if_pos h]
  have ht : Thin (tidyR xs) := by
    rw [e]
    obtain ⟨t, ht, _⟩ := trim_split (thinR xs)
    have h2 : Thin (thinR xs) := thin_thin xs [] List.Pairwise.nil
    rw [ht] at h2
    exact (List.pairwise_append.1 h2).1
  have e2 : thinR (tidyR xs) = tidyR xs := by
    have := thin_same (tidyR xs) [] ht
    simpa [thinR] using this
  rw [show tidyR (tidyR xs) = trimR (thinR (tidyR xs)) by rw [tidyR, if_pos h1], e2, e, trim_trim]
theorem pick_find (f : RuleD → Bool) (xs : List RuleD) : pickR xs (firstR f xs) = (xs.find? f).getD keepR := by
  unfold pickR firstR
  by_cases h : xs.findIdx f < xs.length
  · rw [if_pos h, if_pos (by omega), Int.toNat_natCast, List.getD_eq_getElem?_getD, List.getElem?_eq_getElem h]
    have hi := (List.findIdx_eq (p := f) h).1 rfl
    have e : xs.find? f = some xs[xs.findIdx f] := List.find?_eq_some_iff_getElem.2 ⟨hi.1, _, h, rfl, fun j hj => by rw [hi.2 j hj]; rfl⟩
    rw [e]
  · rw [if_neg h, if_neg (by omega)]
    have : xs.find? f = none := by
      rw [List.find?_eq_none]
      intro x hx
      have e : xs.findIdx f = xs.length := Nat.le_antisymm List.findIdx_le_length (by omega)
      have := List.findIdx_eq_length.1 e x hx
      rw [this]
      exact Bool.false_ne_true
    rw [this]
    rfl
theorem bytes_eq {a b : ByteArray} (h : a.toList = b.toList) : a = b := by
  apply ByteArray.ext
  rw [Lib.toList_data, Lib.toList_data] at h
  exact Array.toList_inj.1 h
theorem hides_asks {u d : ByteArray} {body : List ByteArray} {y x : RuleD} (h : hidesB y x = true) (hx : asksB u d body x = true) : asksB u d body y = true := by
  unfold hidesB at h
  rw [Bool.or_eq_true, Bool.and_eq_true, beq_iff_eq, beq_iff_eq, beq_iff_eq] at h
  rcases h with h | ⟨h1, h2⟩
  · unfold asksB
    rw [h]
    rfl
  · have e := bytes_eq h2
    unfold asksB at hx ⊢
    rw [h1, e]
    exact hx
theorem tidy_does {xs : List RuleD} {m : MailD} (h : rulesB xs = true) : didM (tidyR xs) m = didM xs m ∧ deedB (tidyR xs) m = deedB xs m := by
  have h1 := tidy_ok h
  cases hm : mailB m with
  | false =>
    have a := did_none (xs := xs) (m := m) (by rw [h, hm]; rfl)
    have b := did_none (xs := tidyR xs) (m := m) (by rw [h1, hm]; rfl)
    rw [a.1, a.2, b.1, b.2]
    exact ⟨rfl, rfl⟩
  | true =>
    have e : tidyR xs = trimR (thinR xs) := by unfold tidyR; rw [if_pos h]
    unfold didM deedB
    rw [h, h1, hm, Bool.true_and, if_pos rfl, if_pos rfl, if_pos rfl, if_pos rfl, whichB_yes h hm, whichB_yes h1 hm, pick_find, pick_find]
    obtain ⟨t, ht, hz⟩ := trim_split (thinR xs)
    have hf : (thinR xs).find? (asksB m.fu m.fd m.body) = xs.find? (asksB m.fu m.fd m.body) := by
      have := thin_find (asksB m.fu m.fd m.body) (fun y x h1 h2 => hides_asks h1 h2) xs []
      simpa [thinR] using this
    have hfd : (thinR xs).find? (asksB m.fu m.fd m.body) = (trimR (thinR xs) ++ t).find? (asksB m.fu m.fd m.body) := by rw [← ht]
    rw [← hf, e, hfd]
    clear hfd hf ht
    generalize trimR (thinR xs) = ys
    rw [List.find?_append]
    cases hy : ys.find? (asksB m.fu m.fd m.body) with
    | some y => exact ⟨rfl, rfl⟩
    | none =>
      cases hq : t.find? (asksB m.fu m.fd m.body) with
      | none => exact ⟨rfl, rfl⟩
      | some z =>
        have hz1 := hz z (List.mem_of_find?_eq_some hq)
        show actM keepR m = actM z m ∧ keepR.act = z.act
        refine ⟨?_, hz1.symm⟩
        unfold actM
        rw [hz1]
        rfl
end Go.Proofs.YtgniokkiejoccaaDoor
namespace Go.Proofs.YtgniokkiejoccaaDoor
open Go Go.RowKit

set_option maxHeartbeats 1600000 in
theorem saRulesEq (ao bo : Option Addr) (c1 c2 : Nat) (xs : List RuleD) (w : World) (ha : RuleRow w ao xs) (hb : RuleRow w bo xs) (hl : xs.length ≤ 1048576) :
    Calls Tryd.prog 23 #[.slice ao xs.length c1, .slice bo xs.length c2] w fun e w' => e = .returned (.bool true) ∧ Below w.heap.size w w' := by
  have HA := Lib.hid ha
  have HB := Lib.hid hb
  clear ha hb
  go_enter Tryd.func23, Tryd.ntmps23
  go_wp2
  go_loopw [5] (fun i wr => ∃ k n : Nat, k ≤ xs.length ∧ i = .int .i64 k ∧ wr = w.drewN n) (fun i _ => xs.length - (intOf i).toNat)
  case atStart => exact ⟨0, 0, Nat.zero_le _, rfl, rfl⟩
  case round =>
    obtain ⟨k, n, hk, rfl, rfl⟩ := hrel
    by_cases hlt : k < xs.length
    · obtain ⟨x, hx⟩ : ∃ x, xs[k]? = some x := ⟨_, List.getElem?_eq_getElem hlt⟩
      obtain ⟨b, off, rfl, c0, c1, c2, c3, c4⟩ := ruleAt HA.out hx
      obtain ⟨b', off', rfl, d0, d1, d2, d3, d4⟩ := ruleAt HB.out hx
      have q0 : (x.ask == x.ask) = true := by simp
      have q2 : (x.act == x.act) = true := by simp
      clear hx
      go_wp2
      go_quiet (fail)
      go_wp2
      exact ⟨⟨k + 1, n + nq, by omega, by go_num, rfl⟩, by simp [intOf]; omega⟩
    · go_wp2
      go_ret
      exact ⟨rfl, below_drewN _ w n⟩

set_option maxHeartbeats 1600000 in
theorem drawSieveTidy_any (ao : Option Addr) (len cap : Nat) (w : World) (hr : ByteRow w ao len) (hl : len ≤ cap) (hc : cap ≤ maxLen) :
    Calls Tryd.prog 21 #[.slice ao len cap] w fun e w' => ∃ xs bo d, e = .returned (.slice bo xs.length d) ∧ Rules5 xs ∧ St w w' [rulesR bo d xs] := by
  have C : Seal _ := ⟨l20Open_any ao len cap _ hr hl hc⟩
  clear hr hl hc
  go_enter Tryd.func21, Tryd.ntmps21
  go_wp2_with fail
  refine C.out.mono ?_
  rintro e w1 ⟨b, rfl, h1, b1⟩
  have S1 : Seal _ := ⟨(St.start w).later b1⟩
  have hbl := h1.lt
  have D1 : Seal _ := ⟨Dw.start h1⟩
  clear h1 b1 C
  go_wp2_with fail
  refine (l20Sieve_any _ b 0 w1 D1.out.rd (by omega)).mono ?_
  rintro e w2 ⟨bo, d, xs, rfl, hx, o2, h2, g2⟩
  have S2 : Seal (St w w2 [rulesR bo d xs]) := ⟨S1.out.draws (D1.out.row h2 g2 o2) hbl.1 (fun r hr => by cases hr)⟩
  have HX : Seal _ := ⟨hx⟩
  clear hx o2 h2 g2 D1 S1
  go_wp2
  go_ret
  exact ⟨xs, bo, d, rfl, HX.out, S2.out⟩
end Go.Proofs.YtgniokkiejoccaaDoor
namespace Go.Proofs.YtgniokkiejoccaaDoor
open Go Go.RowKit

theorem hides_split (y x : RuleD) : hidesB y x = ((y.ask == 4) || ((y.ask == x.ask) && (y.txt.toList == x.txt.toList))) := rfl
set_option maxHeartbeats 16000000 in
set_option maxRecDepth 100000 in
theorem specSieveTidy_any (ao : Option Addr) (cap : Nat) (xs : List RuleD) (w : World) (hr : RuleRow w ao xs) (hl : xs.length ≤ 1048576) (hz : ∀ x ∈ xs, ruleN x ≤ 1048576) :
    Calls Tryd.prog 24 #[.slice ao xs.length cap] w (TidyPost xs w) := by
  obtain ⟨i0, hi, hz0, hz1, hz2⟩ := info_parts infoRule
  have HR : Seal _ := ⟨hr⟩
  have S0 : Seal _ := ⟨(St.start w).made 41 5 #[] 0 (by unfold maxLen; omega) rfl⟩
  have C : Seal _ := ⟨l13Ok_any ao cap xs _ (hr.below ruleP_stays S0.out.below (Nat.le_refl _)) hl hz⟩
  obtain ⟨v, hv⟩ : ∃ v, rulesB xs = v := ⟨_, rfl⟩
  have HV : Seal _ := ⟨hv⟩
  rw [hv] at C
  clear hr hz hv
  go_enter Tryd.func24, Tryd.ntmps24
  go_wp2_with fail
  refine C.out.mono ?_
  rintro e w1 ⟨rfl, hb1⟩
  have S1 : Seal _ := ⟨S0.out.later hb1⟩
  clear hb1 C S0
  cases v
  · have hq : Seal (tidyR xs = []) := ⟨tidy_bad HV.out⟩
    go_wp2
    go_ret
    exact ⟨_, 0, by rw [hq.out]; rfl, by rw [hq.out]; exact S1.out⟩
  · go_wp2
    go_loopw [3, 4] (fun v i wr => ∃ (k : Nat), k ≤ xs.length ∧ i = .int .i64 k ∧ Seal (St w wr [rulesV v (thinTo xs k)])) (fun _ i _ => xs.length - (intOf i).toNat)
    case atStart => exact ⟨0, Nat.zero_le _, rfl, S1⟩
    case round =>
      obtain ⟨k, hk, rfl, S⟩ := hrel
      clear S1
      obtain ⟨bo, c, rfl, _⟩ := rules_value S.out.head
      by_cases hlt : k < xs.length
      · obtain ⟨x, hx⟩ : ∃ x, xs[k]? = some x := ⟨_, List.getElem?_eq_getElem hlt⟩
        obtain ⟨b, off, rfl, _⟩ := ruleAt HR.out hx
        have HX : Seal _ := ⟨hx⟩
        have hle := thinTo_le xs k
        obtain ⟨m, hm⟩ : ∃ m, (thinTo xs k).length = m := ⟨_, rfl⟩
        rw [hm] at hle
        have HM : Seal _ := ⟨hm⟩
        have SM : Seal (St w wr [Res.row 41 5 (.slice bo m c) m (ruleE.all (thinTo xs k) (units1 (thinTo xs k)))]) := ⟨by rw [← HM.out]; exact S.out⟩
        rw [hm]
        clear hx hm S
        go_wp2
        go_loopw [5, 6] (fun t i wr => ∃ (n : Nat) (d : Bool), n ≤ m ∧ i = .int .i64 n ∧ t = .bool d ∧ Seal (((thinTo xs k).take n).any (fun y => hidesB y x) = d) ∧ Seal (St w wr [Res.row 41 5 (.slice bo m c) m (ruleE.all (thinTo xs k) (units1 (thinTo xs k)))])) (fun _ i _ => m - (intOf i).toNat)
        case atStart => exact ⟨0, false, Nat.zero_le _, rfl, rfl, ⟨by simp⟩, SM⟩
        case round =>
          obtain ⟨n, d, hn, rfl, rfl, HD, S⟩ := hrel
          clear SM
          obtain ⟨b1, off1, e1, c0, c1, c2, c3, c4⟩ := ruleAt (HR.out.below ruleP_stays S.out.below (Nat.le_refl _)) HX.out
          cases e1
          by_cases hn2 : n < m
          · obtain ⟨y, hy⟩ : ∃ y, (thinTo xs k)[n]? = some y := ⟨_, List.getElem?_eq_getElem (by rw [HM.out]; exact hn2)⟩
            have hrow : RuleRow wr bo (thinTo xs k) := rules_read (cap := c) (by have q := S.out.head; rw [← HM.out] at q; exact q)
            obtain ⟨b2, off2, rfl, d0, d1, d2, d3, d4⟩ := ruleAt hrow hy
            have HN : Seal (∀ v, (d || hidesB y x) = v → ((thinTo xs k).take (n + 1)).any (fun y => hidesB y x) = v) := ⟨fun v hv => by rw [take_one hy, List.any_append, HD.out, ← hv]; simp⟩
            clear hy hrow HD
            obtain ⟨v1, q1⟩ : ∃ v, (y.ask == 4) = v := ⟨_, rfl⟩
            obtain ⟨v2, q2⟩ : ∃ v, (y.ask == x.ask) = v := ⟨_, rfl⟩
            obtain ⟨v3, q3⟩ : ∃ v, (y.txt.toList == x.txt.toList) = v := ⟨_, rfl⟩
            have HQ : Seal (hidesB y x = (v1 || (v2 && v3))) := ⟨by rw [hides_split, q1, q2, q3]⟩
            cases d
            · cases v1
              · cases v2
                · have HD2 : Seal (((thinTo xs k).take (n + 1)).any (fun y => hidesB y x) = false) := ⟨HN.out _ (by rw [HQ.out]; rfl)⟩
                  clear HN HQ
                  go_wp2_with fail
                  go_quiet (fail)
                  have S2 : Seal _ := ⟨S.out.later (below_drewN _ wr nq)⟩
                  go_wp2
                  go_roundw
                  case rel => exact ⟨n + 1, false, by omega, by go_num, rfl, HD2, S2⟩
                  case measure => simp [intOf]; omega
                · cases v3
                  · have HD2 : Seal (((thinTo xs k).take (n + 1)).any (fun y => hidesB y x) = false) := ⟨HN.out _ (by rw [HQ.out]; rfl)⟩
                    clear HN HQ
                    go_wp2_with fail
                    go_quiet (fail)
                    have S2 : Seal _ := ⟨S.out.later (below_drewN _ wr nq)⟩
                    go_wp2
                    go_roundw
                    case rel => exact ⟨n + 1, false, by omega, by go_num, rfl, HD2, S2⟩
                    case measure => simp [intOf]; omega
                  · have HD2 : Seal (((thinTo xs k).take (n + 1)).any (fun y => hidesB y x) = true) := ⟨HN.out _ (by rw [HQ.out]; rfl)⟩
                    clear HN HQ
                    go_wp2_with fail
                    go_quiet (fail)
                    have S2 : Seal _ := ⟨S.out.later (below_drewN _ wr nq)⟩
                    go_wp2
                    go_roundw
                    case rel => exact ⟨n + 1, true, by omega, by go_num, rfl, HD2, S2⟩
                    case measure => simp [intOf]; omega
              · have HD2 : Seal (((thinTo xs k).take (n + 1)).any (fun y => hidesB y x) = true) := ⟨HN.out _ (by rw [HQ.out]; rfl)⟩
                clear HN HQ
                go_wp2_with fail
                go_quiet (fail)
                have S2 : Seal _ := ⟨S.out.later (below_drewN _ wr nq)⟩
                go_wp2
                go_roundw
                case rel => exact ⟨n + 1, true, by omega, by go_num, rfl, HD2, S2⟩
                case measure => simp [intOf]; omega
            · have HD2 : Seal (((thinTo xs k).take (n + 1)).any (fun y => hidesB y x) = true) := ⟨HN.out _ (by rw [HQ.out]; rfl)⟩
              clear HN HQ
              go_wp2_with fail
              go_quiet (fail)
              have S2 : Seal _ := ⟨S.out.later (below_drewN _ wr nq)⟩
              go_wp2
              go_roundw
              case rel => exact ⟨n + 1, true, by omega, by go_num, rfl, HD2, S2⟩
              case measure => simp [intOf]; omega
          · obtain rfl : n = m := by omega
            have HA : Seal ((thinTo xs k).any (fun y => hidesB y x) = d) := ⟨by
              have := HD.out
              rw [List.take_of_length_le (by rw [HM.out]; omega)] at this
              exact this⟩
            clear HD
            cases d
            · have HT : Seal _ := ⟨thinTo_no HX.out HA.out⟩
              have s4 := S.out.more (.cells (ruleV x) 41)
              have S4 : Seal (St w (wr.alloc (.cells (ruleV x) 41)) [Res.row 41 5 (.slice bo n c) n (ruleE.all (thinTo xs k) (units1 (thinTo xs k)))]) := ⟨s4⟩
              have OW : Seal (World.ownsRow _ 0 41 5 (.slice bo n c) n (ruleE.all (thinTo xs k) (units1 (thinTo xs k)))) := ⟨S4.out.head⟩
              clear s4 S
              go_wp2_with (at_builtin; refine wpList_append_own_at _ rfl _ _ 23 rfl 0 41 i0 (.agg #[.int .i64 0, .string ByteArray.empty, .int .i64 0, .string ByteArray.empty, .string ByteArray.empty]) 5 64 Tryd.underlying23 hi hz0 hz1 hz2 rfl (by decide) _ _ _ rfl OW.out ⟨wr.heap.size, 0, none⟩ 1 1 (ruleL x) rfl rfl ?c1 ?c2 ?c3 ?c4 ?c5 ?_)
              case c1 =>
                intro j u hj
                have := (CellsM.new wr (ruleV x) 41).c j u hj
                by_cases h0 : j = 0
                · subst h0; simpa [Addr.add] using this
                · simpa [Addr.add, h0] using this
              case c2 => exact rule_one x
              case c3 => unfold maxLen; omega
              case c4 => omega
              case c5 => exact Nat.zero_le _
              intro v' w3 hown hg _ hat
              have s5 := S4.out.app hown hg (by rw [World.size_alloc]; exact hat)
              have S5 : Seal (St w w3 [rulesV v' (thinTo xs (k + 1))]) := ⟨by
                unfold rulesV
                rw [HT.out, rules_snoc, List.length_append, HM.out]
                exact s5⟩
              clear hown hg hat OW S4 s5
              go_wp2
              go_roundw
              case rel => exact ⟨k + 1, by omega, by go_num, S5⟩
              case measure => simp [intOf]; omega
            · have HT : Seal _ := ⟨thinTo_yes HX.out HA.out⟩
              have S4 : Seal (St w wr [rulesV (.slice bo n c) (thinTo xs (k + 1))]) := ⟨by rw [HT.out, ← HM.out]; have := S.out; rw [← HM.out] at this; exact this⟩
              clear hle S
              go_wp2
              go_roundw
              case rel => exact ⟨k + 1, by omega, by go_num, S4⟩
              case measure => simp [intOf]; omega
      · obtain rfl : k = xs.length := by omega
        have HQ : Seal (tidyR xs = trimR (thinTo xs xs.length)) := ⟨tidy_good HV.out⟩
        have hle := thinTo_le xs xs.length
        go_wp2
        go_loopw [3] (fun v wr => ∃ (ys : List RuleD), Seal (tidyR xs = trimR ys) ∧ ys.length ≤ 1048576 ∧ Seal (St w wr [rulesV v ys])) (fun v _ => lenV v)
        case atStart => exact ⟨_, HQ, by omega, S⟩
        case round =>
          obtain ⟨ys, HY, hyl, T⟩ := hrel
          clear S HQ hle
          obtain ⟨bo, c, rfl, hc⟩ := rules_value T.out.head
          rcases List.eq_nil_or_concat ys with rfl | ⟨zs, y, hzy⟩
          · have hq : Seal (tidyR xs = []) := ⟨HY.out⟩
            go_wp2
            go_ret
            exact ⟨bo, c, by rw [hq.out]; rfl, by rw [hq.out]; exact T.out⟩
          · rw [List.concat_eq_append] at hzy
            subst hzy
            obtain ⟨k, hk⟩ : ∃ k, zs.length = k := ⟨_, rfl⟩
            have hg : (zs ++ [y])[k]? = some y := by rw [← hk]; simp
            obtain ⟨b, off, rfl, c0, c1, c2, c3, c4⟩ := ruleAt (rules_read T.out.head) hg
            have hlen : (zs ++ [y]).length = k + 1 := by rw [List.length_append, hk]; rfl
            have T2 : Seal _ := ⟨T.out.dropLast⟩
            rw [hlen] at hc hyl
            rw [hlen]
            have HK : Seal _ := ⟨hk⟩
            have w1 : IntKind.i64.wrap (k : Int) = (k : Int) := IntWalk.i64_in _ (by omega)
            have j0 : (0 : Int) < (k : Int) + 1 := by omega
            have j3 : (k : Int) < (k : Int) + 1 := by omega
            have j4 : k < k + 1 := by omega
            have j5 : k ≤ c := by omega
            clear hg hlen hk
            obtain ⟨v, hv⟩ : ∃ v, (y.act == 1) = v := ⟨_, rfl⟩
            cases v
            · have hq : Seal (tidyR xs = zs ++ [y]) := ⟨HY.out.trans (trimR_no hv)⟩
              have T3 : Seal (St w wr [rulesV (.slice (some ⟨b, off, none⟩) (k + 1) c) (zs ++ [y])]) := ⟨by have := T.out; rw [List.length_append, HK.out] at this; exact this⟩
              clear T T2
              go_wp2
              go_ret
              exact ⟨_, c, by rw [hq.out, List.length_append, HK.out]; rfl, by rw [hq.out, List.length_append, HK.out]; exact T3.out⟩
            · have HY2 : Seal (tidyR xs = trimR zs) := ⟨HY.out.trans (trimR_yes hv)⟩
              have T3 : Seal (St w wr [rulesV (.slice (some ⟨b, off, none⟩) k c) zs]) := ⟨by have := T2.out; rw [HK.out] at this; exact this⟩
              clear T T2
              go_wp2
              go_roundw
              case rel => exact ⟨zs, HY2, by rw [HK.out]; omega, T3⟩
              case measure => simp [lenV]
end Go.Proofs.YtgniokkiejoccaaDoor
namespace Go.Proofs.YtgniokkiejoccaaDoor
open Go Go.RowKit

set_option maxHeartbeats 12800000 in
set_option maxRecDepth 100000 in
theorem wFnSieveTidy.walk (ao : Option Addr) (len cap : Nat) (ao2 : Option Addr) (len2 cap2 : Nat) (w : World) (hr : ByteRow w ao len) (hl : len ≤ cap) (hc : cap ≤ maxLen) (hr2 : ByteRow w ao2 len2) (hl2 : len2 ≤ cap2) (hc2 : cap2 ≤ maxLen) (hm : HasMax w) :
    Calls Tryd.prog 5 #[.slice ao len cap, .slice ao2 len2 cap2] w fun e w' => e = .returned (.bool true) ∧ Below w.heap.size w w' := by
  have hc' := hc
  unfold maxLen at hc'
  have hc2' := hc2
  unfold maxLen at hc2'
  by_cases hbig : 1048576 < len
  · clear hr hr2 hm
    go_enter Tryd.func5, Tryd.ntmps5
    go_wp2
    go_ret
    exact ⟨rfl, Below.refl _ _⟩
  by_cases hbig2 : 1048576 < len2
  · clear hr hr2 hm
    go_enter Tryd.func5, Tryd.ntmps5
    go_wp2
    go_ret
    exact ⟨rfl, Below.refl _ _⟩
  have CD : Seal _ := ⟨drawSieveTidy_any ao len cap w hr hl hc⟩
  have CE : Seal (∀ W, Below w.heap.size w W → Calls Tryd.prog 9 #[.slice ao2 len2 cap2] W fun e w' => ∃ xs bo d m a1 c1 a2 c2, e = .returned (.tuple #[.slice bo xs.length d, .agg (mailV m a1 c1 a2 c2)]) ∧ Rules5 xs ∧ Drawn m ∧ St W w' [Res.mail m a1 c1 a2 c2, rulesR bo d xs]) := ⟨fun W h => drawSieveFor_any ao2 len2 cap2 W (hr2.below h (Nat.le_refl _)) hl2 hc2⟩
  have HM : Seal (HasMax w) := ⟨hm⟩
  clear hr hc hm hr2 hc2
  go_enter Tryd.func5, Tryd.ntmps5
  go_wp2_with fail
  refine CD.out.mono ?_
  rintro e w1 ⟨xs, bo, d, rfl, hx, s1⟩
  have z1 : xs.length ≤ 5 := hx.1
  have HZ : Seal (∀ x ∈ xs, ruleN x ≤ 1048576) := ⟨fun x h => Nat.le_trans (hx.2 x h) (by omega)⟩
  obtain ⟨F, hF⟩ : ∃ F, tidyR xs = F := ⟨_, rfl⟩
  have HF : Seal _ := ⟨hF⟩
  have z2 : F.length ≤ xs.length := by rw [← hF]; exact tidy_len xs
  have HZF : Seal (∀ x ∈ F, ruleN x ≤ 1048576) := ⟨fun x h => HZ.out x (tidy_mem (by rw [hF]; exact h))⟩
  have S1 : Seal (St w w1 [rulesR bo d xs]) := ⟨s1⟩
  have CT : Seal (∀ W, HasMax W → (rulesR bo d xs).P W → Calls Tryd.prog 22 #[.slice bo xs.length d] W fun e w' => ∃ b c, e = .returned (.slice b F.length c) ∧ St W w' [rulesR b c F]) := ⟨fun W h0 h1 => by rw [← HF.out]; exact implSieveTidy_any bo d xs W h0 (rules_read h1) (by omega) HZ.out⟩
  have CS : Seal (∀ W, (rulesR bo d xs).P W → Calls Tryd.prog 24 #[.slice bo xs.length d] W fun e w' => ∃ b c, e = .returned (.slice b F.length c) ∧ St W w' [rulesR b c F]) := ⟨fun W h1 => by rw [← HF.out]; exact specSieveTidy_any bo d xs W (rules_read h1) (by omega) HZ.out⟩
  obtain ⟨v, hv⟩ : ∃ v, rulesB xs = v := ⟨_, rfl⟩
  have HV : Seal _ := ⟨hv⟩
  have CO : Seal (∀ W, HasMax W → (rulesR bo d xs).P W → Calls Tryd.prog 12 #[.slice bo xs.length d] W fun e w' => e = .returned (.bool v) ∧ Below W.heap.size W w') := ⟨fun W h0 h1 => HV.out ▸ implSieveOk_any bo d xs W h0 (rules_read h1) (by omega) HZ.out⟩
  clear CD hx s1 hF hv
  go_wp2_with fail
  refine (CT.out _ (HM.out.below S1.out.below (Nat.le_refl _)) (S1.out.get (r := rulesR bo d xs) (by simp))).mono ?_
  rintro e w2 ⟨fb, fc, rfl, hk⟩
  have S2 : Seal (St w _ [rulesR fb fc F, rulesR bo d xs]) := ⟨S1.out.join hk⟩
  clear hk S1
  go_wp2_with fail
  refine (CE.out _ S2.out.below).mono ?_
  rintro e w3 ⟨ys, yb, yd, m, a1, c1, a2, c2, rfl, _, hd, hk⟩
  have HMZ : Seal (MailSz 1048576 m) := ⟨hd.sz.mono (by omega)⟩
  have y3 := HMZ.out.rcl
  have y4 := HMZ.out.bol
  clear hd
  have S3 : Seal (St w _ [Res.mail m a1 c1 a2 c2, rulesR yb yd ys, rulesR fb fc F, rulesR bo d xs]) := ⟨S2.out.join hk⟩
  clear hk S2
  have S4 : Seal (St w _ [Res.cells w3.heap.size [.string m.fu, .string m.fd, .slice a1 m.rc.length c1, .slice a2 m.body.length c2], Res.mail m a1 c1 a2 c2, rulesR yb yd ys, rulesR fb fc F, rulesR bo d xs]) := ⟨S3.out.alloc (mailV m a1 c1 a2 c2) 29⟩
  clear S3
  go_wp2_with fail
  refine (CS.out _ (S4.out.get (r := rulesR bo d xs) (by simp))).mono ?_
  rintro e w4 ⟨gb, gc, rfl, hk⟩
  have S5 : Seal (St w _ [rulesR gb gc F, Res.cells w3.heap.size [.string m.fu, .string m.fd, .slice a1 m.rc.length c1, .slice a2 m.body.length c2], Res.mail m a1 c1 a2 c2, rulesR yb yd ys, rulesR fb fc F, rulesR bo d xs]) := ⟨S4.out.join hk⟩
  clear hk S4
  go_wp2_with fail
  refine (saRulesEq fb gb fc gc F _ (rules_read (S5.out.get (r := rulesR fb fc F) (by simp))) (rules_read (S5.out.get (r := rulesR gb gc F) (by simp))) (by omega)).mono ?_
  rintro e w9 ⟨rfl, hb⟩
  have S6 : Seal (St w _ [rulesR gb gc F, Res.cells w3.heap.size [.string m.fu, .string m.fd, .slice a1 m.rc.length c1, .slice a2 m.body.length c2], Res.mail m a1 c1 a2 c2, rulesR yb yd ys, rulesR fb fc F, rulesR bo d xs]) := ⟨S5.out.later hb⟩
  clear hb S5
  go_wp2_with fail
  refine (CO.out _ (HM.out.below S6.out.below (Nat.le_refl _)) (S6.out.get (r := rulesR bo d xs) (by simp))).mono ?_
  rintro e w5 ⟨rfl, hb⟩
  have S7 : Seal (St w _ [rulesR gb gc F, Res.cells w3.heap.size [.string m.fu, .string m.fd, .slice a1 m.rc.length c1, .slice a2 m.body.length c2], Res.mail m a1 c1 a2 c2, rulesR yb yd ys, rulesR fb fc F, rulesR bo d xs]) := ⟨S6.out.later hb⟩
  clear hb S6
  cases v
  · skip
    go_wp2_with fail
    refine (CS.out _ (S7.out.get (r := rulesR bo d xs) (by simp))).mono ?_
    rintro e w6 ⟨hb1, hc1, rfl, hk⟩
    have S8 : Seal (St w _ [rulesR hb1 hc1 F, rulesR gb gc F, Res.cells w3.heap.size [.string m.fu, .string m.fd, .slice a1 m.rc.length c1, .slice a2 m.body.length c2], Res.mail m a1 c1 a2 c2, rulesR yb yd ys, rulesR fb fc F, rulesR bo d xs]) := ⟨S7.out.join hk⟩
    clear hk S7
    go_wp2_with fail
    refine (saRulesEq fb hb1 fc hc1 F _ (rules_read (S8.out.get (r := rulesR fb fc F) (by simp))) (rules_read (S8.out.get (r := rulesR hb1 hc1 F) (by simp))) (by omega)).mono ?_
    rintro e w9 ⟨rfl, hb⟩
    have S9 : Seal (St w _ [rulesR hb1 hc1 F, rulesR gb gc F, Res.cells w3.heap.size [.string m.fu, .string m.fd, .slice a1 m.rc.length c1, .slice a2 m.body.length c2], Res.mail m a1 c1 a2 c2, rulesR yb yd ys, rulesR fb fc F, rulesR bo d xs]) := ⟨S8.out.later hb⟩
    clear hb S8
    go_wp2
    go_ret
    exact ⟨rfl, S9.out.below⟩
  have HTF : Seal (tidyR F = F) := ⟨by rw [← HF.out]; exact tidy_tidy HV.out⟩
  have HOF : Seal (rulesB F = true) := ⟨by rw [← HF.out]; exact tidy_ok HV.out⟩
  obtain ⟨D, hD⟩ : ∃ D, didM xs m = D := ⟨_, rfl⟩
  obtain ⟨q, hq⟩ : ∃ q, deedB xs m = q := ⟨_, rfl⟩
  have HD : Seal _ := ⟨hD⟩
  have HQ : Seal _ := ⟨hq⟩
  have HD2 : Seal (didM F m = D) := ⟨by rw [← HF.out, ← hD]; exact (tidy_does HV.out).1⟩
  have HQ2 : Seal (deedB F m = q) := ⟨by rw [← HF.out, ← hq]; exact (tidy_does HV.out).2⟩
  have DZ : Seal (MailSz 1048576 D) := ⟨by
    rw [← hD]
    have hn : MailSz 1048576 noM := ⟨by decide, by decide, by decide, fun p hp => (by cases hp), by decide, fun p hp => (by cases hp)⟩
    cases h1 : rulesB xs && mailB m with
    | false => rw [(did_none h1).1]; exact hn
    | true =>
      rw [Bool.and_eq_true] at h1
      rcases which_cases h1.1 h1.2 with ⟨_, h3, _⟩ | ⟨k, x, _, hx, _, h3, _⟩
      · rw [h3]; exact HMZ.out
      · rw [h3]; unfold actM
        split
        · exact hn
        · split
          · exact sent_sz HMZ.out (HZ.out x (List.mem_of_getElem? hx))
          · exact HMZ.out⟩
  have y5 := DZ.out.rcl
  have y6 := DZ.out.bol
  clear hD hq
  have C1 : Seal (∀ W, HasMax W → (rulesR bo d xs).P W → (Res.mail m a1 c1 a2 c2).P W → Calls Tryd.prog 16 #[.slice bo xs.length d, .agg (mailV m a1 c1 a2 c2)] W fun e w' => ∃ b1 d1 b2 d2, e = .returned (.tuple #[.agg (mailV D b1 d1 b2 d2), .int .i64 q]) ∧ MailOwn w' W.heap.size D b1 d1 b2 d2 ∧ Below W.heap.size W w') := ⟨fun W h0 h1 h2 => by rw [← HD.out, ← HQ.out]; exact implSieveDo_any bo d xs 0 m a1 c1 a2 c2 W h0 (rules_read h1) (by omega) HZ.out h2 HMZ.out⟩
  have C2 : Seal (∀ W, HasMax W → (rulesR fb fc F).P W → (Res.mail m a1 c1 a2 c2).P W → Calls Tryd.prog 16 #[.slice fb F.length fc, .agg (mailV m a1 c1 a2 c2)] W fun e w' => ∃ b1 d1 b2 d2, e = .returned (.tuple #[.agg (mailV D b1 d1 b2 d2), .int .i64 q]) ∧ MailOwn w' W.heap.size D b1 d1 b2 d2 ∧ Below W.heap.size W w') := ⟨fun W h0 h1 h2 => by rw [← HD2.out, ← HQ2.out]; exact implSieveDo_any fb fc F 0 m a1 c1 a2 c2 W h0 (rules_read h1) (by omega) HZF.out h2 HMZ.out⟩
  have CTF : Seal (∀ W, HasMax W → (rulesR fb fc F).P W → Calls Tryd.prog 22 #[.slice fb F.length fc] W fun e w' => ∃ b c, e = .returned (.slice b F.length c) ∧ St W w' [rulesR b c F]) := ⟨fun W h0 h1 => by have h := implSieveTidy_any fb fc F W h0 (rules_read h1) (by omega) HZF.out; unfold TidyPost at h; rw [HTF.out] at h; exact h⟩
  have COF : Seal (∀ W, HasMax W → (rulesR fb fc F).P W → Calls Tryd.prog 12 #[.slice fb F.length fc] W fun e w' => e = .returned (.bool true) ∧ Below W.heap.size W w') := ⟨fun W h0 h1 => HOF.out ▸ implSieveOk_any fb fc F W h0 (rules_read h1) (by omega) HZF.out⟩
  have g0 := (S7.out.get (r := Res.cells w3.heap.size [.string m.fu, .string m.fd, .slice a1 m.rc.length c1, .slice a2 m.body.length c2]) (by simp)).c 0 _ rfl
  have g1 := (S7.out.get (r := Res.cells w3.heap.size [.string m.fu, .string m.fd, .slice a1 m.rc.length c1, .slice a2 m.body.length c2]) (by simp)).c 1 _ rfl
  have g2 := (S7.out.get (r := Res.cells w3.heap.size [.string m.fu, .string m.fd, .slice a1 m.rc.length c1, .slice a2 m.body.length c2]) (by simp)).c 2 _ rfl
  have g3 := (S7.out.get (r := Res.cells w3.heap.size [.string m.fu, .string m.fd, .slice a1 m.rc.length c1, .slice a2 m.body.length c2]) (by simp)).c 3 _ rfl
  have gl := (S7.out.get (r := Res.cells w3.heap.size [.string m.fu, .string m.fd, .slice a1 m.rc.length c1, .slice a2 m.body.length c2]) (by simp)).lt
  go_wp2_with fail
  refine (C1.out _ (HM.out.below S7.out.below (Nat.le_refl _)) (S7.out.get (r := rulesR bo d xs) (by simp)) (S7.out.get (r := Res.mail m a1 c1 a2 c2) (by simp))).mono ?_
  rintro e w6 ⟨b1, d1, b2, d2, rfl, oq, hq9⟩
  have S8 : Seal (St w _ [Res.cells w6.heap.size [.string D.fu, .string D.fd, .slice b1 D.rc.length d1, .slice b2 D.body.length d2], Res.mail D b1 d1 b2 d2, rulesR gb gc F, Res.cells w3.heap.size [.string m.fu, .string m.fd, .slice a1 m.rc.length c1, .slice a2 m.body.length c2], Res.mail m a1 c1 a2 c2, rulesR yb yd ys, rulesR fb fc F, rulesR bo d xs]) := ⟨(S7.out.mail hq9 oq).alloc (mailV D b1 d1 b2 d2) 29⟩
  clear oq hq9 S7 g0 g1 g2 g3 gl
  have g0 := (S8.out.get (r := Res.cells w3.heap.size [.string m.fu, .string m.fd, .slice a1 m.rc.length c1, .slice a2 m.body.length c2]) (by simp)).c 0 _ rfl
  have g1 := (S8.out.get (r := Res.cells w3.heap.size [.string m.fu, .string m.fd, .slice a1 m.rc.length c1, .slice a2 m.body.length c2]) (by simp)).c 1 _ rfl
  have g2 := (S8.out.get (r := Res.cells w3.heap.size [.string m.fu, .string m.fd, .slice a1 m.rc.length c1, .slice a2 m.body.length c2]) (by simp)).c 2 _ rfl
  have g3 := (S8.out.get (r := Res.cells w3.heap.size [.string m.fu, .string m.fd, .slice a1 m.rc.length c1, .slice a2 m.body.length c2]) (by simp)).c 3 _ rfl
  have gl := (S8.out.get (r := Res.cells w3.heap.size [.string m.fu, .string m.fd, .slice a1 m.rc.length c1, .slice a2 m.body.length c2]) (by simp)).lt
  go_wp2_with fail
  refine (C2.out _ (HM.out.below S8.out.below (Nat.le_refl _)) (S8.out.get (r := rulesR fb fc F) (by simp)) (S8.out.get (r := Res.mail m a1 c1 a2 c2) (by simp))).mono ?_
  rintro e w7 ⟨p1, k1, p2, k2, rfl, oq, hq9⟩
  have S9 : Seal (St w _ [Res.cells w7.heap.size [.string D.fu, .string D.fd, .slice p1 D.rc.length k1, .slice p2 D.body.length k2], Res.mail D p1 k1 p2 k2, Res.cells w6.heap.size [.string D.fu, .string D.fd, .slice b1 D.rc.length d1, .slice b2 D.body.length d2], Res.mail D b1 d1 b2 d2, rulesR gb gc F, Res.cells w3.heap.size [.string m.fu, .string m.fd, .slice a1 m.rc.length c1, .slice a2 m.body.length c2], Res.mail m a1 c1 a2 c2, rulesR yb yd ys, rulesR fb fc F, rulesR bo d xs]) := ⟨(S8.out.mail hq9 oq).alloc (mailV D p1 k1 p2 k2) 29⟩
  clear oq hq9 S8 g0 g1 g2 g3 gl
  have e2 : (q == q) = true := by simp
  have e3 : decide ((F.length : Int) ≤ (xs.length : Int)) = true := by rw [decide_eq_true_eq]; omega
  have e4 : decide (F.length ≤ xs.length) = true := by rw [decide_eq_true_eq]; omega
  go_wp2_with fail
  refine (COF.out _ (HM.out.below S9.out.below (Nat.le_refl _)) (S9.out.get (r := rulesR fb fc F) (by simp))).mono ?_
  rintro e w8 ⟨rfl, hb⟩
  have S10 : Seal (St w _ [Res.cells w7.heap.size [.string D.fu, .string D.fd, .slice p1 D.rc.length k1, .slice p2 D.body.length k2], Res.mail D p1 k1 p2 k2, Res.cells w6.heap.size [.string D.fu, .string D.fd, .slice b1 D.rc.length d1, .slice b2 D.body.length d2], Res.mail D b1 d1 b2 d2, rulesR gb gc F, Res.cells w3.heap.size [.string m.fu, .string m.fd, .slice a1 m.rc.length c1, .slice a2 m.body.length c2], Res.mail m a1 c1 a2 c2, rulesR yb yd ys, rulesR fb fc F, rulesR bo d xs]) := ⟨S9.out.later hb⟩
  clear hb S9
  go_wp2_with fail
  refine (CTF.out _ (HM.out.below S10.out.below (Nat.le_refl _)) (S10.out.get (r := rulesR fb fc F) (by simp))).mono ?_
  rintro e w8 ⟨ib, ic, rfl, hk⟩
  have S11 : Seal (St w _ [rulesR ib ic F, Res.cells w7.heap.size [.string D.fu, .string D.fd, .slice p1 D.rc.length k1, .slice p2 D.body.length k2], Res.mail D p1 k1 p2 k2, Res.cells w6.heap.size [.string D.fu, .string D.fd, .slice b1 D.rc.length d1, .slice b2 D.body.length d2], Res.mail D b1 d1 b2 d2, rulesR gb gc F, Res.cells w3.heap.size [.string m.fu, .string m.fd, .slice a1 m.rc.length c1, .slice a2 m.body.length c2], Res.mail m a1 c1 a2 c2, rulesR yb yd ys, rulesR fb fc F, rulesR bo d xs]) := ⟨S10.out.join hk⟩
  clear hk S10
  go_wp2_with fail
  refine (saRulesEq ib fb ic fc F _ (rules_read (S11.out.get (r := rulesR ib ic F) (by simp))) (rules_read (S11.out.get (r := rulesR fb fc F) (by simp))) (by omega)).mono ?_
  rintro e w9 ⟨rfl, hb⟩
  have S12 : Seal (St w _ [rulesR ib ic F, Res.cells w7.heap.size [.string D.fu, .string D.fd, .slice p1 D.rc.length k1, .slice p2 D.body.length k2], Res.mail D p1 k1 p2 k2, Res.cells w6.heap.size [.string D.fu, .string D.fd, .slice b1 D.rc.length d1, .slice b2 D.body.length d2], Res.mail D b1 d1 b2 d2, rulesR gb gc F, Res.cells w3.heap.size [.string m.fu, .string m.fd, .slice a1 m.rc.length c1, .slice a2 m.body.length c2], Res.mail m a1 c1 a2 c2, rulesR yb yd ys, rulesR fb fc F, rulesR bo d xs]) := ⟨S11.out.later hb⟩
  clear hb S11
  have x0 := (S12.out.get (r := Res.cells w6.heap.size [.string D.fu, .string D.fd, .slice b1 D.rc.length d1, .slice b2 D.body.length d2]) (by simp)).c 0 _ rfl
  have x1 := (S12.out.get (r := Res.cells w6.heap.size [.string D.fu, .string D.fd, .slice b1 D.rc.length d1, .slice b2 D.body.length d2]) (by simp)).c 1 _ rfl
  have x2 := (S12.out.get (r := Res.cells w6.heap.size [.string D.fu, .string D.fd, .slice b1 D.rc.length d1, .slice b2 D.body.length d2]) (by simp)).c 2 _ rfl
  have x3 := (S12.out.get (r := Res.cells w6.heap.size [.string D.fu, .string D.fd, .slice b1 D.rc.length d1, .slice b2 D.body.length d2]) (by simp)).c 3 _ rfl
  have xl := (S12.out.get (r := Res.cells w6.heap.size [.string D.fu, .string D.fd, .slice b1 D.rc.length d1, .slice b2 D.body.length d2]) (by simp)).lt
  have Y0 := (S12.out.get (r := Res.cells w7.heap.size [.string D.fu, .string D.fd, .slice p1 D.rc.length k1, .slice p2 D.body.length k2]) (by simp)).c 0 _ rfl
  have Y1 := (S12.out.get (r := Res.cells w7.heap.size [.string D.fu, .string D.fd, .slice p1 D.rc.length k1, .slice p2 D.body.length k2]) (by simp)).c 1 _ rfl
  have Y2 := (S12.out.get (r := Res.cells w7.heap.size [.string D.fu, .string D.fd, .slice p1 D.rc.length k1, .slice p2 D.body.length k2]) (by simp)).c 2 _ rfl
  have Y3 := (S12.out.get (r := Res.cells w7.heap.size [.string D.fu, .string D.fd, .slice p1 D.rc.length k1, .slice p2 D.body.length k2]) (by simp)).c 3 _ rfl
  have Yl := (S12.out.get (r := Res.cells w7.heap.size [.string D.fu, .string D.fd, .slice p1 D.rc.length k1, .slice p2 D.body.length k2]) (by simp)).lt
  go_wp2_with fail
  refine (saMailEq D b1 d1 b2 d2 p1 k1 p2 k2 _ (S12.out.get (r := Res.mail D b1 d1 b2 d2) (by simp)).at (S12.out.get (r := Res.mail D p1 k1 p2 k2) (by simp)).at (by omega) (by omega)).mono ?_
  rintro e w9 ⟨rfl, hb⟩
  have S13 : Seal (St w _ [rulesR ib ic F, Res.cells w7.heap.size [.string D.fu, .string D.fd, .slice p1 D.rc.length k1, .slice p2 D.body.length k2], Res.mail D p1 k1 p2 k2, Res.cells w6.heap.size [.string D.fu, .string D.fd, .slice b1 D.rc.length d1, .slice b2 D.body.length d2], Res.mail D b1 d1 b2 d2, rulesR gb gc F, Res.cells w3.heap.size [.string m.fu, .string m.fd, .slice a1 m.rc.length c1, .slice a2 m.body.length c2], Res.mail m a1 c1 a2 c2, rulesR yb yd ys, rulesR fb fc F, rulesR bo d xs]) := ⟨S12.out.later hb⟩
  clear hb S12
  go_wp2
  go_ret
  exact ⟨rfl, S13.out.below⟩
end Go.Proofs.YtgniokkiejoccaaDoor
