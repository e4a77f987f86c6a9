/- Contracts: which rule is about a mail, of the model. -/
import Derived.Test.YtgniokkiejoccaaDoorRuleOkS
import Derived.Test.YtgniokkiejoccaaDoorPlainSieve
import Derived.BigQuiet
import Derived.Deep.RegionHeld3
namespace Go.Proofs.YtgniokkiejoccaaDoor
open Go Go.RowKit

theorem take_next {α : Type} {xs : List α} {k : Nat} {x : α} (h : xs[k]? = some x) : xs.take (k + 1) = xs.take k ++ [x] := by
  obtain ⟨hk, e⟩ := List.getElem?_eq_some_iff.1 h
  rw [List.take_succ_eq_append_getElem hk, e]

set_option maxHeartbeats 800000 in
set_option maxRecDepth 100000 in
theorem l13In_any (s p : ByteArray) (w : World) (hs : s.size ≤ 1048576) (hp : p.size ≤ 1048576) :
    Calls Tryd.prog 98 #[.string s, .string p] w fun e w' => e = .returned (.bool (hasPart s p)) ∧ w = w' := by
  go_enter Tryd.func98, Tryd.ntmps98
  go_wp2
  go_loop [5] (fun i => ∃ k : Nat, k ≤ s.size + 1 ∧ i = .int .i64 k ∧ Seal (Lib.NoOcc s.data.toList p.data.toList k)) (fun i => s.size + 1 - (intOf i).toNat)
  case atStart => exact ⟨0, Nat.zero_le _, rfl, ⟨Lib.NoOcc.zero _ _⟩⟩
  case round =>
    obtain ⟨k, hk, rfl, HN⟩ := hrel
    by_cases hlt : k + p.size ≤ s.size
    · obtain ⟨v, hv⟩ : ∃ v, ((s.extract k (k + p.size)).toList == p.toList) = v := ⟨_, rfl⟩
      have HO : Seal (Lib.occAt s.data.toList p.data.toList k = v) := ⟨(occ_extract s p k hlt).trans hv⟩
      cases v
      · have HN2 : Seal (Lib.NoOcc s.data.toList p.data.toList (k + 1)) := ⟨HN.out.succ HO.out⟩
        clear HO
        go_wp2
        go_round
        case rel => exact ⟨k + 1, by omega, by go_num, HN2⟩
        case measure => simp [intOf]; omega
      · have hm : Seal (hasPart s p = true) := ⟨hasPart_yes (by omega) HO.out⟩
        clear HO
        go_wp2
        go_ret
        exact ⟨ret_b hm.out.symm, rfl⟩
    · have hm : Seal (hasPart s p = false) := ⟨hasPart_no (by omega) HN.out⟩
      clear HN
      go_wp2
      go_ret
      exact ⟨ret_b hm.out.symm, rfl⟩

set_option maxHeartbeats 1600000 in
set_option maxRecDepth 100000 in
theorem l13Asks_any (x : RuleD) (u d : ByteArray) (ao : Option Addr) (cap : Nat) (body : List ByteArray) (w : World) (hz : ruleN x ≤ 1048576) (hd : d.size ≤ 1048576) (hr : StrRow w ao body) (hl : body.length ≤ 1048576) (hs : ∀ y ∈ body, y.size ≤ 1048576) :
    Calls Tryd.prog 79 #[.agg (ruleV x), .agg #[.string u, .string d], .slice ao body.length cap] w fun e w' => e = .returned (.bool (asksB u d body x)) ∧ Below w.heap.size w w' := by
  obtain ⟨z1, z2, z3⟩ := ruleN_parts hz
  have HR : Seal _ := ⟨hr⟩
  have HS : Seal _ := ⟨hs⟩
  have s0 := ((St.start w).alloc (ruleV x) 41).alloc #[.string u, .string d] 25
  simp only [World.size_alloc] at s0
  have S0 : Seal _ := ⟨s0⟩
  obtain ⟨vn, hvn⟩ : ∃ v, nullB u d = v := ⟨_, rfl⟩
  have HVN : Seal _ := ⟨hvn⟩
  clear s0 hr hs hvn
  by_cases k1 : x.ask = 1
  · have HQ : Seal (asksB u d body x = (!vn && endB d x.txt)) := ⟨by unfold asksB; rw [if_pos k1, HVN.out]⟩
    have e1 : (x.ask == 1) = true := by rw [beq_iff_eq]; exact k1
    clear k1
    go_enter Tryd.func79, Tryd.ntmps79
    go_wp2_with fail
    refine (l1Null_is u d vn HVN.out _).mono ?_
    rintro e w1 ⟨rfl, hb1⟩
    have S1 : Seal _ := ⟨S0.out.later hb1⟩
    have y1 := S1.out.two.head.c 1 _ rfl
    have u1 := S1.out.head.c 1 _ rfl
    clear hb1
    cases vn
    · have hq : Seal (asksB u d body x = endB d x.txt) := ⟨by rw [HQ.out]; rfl⟩
      go_wp2_with fail
      refine (l1Ends_any d x.txt _ (by omega) (by omega)).mono ?_
      rintro e w2 ⟨rfl, rfl⟩
      go_wp2
      go_ret
      exact ⟨ret_b hq.out.symm, S1.out.below⟩
    · have hq : Seal (asksB u d body x = false) := ⟨by rw [HQ.out]; rfl⟩
      go_wp2
      go_ret
      exact ⟨ret_b hq.out.symm, S1.out.below⟩
  have e1 : (x.ask == 1) = false := by rw [beq_eq_false_iff_ne]; exact k1
  by_cases k2 : x.ask = 2
  · have HQ : Seal (asksB u d body x = body.any (fun s => hasPart s x.txt)) := ⟨asksB_two k2⟩
    have e2 : (x.ask == 2) = true := by rw [beq_iff_eq]; exact k2
    clear k1 k2
    go_enter Tryd.func79, Tryd.ntmps79
    go_wp2
    go_loopw [7] (fun i wr => ∃ k : Nat, k ≤ body.length ∧ i = .int .i64 k ∧ Seal ((body.take k).any (fun s => hasPart s x.txt) = false) ∧ Seal (St w wr [Res.cells (w.heap.size + 1) [.string u, .string d], Res.cells w.heap.size (ruleL x)])) (fun i _ => body.length - (intOf i).toNat)
    case atStart => exact ⟨0, Nat.zero_le _, rfl, ⟨by simp⟩, S0⟩
    case round =>
      obtain ⟨k, hk, rfl, HN, S⟩ := hrel
      clear S0
      have y1 := S.out.two.head.c 1 _ rfl
      by_cases hlt : k < body.length
      · obtain ⟨y, hy⟩ : ∃ y, body[k]? = some y := ⟨_, List.getElem?_eq_getElem hlt⟩
        obtain ⟨b, off, rfl, hc⟩ := HR.out.below S.out.below (Nat.le_refl _) k y hy
        have HY : Seal _ := ⟨hy⟩
        have hys := HS.out y (List.mem_of_getElem? hy)
        obtain ⟨v, hv⟩ : ∃ v, hasPart y x.txt = v := ⟨_, rfl⟩
        have C : Seal (∀ W, Calls Tryd.prog 98 #[.string y, .string x.txt] W fun e w' => e = .returned (.bool v) ∧ w' = W) := ⟨fun W => by rw [← hv]; exact (l13In_any y x.txt W hys (by omega)).mono fun e w' ⟨h1, h2⟩ => ⟨h1, h2.symm⟩⟩
        have HV : Seal _ := ⟨hv⟩
        clear hy hv hys
        cases v
        · have HN2 : Seal ((body.take (k + 1)).any (fun s => hasPart s x.txt) = false) := ⟨by
            rw [take_next HY.out, List.any_append, HN.out]; simp [HV.out]⟩
          go_wp2_with fail
          go_quiet (first | (go_at_call 98; refine Calls.quiet_of_same (C.out _)))
          have S2 : Seal _ := ⟨S.out.later (below_drewN _ wr nq)⟩
          go_wp2
          go_roundw
          case rel => exact ⟨k + 1, by omega, by go_num, HN2, S2⟩
          case measure => simp [intOf]; omega
        · have hm : Seal (asksB u d body x = true) := ⟨by rw [HQ.out, List.any_eq_true]; exact ⟨y, List.mem_of_getElem? HY.out, HV.out⟩⟩
          go_wp2_with fail
          go_quiet (first | (go_at_call 98; refine Calls.quiet_of_same (C.out _)))
          have S2 : Seal _ := ⟨S.out.later (below_drewN _ wr nq)⟩
          go_wp2
          go_ret
          exact ⟨ret_b hm.out.symm, S2.out.below⟩
      · have hm : Seal (asksB u d body x = false) := ⟨by
          have := HN.out
          rw [List.take_of_length_le (by omega)] at this
          rw [HQ.out, this]⟩
        go_wp2
        go_ret
        exact ⟨ret_b hm.out.symm, S.out.below⟩
  have e2 : (x.ask == 2) = false := by rw [beq_eq_false_iff_ne]; exact k2
  by_cases k3 : x.ask = 3
  · have hq : Seal (asksB u d body x = vn) := ⟨by unfold asksB; rw [if_neg k1, if_neg k2, if_pos k3, HVN.out]⟩
    have e3 : (x.ask == 3) = true := by rw [beq_iff_eq]; exact k3
    clear k1 k2 k3
    go_enter Tryd.func79, Tryd.ntmps79
    go_wp2_with fail
    refine (l1Null_is u d vn HVN.out _).mono ?_
    rintro e w1 ⟨rfl, hb1⟩
    have S1 : Seal _ := ⟨S0.out.later hb1⟩
    clear hb1
    go_wp2
    go_ret
    exact ⟨ret_b hq.out.symm, S1.out.below⟩
  · have hq : Seal (asksB u d body x = true) := ⟨by unfold asksB; rw [if_neg k1, if_neg k2, if_neg k3]⟩
    have e3 : (x.ask == 3) = false := by rw [beq_eq_false_iff_ne]; exact k3
    clear k1 k2 k3
    go_enter Tryd.func79, Tryd.ntmps79
    go_wp2
    go_ret
    exact ⟨ret_b hq.out.symm, S0.out.below⟩

theorem ret_n {a b : Int} (h : a = b) : Ending.returned (.int .i64 a) = .returned (.int .i64 b) := by rw [h]
set_option maxHeartbeats 3200000 in
set_option maxRecDepth 100000 in
theorem l13Rule_any (a1 : Option Addr) (c1 : Nat) (xs : List RuleD) (u d : ByteArray) (ao : Option Addr) (cap : Nat) (body : List ByteArray) (w : World) (hx : RuleRow w a1 xs) (hxl : xs.length ≤ 1048576) (hz : ∀ x ∈ xs, ruleN x ≤ 1048576) (hd : d.size ≤ 1048576) (hr : StrRow w ao body) (hl : body.length ≤ 1048576) (hs : ∀ y ∈ body, y.size ≤ 1048576) :
    Calls Tryd.prog 41 #[.slice a1 xs.length c1, .agg #[.string u, .string d], .slice ao body.length cap] w fun e w' => e = .returned (.int .i64 (firstR (asksB u d body) xs)) ∧ Below w.heap.size w w' := by
  have HA : Seal _ := ⟨hx⟩
  have HR : Seal _ := ⟨hr⟩
  have HS : Seal _ := ⟨hs⟩
  have HZ : Seal _ := ⟨hz⟩
  have S0 : Seal _ := ⟨(St.start w).alloc #[.string u, .string d] 25⟩
  clear hr hs hz hx
  go_enter Tryd.func41, Tryd.ntmps41
  go_wp2
  go_loopw [7] (fun i wr => ∃ k : Nat, k ≤ xs.length ∧ i = .int .i64 k ∧ Seal (∀ j y, j < k → xs[j]? = some y → asksB u d body y = false) ∧ Seal (St w wr [Res.cells w.heap.size [.string u, .string d]])) (fun i _ => xs.length - (intOf i).toNat)
  case atStart => exact ⟨0, Nat.zero_le _, rfl, ⟨fun j y hj => by omega⟩, S0⟩
  case round =>
    obtain ⟨k, hk, rfl, HN, S⟩ := hrel
    clear S0
    by_cases hlt : k < xs.length
    · obtain ⟨x, hx⟩ : ∃ x, xs[k]? = some x := ⟨_, List.getElem?_eq_getElem hlt⟩
      obtain ⟨b, off, rfl, c0, c1, c2, c3, c4⟩ := ruleAt (HA.out.below ruleP_stays S.out.below (Nat.le_refl _)) hx
      have g0 := S.out.head.c 0 _ rfl
      have g1 := S.out.head.c 1 _ rfl
      have HX : Seal _ := ⟨hx⟩
      have HZX : Seal _ := ⟨HZ.out x (List.mem_of_getElem? hx)⟩
      have HRr : Seal _ := ⟨HR.out.below S.out.below (Nat.le_refl _)⟩
      obtain ⟨v, hv⟩ : ∃ v, asksB u d body x = v := ⟨_, rfl⟩
      have HV : Seal _ := ⟨hv⟩
      have C : Seal (∀ W, Below wr.heap.size wr W → Calls Tryd.prog 79 #[.agg (ruleV x), .agg #[.string u, .string d], .slice ao body.length cap] W fun e w' => e = .returned (.bool v) ∧ Below W.heap.size W w') := ⟨fun W hW => by rw [← HV.out]; exact l13Asks_any x u d ao cap body W HZX.out hd (HRr.out.below hW (Nat.le_refl _)) hl HS.out⟩
      clear hx hv
      cases v
      · have HN2 : Seal (∀ j y, j < k + 1 → xs[j]? = some y → asksB u d body y = false) := ⟨fun j y hj hy => by
          rcases Nat.lt_or_eq_of_le (Nat.le_of_lt_succ hj) with h1 | h1
          · exact HN.out j y h1 hy
          · subst h1
            rw [HX.out] at hy
            cases hy
            exact HV.out⟩
        clear HN
        go_wp2_with fail
        go_region_held3 (fun w' => w'.cell? ⟨b, off + k * 5, none⟩ = some (.int .i64 x.ask) ∧ w'.cell? ⟨b, off + k * 5 + 1, none⟩ = some (.string x.txt) ∧ w'.cell? ⟨b, off + k * 5 + 2, none⟩ = some (.int .i64 x.act) ∧ w'.cell? ⟨b, off + k * 5 + 3, none⟩ = some (.string x.u) ∧ w'.cell? ⟨b, off + k * 5 + 4, none⟩ = some (.string x.d) ∧ w'.cell? ⟨w.heap.size, 0, none⟩ = some (.string u) ∧ w'.cell? ⟨w.heap.size, 1, none⟩ = some (.string d) ∧ Below wr.heap.size wr w') (first | exact ⟨c0, c1, c2, c3, c4, g0, g1, (Below.refl _ _).drew⟩ | (go_split_ands; exact ⟨heldc (by assumption) hb1, heldc (by assumption) hb1, heldc (by assumption) hb1, heldc (by assumption) hb1, heldc (by assumption) hb1, heldc (by assumption) hb1, heldc (by assumption) hb1, (by assumption : Below wr.heap.size wr _).trans (hb1.mono (by assumption : Below wr.heap.size wr _).size)⟩) | (go_split_ands; exact ⟨by assumption, by assumption, by assumption, by assumption, by assumption, by assumption, by assumption, Below.drew (by assumption)⟩) | (go_split_ands; exact ⟨by assumption, by assumption, by assumption, by assumption, by assumption, by assumption, by assumption, by assumption⟩)) (first | (go_at_call 79; go_split_ands; refine (C.out _ (by assumption : Below wr.heap.size wr _)).mono ?_; rintro e w1 ⟨rfl, hb1⟩))
        go_split_ands
        have hbx := (by assumption : Below wr.heap.size wr _)
        have S2 : Seal _ := ⟨S.out.later hbx⟩
        go_wp2
        go_roundw
        case rel => exact ⟨k + 1, by omega, by go_num, HN2, S2⟩
        case measure => simp [intOf]; omega
      · have hm : Seal (firstR (asksB u d body) xs = k) := ⟨firstR_hit HX.out HV.out HN.out⟩
        clear HN
        go_wp2_with fail
        go_region_held3 (fun w' => w'.cell? ⟨b, off + k * 5, none⟩ = some (.int .i64 x.ask) ∧ w'.cell? ⟨b, off + k * 5 + 1, none⟩ = some (.string x.txt) ∧ w'.cell? ⟨b, off + k * 5 + 2, none⟩ = some (.int .i64 x.act) ∧ w'.cell? ⟨b, off + k * 5 + 3, none⟩ = some (.string x.u) ∧ w'.cell? ⟨b, off + k * 5 + 4, none⟩ = some (.string x.d) ∧ w'.cell? ⟨w.heap.size, 0, none⟩ = some (.string u) ∧ w'.cell? ⟨w.heap.size, 1, none⟩ = some (.string d) ∧ Below wr.heap.size wr w') (first | exact ⟨c0, c1, c2, c3, c4, g0, g1, (Below.refl _ _).drew⟩ | (go_split_ands; exact ⟨heldc (by assumption) hb1, heldc (by assumption) hb1, heldc (by assumption) hb1, heldc (by assumption) hb1, heldc (by assumption) hb1, heldc (by assumption) hb1, heldc (by assumption) hb1, (by assumption : Below wr.heap.size wr _).trans (hb1.mono (by assumption : Below wr.heap.size wr _).size)⟩) | (go_split_ands; exact ⟨by assumption, by assumption, by assumption, by assumption, by assumption, by assumption, by assumption, Below.drew (by assumption)⟩) | (go_split_ands; exact ⟨by assumption, by assumption, by assumption, by assumption, by assumption, by assumption, by assumption, by assumption⟩)) (first | (go_at_call 79; go_split_ands; refine (C.out _ (by assumption : Below wr.heap.size wr _)).mono ?_; rintro e w1 ⟨rfl, hb1⟩))
        go_split_ands
        have hbx := (by assumption : Below wr.heap.size wr _)
        have S2 : Seal _ := ⟨S.out.later hbx⟩
        go_wp2
        go_ret
        exact ⟨ret_n hm.out.symm, S2.out.below⟩
    · obtain rfl : k = xs.length := by omega
      have hm : Seal (firstR (asksB u d body) xs = -1) := ⟨firstR_none HN.out⟩
      go_wp2
      go_ret
      exact ⟨ret_n hm.out.symm, S.out.below⟩

set_option maxHeartbeats 1600000 in
set_option maxRecDepth 100000 in
theorem specSieveFor_any (a1 : Option Addr) (c1 : Nat) (xs : List RuleD) (m : MailD) (b1 : Option Addr) (d1 : Nat) (b2 : Option Addr) (d2 : Nat) (w : World) (hx : RuleRow w a1 xs) (hxl : xs.length ≤ 1048576) (hz : ∀ x ∈ xs, ruleN x ≤ 1048576) (hat : MailAt w m b1 b2) (hsz : MailSz 1048576 m) :
    Calls Tryd.prog 11 #[.slice a1 xs.length c1, .agg (mailV m b1 d1 b2 d2)] w fun e w' => e = .returned (.int .i64 (whichB xs m)) ∧ Below w.heap.size w w' := by
  have HX : Seal _ := ⟨hx⟩
  have HZ : Seal _ := ⟨hz⟩
  have HA : Seal _ := ⟨hat⟩
  have HMZ : Seal _ := ⟨hsz⟩
  have z2 := hsz.bol
  have zf := hsz.fd
  have S0 : Seal _ := ⟨(St.start w).alloc (mailV m b1 d1 b2 d2) 29⟩
  obtain ⟨v1, h1⟩ : ∃ v, rulesB xs = v := ⟨_, rfl⟩
  obtain ⟨v2, h2⟩ : ∃ v, mailB m = v := ⟨_, rfl⟩
  have H1 : Seal _ := ⟨h1⟩
  have H2 : Seal _ := ⟨h2⟩
  clear hx hz hat hsz h1 h2
  go_enter Tryd.func11, Tryd.ntmps11
  go_wp2_with fail
  refine (l13Ok_any a1 c1 xs _ (HX.out.below ruleP_stays S0.out.below (Nat.le_refl _)) hxl HZ.out).mono ?_
  rintro e w1 ⟨rfl, hb1⟩
  rw [H1.out]
  have S1 : Seal _ := ⟨S0.out.later hb1⟩
  have K1 := S1.out.head
  have y0 := K1.c 0 _ rfl
  have y1 := K1.c 1 _ rfl
  have y2 := K1.c 2 _ rfl
  have y3 := K1.c 3 _ rfl
  clear hb1 S0 K1
  cases v1
  · have hm : Seal (whichB xs m = -1) := ⟨whichB_rules H1.out⟩
    go_wp2
    go_ret
    exact ⟨ret_n hm.out.symm, S1.out.below⟩
  go_wp2_with fail
  refine (l2Ok_any m b1 d1 b2 d2 _ (HA.out.below S1.out.below (Nat.le_refl _)) HMZ.out).mono ?_
  rintro e w2 ⟨rfl, hb2⟩
  rw [H2.out]
  have S2 : Seal _ := ⟨S1.out.later hb2⟩
  have K2 := S2.out.head
  have u0 := K2.c 0 _ rfl
  have u1 := K2.c 1 _ rfl
  have u2 := K2.c 2 _ rfl
  have u3 := K2.c 3 _ rfl
  clear hb2 S1 K2 y0 y1 y2 y3
  cases v2
  · have hm : Seal (whichB xs m = -1) := ⟨whichB_mail H1.out H2.out⟩
    go_wp2
    go_ret
    exact ⟨ret_n hm.out.symm, S2.out.below⟩
  have hm : Seal (whichB xs m = firstR (asksB m.fu m.fd m.body) xs) := ⟨whichB_yes H1.out H2.out⟩
  have C : Seal (∀ W, Below w.heap.size w W → Calls Tryd.prog 41 #[.slice a1 xs.length c1, .agg #[.string m.fu, .string m.fd], .slice b2 m.body.length d2] W fun e w' => e = .returned (.int .i64 (firstR (asksB m.fu m.fd m.body) xs)) ∧ Below W.heap.size W w') := ⟨fun W hW => l13Rule_any a1 c1 xs m.fu m.fd b2 d2 m.body W (HX.out.below ruleP_stays hW (Nat.le_refl _)) hxl HZ.out zf (HA.out.body.below hW (Nat.le_refl _)) z2 HMZ.out.bos⟩
  go_wp2_with fail
  refine (C.out _ S2.out.below).mono ?_
  rintro e w3 ⟨rfl, hb3⟩
  have S3 : Seal _ := ⟨S2.out.later hb3⟩
  clear hb3 C
  go_wp2
  go_ret
  exact ⟨ret_n hm.out.symm, S3.out.below⟩
end Go.Proofs.YtgniokkiejoccaaDoor
