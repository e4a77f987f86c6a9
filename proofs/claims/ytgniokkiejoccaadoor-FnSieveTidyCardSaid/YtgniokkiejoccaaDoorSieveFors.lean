/- SieveI, SieveS. -/
import Derived.Test.YtgniokkiejoccaaDoorRuleFind
import Derived.Test.YtgniokkiejoccaaDoorPlainSieves
import Derived.Test.YtgniokkiejoccaaDoorRuleOkS
import Derived.BigQuiet
import Derived.Deep.RegionHeld3
namespace Go.Proofs.YtgniokkiejoccaaDoor
open Go Go.RowKit

theorem partContains (s t : ByteArray) (w : World) (hm : HasMax w) (hs : s.size ≤ 1048576) :
    Calls Tryd.prog 110 #[.string s, .string t] w fun e w' => e = .returned (.bool (hasPart s t)) ∧ w = w' := by
  obtain ⟨m, hm⟩ := hm
  exact (Tryd.strings_Contains s t m w (by omega) hm).mono fun e w' ⟨h1, h2⟩ => ⟨h1, h2.symm⟩

/-- Whether a text is in one line. -/
theorem inOne_any (s t : ByteArray) (b : Nat) (w : World) (hm : HasMax w) (hs : s.size ≤ 1048576) (hc : w.cell? ⟨b, 0, none⟩ = some (.string t)) :
    Calls Tryd.prog 109 #[.string s, .pointer (some ⟨b, 0, none⟩)] w fun e w' => e = .returned (.bool (hasPart s t)) ∧ w = w' := by
  have HM : Seal _ := ⟨hm⟩
  clear hm
  go_enter Tryd.func109, Tryd.ntmps109
  go_wp2_with fail
  refine (partContains s t _ HM.out hs).mono ?_
  rintro e w1 ⟨rfl, rfl⟩
  go_wp2
  go_ret
  exact ⟨rfl, rfl⟩

def WherePost (f : ByteArray → Bool) (xs : List ByteArray) (w : World) (e : Ending) (w' : World) : Prop := ∃ n : Int, e = .returned (.int .i64 n) ∧ ((0 ≤ n ∧ xs.any f = true) ∨ (n = -1 ∧ xs.any f = false)) ∧ w = w'
theorem take_more {α : Type} {xs : List α} {k : Nat} {x : α} (h : xs[k]? = some x) : xs.take (k + 1) = xs.take k ++ [x] := by
  obtain ⟨hk, e⟩ := List.getElem?_eq_some_iff.1 h
  rw [List.take_succ_eq_append_getElem hk, e]

set_option maxHeartbeats 800000 in
set_option maxRecDepth 100000 in
theorem whereIn_any (ao : Option Addr) (cap : Nat) (xs : List ByteArray) (t : ByteArray) (b : Nat) (w : World) (hm : HasMax w) (hr : StrRow w ao xs) (hl : xs.length ≤ 1048576) (hs : ∀ y ∈ xs, y.size ≤ 1048576) (hc : w.cell? ⟨b, 0, none⟩ = some (.string t)) :
    Calls Tryd.prog 114 #[.slice ao xs.length cap, .func (.func 109) #[] #[.pointer (some ⟨b, 0, none⟩)]] w (WherePost (fun s => hasPart s t) xs w) := by
  have HM : Seal _ := ⟨hm⟩
  have HR : Seal _ := ⟨hr⟩
  have HS : Seal _ := ⟨hs⟩
  have HC : Seal _ := ⟨hc⟩
  clear hm hr hs hc
  go_enter Tryd.func114, Tryd.ntmps114
  go_wp2
  go_loop [8] (fun i => ∃ k : Nat, k ≤ xs.length ∧ i = .int .i64 k ∧ Seal ((xs.take k).any (fun s => hasPart s t) = false)) (fun i => xs.length - (intOf i).toNat)
  case atStart => exact ⟨0, Nat.zero_le _, rfl, ⟨by simp⟩⟩
  case round =>
    obtain ⟨k, hk, rfl, HN⟩ := hrel
    by_cases hlt : k < xs.length
    · obtain ⟨y, hy⟩ : ∃ y, xs[k]? = some y := ⟨_, List.getElem?_eq_getElem hlt⟩
      obtain ⟨b', off, rfl, hcy⟩ := HR.out k y hy
      have HY : Seal _ := ⟨hy⟩
      have hys := HS.out y (List.mem_of_getElem? hy)
      obtain ⟨v, hv⟩ : ∃ v, hasPart y t = v := ⟨_, rfl⟩
      have C : Seal _ := ⟨inOne_any y t b w HM.out hys HC.out⟩
      rw [hv] at C
      have HV : Seal _ := ⟨hv⟩
      clear hy hv hys
      cases v
      · have HN2 : Seal ((xs.take (k + 1)).any (fun s => hasPart s t) = false) := ⟨by
          rw [take_more HY.out, List.any_append, HN.out]; simp [HV.out]⟩
        go_wp2_with fail
        refine C.out.mono ?_
        rintro e w1 ⟨rfl, rfl⟩
        go_wp2
        go_round
        case rel => exact ⟨k + 1, by omega, by go_num, HN2⟩
        case measure => simp [intOf]; omega
      · have hm : Seal (xs.any (fun s => hasPart s t) = true) := ⟨by rw [List.any_eq_true]; exact ⟨y, List.mem_of_getElem? HY.out, HV.out⟩⟩
        go_wp2_with fail
        refine C.out.mono ?_
        rintro e w1 ⟨rfl, rfl⟩
        go_wp2
        go_ret
        exact ⟨_, rfl, .inl ⟨by omega, hm.out⟩, rfl⟩
    · have hm : Seal (xs.any (fun s => hasPart s t) = false) := ⟨by
        have := HN.out
        rw [List.take_of_length_le (by omega)] at this
        exact this⟩
      go_wp2
      go_ret
      exact ⟨-1, rfl, .inr ⟨rfl, hm.out⟩, rfl⟩

theorem hasIn_any (ao : Option Addr) (cap : Nat) (xs : List ByteArray) (t : ByteArray) (b : Nat) (w : World) (hm : HasMax w) (hr : StrRow w ao xs) (hl : xs.length ≤ 1048576) (hs : ∀ y ∈ xs, y.size ≤ 1048576) (hc : w.cell? ⟨b, 0, none⟩ = some (.string t)) :
    Calls Tryd.prog 108 #[.slice ao xs.length cap, .func (.func 109) #[] #[.pointer (some ⟨b, 0, none⟩)]] w fun e w' => e = .returned (.bool (xs.any (fun s => hasPart s t))) ∧ w = w' := by
  have C : Seal _ := ⟨whereIn_any ao cap xs t b w hm hr hl hs hc⟩
  clear hm hr hs hc
  go_enter Tryd.func108, Tryd.ntmps108
  go_wp2_with fail
  refine C.out.mono ?_
  rintro e w1 ⟨n, rfl, hn, rfl⟩
  clear C
  rcases hn with ⟨h0, hm⟩ | ⟨rfl, hm⟩
  · have hv : Seal _ := ⟨hm⟩
    clear hm
    go_wp2
    go_ret
    exact ⟨ret_b hv.out.symm, rfl⟩
  · have hv : Seal _ := ⟨hm⟩
    clear hm
    go_wp2
    go_ret
    exact ⟨ret_b hv.out.symm, rfl⟩

set_option maxRecDepth 100000 in
theorem withinOf_any (m : MailD) (a1 : Option Addr) (c1 : Nat) (a2 : Option Addr) (c2 : Nat) (t : ByteArray) (b : Nat) (w : World) (hm : HasMax w) (hd : m.fd.size ≤ 1048576) (ht : t.size ≤ 1048576) (hc : w.cell? ⟨b, 0, none⟩ = some (.string t)) :
    Calls Tryd.prog 104 #[.agg (mailV m a1 c1 a2 c2), .pointer (some ⟨b, 0, none⟩)] w fun e w' => e = .returned (.bool (inDomB m.fd t)) ∧ Below w.heap.size w w' := by
  have S0 : Seal _ := ⟨(St.start w).alloc (mailV m a1 c1 a2 c2) 29⟩
  have c1 := heldc hc S0.out.below
  have HM : Seal _ := ⟨hm.below S0.out.below (Nat.le_refl _)⟩
  clear hm hc
  go_enter Tryd.func104, Tryd.ntmps104
  go_wp2_with fail
  refine (implDomainIn_any m.fd t _ HM.out (by omega) (by omega)).mono ?_
  rintro e w1 ⟨rfl, hb1⟩
  have S1 : Seal _ := ⟨S0.out.later hb1⟩
  clear hb1
  go_wp2
  go_ret
  exact ⟨rfl, S1.out.below⟩

set_option maxRecDepth 100000 in
theorem inLineOf_any (m : MailD) (a1 : Option Addr) (c1 : Nat) (a2 : Option Addr) (c2 : Nat) (t : ByteArray) (b : Nat) (w : World) (hm : HasMax w) (hat : MailAt w m a1 a2) (hsz : MailSz 1048576 m) (hc : w.cell? ⟨b, 0, none⟩ = some (.string t)) :
    Calls Tryd.prog 107 #[.agg (mailV m a1 c1 a2 c2), .pointer (some ⟨b, 0, none⟩)] w fun e w' => e = .returned (.bool (m.body.any (fun s => hasPart s t))) ∧ Below w.heap.size w w' := by
  have S0 : Seal _ := ⟨(St.start w).alloc (mailV m a1 c1 a2 c2) 29⟩
  have C : Seal _ := ⟨hasIn_any a2 c2 m.body t b _ (hm.below S0.out.below (Nat.le_refl _)) (hat.body.below S0.out.below (Nat.le_refl _)) hsz.bol hsz.bos (heldc hc S0.out.below)⟩
  clear hm hc hat hsz
  go_enter Tryd.func107, Tryd.ntmps107
  go_wp2_with fail
  refine C.out.mono ?_
  rintro e w1 ⟨rfl, rfl⟩
  go_wp2
  go_ret
  exact ⟨rfl, S0.out.below⟩

theorem fromNull_any (m : MailD) (a1 : Option Addr) (c1 : Nat) (a2 : Option Addr) (c2 : Nat) (w : World) :
    Calls Tryd.prog 93 #[.agg (mailV m a1 c1 a2 c2)] w fun e w' => e = .returned (.bool (nullB m.fu m.fd)) ∧ Below w.heap.size w w' := by
  have S0 : Seal _ := ⟨(St.start w).alloc (mailV m a1 c1 a2 c2) 29⟩
  obtain ⟨v, hv⟩ : ∃ v, nullB m.fu m.fd = v := ⟨_, rfl⟩
  have HV : Seal _ := ⟨hv⟩
  rw [hv]
  clear hv
  go_enter Tryd.func93, Tryd.ntmps93
  go_wp2_with fail
  refine (isNull_is m.fu m.fd v HV.out _).mono ?_
  rintro e w1 ⟨rfl, hb1⟩
  have S1 : Seal _ := ⟨S0.out.later hb1⟩
  clear hb1
  go_wp2
  go_ret
  exact ⟨rfl, S1.out.below⟩
theorem anyMail_any (m : MailD) (a1 : Option Addr) (c1 : Nat) (a2 : Option Addr) (c2 : Nat) (w : World) :
    Calls Tryd.prog 94 #[.agg (mailV m a1 c1 a2 c2)] w fun e w' => e = .returned (.bool true) ∧ Below w.heap.size w w' := by
  have S0 : Seal _ := ⟨(St.start w).alloc (mailV m a1 c1 a2 c2) 29⟩
  go_enter Tryd.func94, Tryd.ntmps94
  go_wp2
  go_ret
  exact ⟨rfl, S0.out.below⟩

set_option maxHeartbeats 1600000 in
set_option maxRecDepth 100000 in
theorem holds_any (x : RuleD) (m : MailD) (a1 : Option Addr) (c1 : Nat) (a2 : Option Addr) (c2 : Nat) (w : World) (hm : HasMax w) (hz : ruleN x ≤ 1048576) (hx : ruleB x = true) (hat : MailAt w m a1 a2) (hsz : MailSz 1048576 m) (hv : mailB m = true) :
    Calls Tryd.prog 38 #[.agg (ruleV x), .agg (mailV m a1 c1 a2 c2)] w fun e w' => e = .returned (.bool (asksB m.fu m.fd m.body x)) ∧ Below w.heap.size w w' := by
  obtain ⟨z1, z2, z3⟩ := ruleN_parts hz
  have HM : Seal _ := ⟨hm⟩
  have HZ : Seal _ := ⟨hz⟩
  have HA : Seal _ := ⟨hat⟩
  have HS : Seal _ := ⟨hsz⟩
  have HX : Seal _ := ⟨ask_in hx⟩
  have HV : Seal _ := ⟨hv⟩
  have s0 := ((St.start w).alloc (ruleV x) 41).alloc (mailV m a1 c1 a2 c2) 29
  simp only [World.size_alloc] at s0
  have S0 : Seal _ := ⟨s0⟩
  clear hm hz hat hsz hx hv s0
  go_enter Tryd.func38, Tryd.ntmps38
  go_wp2_with fail
  refine (condition_any x _ (HM.out.below S0.out.below (Nat.le_refl _)) HZ.out).mono ?_
  rintro e w1 ⟨f, rfl, hf, hb1⟩
  have S1 : Seal _ := ⟨S0.out.later hb1⟩
  have K1 := S1.out.head
  have y0 := K1.c 0 _ rfl
  have y1 := K1.c 1 _ rfl
  have y2 := K1.c 2 _ rfl
  have y3 := K1.c 3 _ rfl
  clear hb1 S0 K1
  rcases hf with ⟨k, b, rfl, hc⟩ | ⟨k, b, rfl, hc⟩ | ⟨k, rfl⟩ | ⟨k, rfl⟩ | ⟨k, _⟩
  · have hq : Seal (asksB m.fu m.fd m.body x = inDomB m.fd x.txt) := ⟨(from_same HV.out k (by rcases HX.out with h | h | h | h; exact h.2; all_goals omega)).symm⟩
    have C : Seal _ := ⟨withinOf_any m a1 c1 a2 c2 x.txt b _ (HM.out.below S1.out.below (Nat.le_refl _)) HS.out.fd z1 hc⟩
    clear hc k
    go_wp2_with fail
    refine C.out.mono ?_
    rintro e w2 ⟨rfl, hb2⟩
    have S2 : Seal _ := ⟨S1.out.later hb2⟩
    clear hb2 C
    go_wp2
    go_ret
    exact ⟨ret_b hq.out.symm, S2.out.below⟩
  · have hq : Seal (asksB m.fu m.fd m.body x = m.body.any (fun s => hasPart s x.txt)) := ⟨asksB_two k⟩
    have C : Seal _ := ⟨inLineOf_any m a1 c1 a2 c2 x.txt b _ (HM.out.below S1.out.below (Nat.le_refl _)) (HA.out.below S1.out.below (Nat.le_refl _)) HS.out hc⟩
    clear hc k
    go_wp2_with fail
    refine C.out.mono ?_
    rintro e w2 ⟨rfl, hb2⟩
    have S2 : Seal _ := ⟨S1.out.later hb2⟩
    clear hb2 C
    go_wp2
    go_ret
    exact ⟨ret_b hq.out.symm, S2.out.below⟩
  · have hq : Seal (asksB m.fu m.fd m.body x = nullB m.fu m.fd) := ⟨by unfold asksB; rw [if_neg (by omega), if_neg (by omega), if_pos k]⟩
    clear k
    go_wp2_with fail
    refine (fromNull_any m a1 c1 a2 c2 _).mono ?_
    rintro e w2 ⟨rfl, hb2⟩
    have S2 : Seal _ := ⟨S1.out.later hb2⟩
    clear hb2
    go_wp2
    go_ret
    exact ⟨ret_b hq.out.symm, S2.out.below⟩
  · have hq : Seal (asksB m.fu m.fd m.body x = true) := ⟨by unfold asksB; rw [if_neg (by omega), if_neg (by omega), if_neg (by omega)]⟩
    clear k
    go_wp2_with fail
    refine (anyMail_any m a1 c1 a2 c2 _).mono ?_
    rintro e w2 ⟨rfl, hb2⟩
    have S2 : Seal _ := ⟨S1.out.later hb2⟩
    clear hb2
    go_wp2
    go_ret
    exact ⟨ret_b hq.out.symm, S2.out.below⟩
  · exfalso
    rcases HX.out with h | h | h | h
    all_goals omega

set_option maxHeartbeats 1600000 in
set_option maxRecDepth 100000 in
theorem isAbout_any (x : RuleD) (m : MailD) (a1 : Option Addr) (c1 : Nat) (a2 : Option Addr) (c2 : Nat) (b : Nat) (w : World) (hm : HasMax w) (hz : ruleN x ≤ 1048576) (hx : ruleB x = true) (hat : MailAt w m a1 a2) (hsz : MailSz 1048576 m) (hv : mailB m = true)
    (hc : (Res.cells b [.string m.fu, .string m.fd, .slice a1 m.rc.length c1, .slice a2 m.body.length c2]).P w) :
    Calls Tryd.prog 37 #[.agg (ruleV x), .pointer (some ⟨b, 0, none⟩)] w fun e w' => e = .returned (.bool (asksB m.fu m.fd m.body x)) ∧ Below w.heap.size w w' := by
  have S0 : Seal _ := ⟨(St.start w).alloc (ruleV x) 41⟩
  have y0 := heldc (hc.c 0 _ rfl) S0.out.below
  have y1 := heldc (hc.c 1 _ rfl) S0.out.below
  have y2 := heldc (hc.c 2 _ rfl) S0.out.below
  have y3 := heldc (hc.c 3 _ rfl) S0.out.below
  have C : Seal _ := ⟨holds_any x m a1 c1 a2 c2 _ (hm.below S0.out.below (Nat.le_refl _)) hz hx (hat.below S0.out.below (Nat.le_refl _)) hsz hv⟩
  clear hm hz hx hat hsz hv hc
  go_enter Tryd.func37, Tryd.ntmps37
  go_wp2_with fail
  refine C.out.mono ?_
  rintro e w1 ⟨rfl, hb1⟩
  have S1 : Seal _ := ⟨S0.out.later hb1⟩
  clear hb1 C
  go_wp2
  go_ret
  exact ⟨rfl, S1.out.below⟩

/-- What is so of a place. -/
def atB {α : Type} (f : α → Bool) (xs : List α) (k : Nat) : Bool := match xs[k]? with
  | some x => f x
  | none => false
theorem atB_of {α : Type} {f : α → Bool} {xs : List α} {k : Nat} {x : α} (h : xs[k]? = some x) : atB f xs k = f x := by unfold atB; rw [h]
theorem ret_n1 {a b : Int} (h : a = b) : Ending.returned (.int .i64 a) = .returned (.int .i64 b) := by rw [h]

set_option maxHeartbeats 1600000 in
set_option maxRecDepth 100000 in
theorem implSieveFor_any (a1 : Option Addr) (c1 : Nat) (xs : List RuleD) (m : MailD) (b1 : Option Addr) (d1 : Nat) (b2 : Option Addr) (d2 : Nat) (w : World) (hm : HasMax w) (hx : RuleRow w a1 xs) (hxl : xs.length ≤ 1048576) (hz : ∀ x ∈ xs, ruleN x ≤ 1048576) (hat : MailAt w m b1 b2) (hsz : MailSz 1048576 m) (hcap : m.rc.length ≤ d1) :
    Calls Tryd.prog 10 #[.slice a1 xs.length c1, .agg (mailV m b1 d1 b2 d2)] w fun e w' => e = .returned (.int .i64 (whichB xs m)) ∧ Below w.heap.size w w' := by
  have HM : Seal _ := ⟨hm⟩
  have HX : Seal _ := ⟨hx⟩
  have HZ : Seal _ := ⟨hz⟩
  have HA : Seal _ := ⟨hat⟩
  have HMZ : Seal _ := ⟨hsz⟩
  have S0 : Seal _ := ⟨(St.start w).alloc (mailV m b1 d1 b2 d2) 29⟩
  obtain ⟨v1, h1⟩ : ∃ v, rulesB xs = v := ⟨_, rfl⟩
  obtain ⟨v2, h2⟩ : ∃ v, mailB m = v := ⟨_, rfl⟩
  have H1 : Seal _ := ⟨h1⟩
  have H2 : Seal _ := ⟨h2⟩
  clear hm hx hz hat hsz h1 h2
  go_enter Tryd.func10, Tryd.ntmps10
  go_wp2_with fail
  refine (implSieveOk_any a1 c1 xs _ (HM.out.below S0.out.below (Nat.le_refl _)) (HX.out.below ruleP_stays S0.out.below (Nat.le_refl _)) hxl HZ.out).mono ?_
  rintro e w1 ⟨rfl, hb1⟩
  rw [H1.out]
  have S1 : Seal _ := ⟨S0.out.later hb1⟩
  have K1 := S1.out.head
  have y0 := K1.c 0 _ rfl
  have y1 := K1.c 1 _ rfl
  have y2 := K1.c 2 _ rfl
  have y3 := K1.c 3 _ rfl
  clear hb1 S0 K1
  cases v1
  · have hm : Seal (whichB xs m = -1) := ⟨whichB_rules H1.out⟩
    go_wp2
    go_ret
    exact ⟨ret_n1 hm.out.symm, S1.out.below⟩
  go_wp2_with fail
  refine (implMailOk_any m b1 d1 b2 d2 _ (HM.out.below S1.out.below (Nat.le_refl _)) (HA.out.below S1.out.below (Nat.le_refl _)) HMZ.out hcap).mono ?_
  rintro e w2 ⟨rfl, hb2⟩
  rw [H2.out]
  have S2 : Seal _ := ⟨S1.out.later hb2⟩
  clear hb2 S1 y0 y1 y2 y3
  cases v2
  · have hm : Seal (whichB xs m = -1) := ⟨whichB_mail H1.out H2.out⟩
    go_wp2
    go_ret
    exact ⟨ret_n1 hm.out.symm, S2.out.below⟩
  have hm : Seal (whichB xs m = firstR (asksB m.fu m.fd m.body) xs) := ⟨whichB_yes H1.out H2.out⟩
  have C : Seal _ := ⟨findRule_any 37 ⟨w.heap.size, 0, none⟩ a1 c1 xs (atB (asksB m.fu m.fd m.body) xs) (fun _ W => St w W [Res.cells w.heap.size [.string m.fu, .string m.fd, .slice b1 m.rc.length d1, .slice b2 m.body.length d2]]) (fun _ W => St w W [Res.cells w.heap.size [.string m.fu, .string m.fd, .slice b1 m.rc.length d1, .slice b2 m.body.length d2]]) _
    (enters_of Tryd.func37 (by kernel_rfl) rfl) hxl S2.out (fun k W W' h hb => h.later hb) w HX.out (fun k W h => h.below)
    (fun k x W hx h => by
      refine (isAbout_any x m b1 d1 b2 d2 w.heap.size W (HM.out.below h.below (Nat.le_refl _)) (HZ.out x (List.mem_of_getElem? hx)) (rules_each H1.out hx) (HA.out.below h.below (Nat.le_refl _)) HMZ.out H2.out h.head).mono ?_
      rintro e w1 ⟨rfl, hb1⟩
      rw [atB_of hx]
      exact ⟨rfl, fun _ => h.later hb1, fun _ => h.later hb1⟩)⟩
  go_wp2_with fail
  refine C.out.mono ?_
  rintro e w3 ⟨r, rfl, h⟩
  have HF : Seal (firstR (asksB m.fu m.fd m.body) xs = r) := ⟨by
    rcases h with ⟨k, hk, rfl, hq, hn, _⟩ | ⟨rfl, hn, _⟩
    · obtain ⟨x, hx⟩ : ∃ x, xs[k]? = some x := ⟨_, List.getElem?_eq_getElem hk⟩
      rw [atB_of hx] at hq
      exact firstR_hit hx hq fun j y hj hy => by have := hn j hj; rwa [atB_of hy] at this
    · exact firstR_none fun j y hj hy => by have := hn j hj; rwa [atB_of hy] at this⟩
  have B3 : Seal (Below w.heap.size w w3) := ⟨by
    rcases h with ⟨k, _, _, _, _, hs⟩ | ⟨_, _, hs⟩
    · exact hs.below
    · exact hs.below⟩
  clear h C
  go_wp2
  go_ret
  exact ⟨ret_n1 (by rw [hm.out, HF.out]), B3.out⟩
end Go.Proofs.YtgniokkiejoccaaDoor
namespace Go.Proofs.YtgniokkiejoccaaDoor
open Go Go.RowKit

theorem take_next {α : Type} {xs : List α} {k : Nat} {x : α} (h : xs[k]? = some x) : xs.take (k + 1) = xs.take k ++ [x] := by
  obtain ⟨hk, e⟩ := List.getElem?_eq_some_iff.1 h
  rw [List.take_succ_eq_append_getElem hk, e]

set_option maxHeartbeats 800000 in
set_option maxRecDepth 100000 in
theorem l13In_any (s p : ByteArray) (w : World) (hs : s.size ≤ 1048576) (hp : p.size ≤ 1048576) :
    Calls Tryd.prog 98 #[.string s, .string p] w fun e w' => e = .returned (.bool (hasPart s p)) ∧ w = w' := by
  go_enter Tryd.func98, Tryd.ntmps98
  go_wp2
  go_loop [5] (fun i => ∃ k : Nat, k ≤ s.size + 1 ∧ i = .int .i64 k ∧ Seal (Lib.NoOcc s.data.toList p.data.toList k)) (fun i => s.size + 1 - (intOf i).toNat)
  case atStart => exact ⟨0, Nat.zero_le _, rfl, ⟨Lib.NoOcc.zero _ _⟩⟩
  case round =>
    obtain ⟨k, hk, rfl, HN⟩ := hrel
    by_cases hlt : k + p.size ≤ s.size
    · obtain ⟨v, hv⟩ : ∃ v, ((s.extract k (k + p.size)).toList == p.toList) = v := ⟨_, rfl⟩
      have HO : Seal (Lib.occAt s.data.toList p.data.toList k = v) := ⟨(occ_extract s p k hlt).trans hv⟩
      cases v
      · have HN2 : Seal (Lib.NoOcc s.data.toList p.data.toList (k + 1)) := ⟨HN.out.succ HO.out⟩
        clear HO
        go_wp2
        go_round
        case rel => exact ⟨k + 1, by omega, by go_num, HN2⟩
        case measure => simp [intOf]; omega
      · have hm : Seal (hasPart s p = true) := ⟨hasPart_yes (by omega) HO.out⟩
        clear HO
        go_wp2
        go_ret
        exact ⟨ret_b hm.out.symm, rfl⟩
    · have hm : Seal (hasPart s p = false) := ⟨hasPart_no (by omega) HN.out⟩
      clear HN
      go_wp2
      go_ret
      exact ⟨ret_b hm.out.symm, rfl⟩

set_option maxHeartbeats 1600000 in
set_option maxRecDepth 100000 in
theorem l13Asks_any (x : RuleD) (u d : ByteArray) (ao : Option Addr) (cap : Nat) (body : List ByteArray) (w : World) (hz : ruleN x ≤ 1048576) (hd : d.size ≤ 1048576) (hr : StrRow w ao body) (hl : body.length ≤ 1048576) (hs : ∀ y ∈ body, y.size ≤ 1048576) :
    Calls Tryd.prog 79 #[.agg (ruleV x), .agg #[.string u, .string d], .slice ao body.length cap] w fun e w' => e = .returned (.bool (asksB u d body x)) ∧ Below w.heap.size w w' := by
  obtain ⟨z1, z2, z3⟩ := ruleN_parts hz
  have HR : Seal _ := ⟨hr⟩
  have HS : Seal _ := ⟨hs⟩
  have s0 := ((St.start w).alloc (ruleV x) 41).alloc #[.string u, .string d] 25
  simp only [World.size_alloc] at s0
  have S0 : Seal _ := ⟨s0⟩
  obtain ⟨vn, hvn⟩ : ∃ v, nullB u d = v := ⟨_, rfl⟩
  have HVN : Seal _ := ⟨hvn⟩
  clear s0 hr hs hvn
  by_cases k1 : x.ask = 1
  · have HQ : Seal (asksB u d body x = (!vn && endB d x.txt)) := ⟨by unfold asksB; rw [if_pos k1, HVN.out]⟩
    have e1 : (x.ask == 1) = true := by rw [beq_iff_eq]; exact k1
    clear k1
    go_enter Tryd.func79, Tryd.ntmps79
    go_wp2_with fail
    refine (l1Null_is u d vn HVN.out _).mono ?_
    rintro e w1 ⟨rfl, hb1⟩
    have S1 : Seal _ := ⟨S0.out.later hb1⟩
    have y1 := S1.out.two.head.c 1 _ rfl
    have u1 := S1.out.head.c 1 _ rfl
    clear hb1
    cases vn
    · have hq : Seal (asksB u d body x = endB d x.txt) := ⟨by rw [HQ.out]; rfl⟩
      go_wp2_with fail
      refine (l1Ends_any d x.txt _ (by omega) (by omega)).mono ?_
      rintro e w2 ⟨rfl, rfl⟩
      go_wp2
      go_ret
      exact ⟨ret_b hq.out.symm, S1.out.below⟩
    · have hq : Seal (asksB u d body x = false) := ⟨by rw [HQ.out]; rfl⟩
      go_wp2
      go_ret
      exact ⟨ret_b hq.out.symm, S1.out.below⟩
  have e1 : (x.ask == 1) = false := by rw [beq_eq_false_iff_ne]; exact k1
  by_cases k2 : x.ask = 2
  · have HQ : Seal (asksB u d body x = body.any (fun s => hasPart s x.txt)) := ⟨asksB_two k2⟩
    have e2 : (x.ask == 2) = true := by rw [beq_iff_eq]; exact k2
    clear k1 k2
    go_enter Tryd.func79, Tryd.ntmps79
    go_wp2
    go_loopw [7] (fun i wr => ∃ k : Nat, k ≤ body.length ∧ i = .int .i64 k ∧ Seal ((body.take k).any (fun s => hasPart s x.txt) = false) ∧ Seal (St w wr [Res.cells (w.heap.size + 1) [.string u, .string d], Res.cells w.heap.size (ruleL x)])) (fun i _ => body.length - (intOf i).toNat)
    case atStart => exact ⟨0, Nat.zero_le _, rfl, ⟨by simp⟩, S0⟩
    case round =>
      obtain ⟨k, hk, rfl, HN, S⟩ := hrel
      clear S0
      have y1 := S.out.two.head.c 1 _ rfl
      by_cases hlt : k < body.length
      · obtain ⟨y, hy⟩ : ∃ y, body[k]? = some y := ⟨_, List.getElem?_eq_getElem hlt⟩
        obtain ⟨b, off, rfl, hc⟩ := HR.out.below S.out.below (Nat.le_refl _) k y hy
        have HY : Seal _ := ⟨hy⟩
        have hys := HS.out y (List.mem_of_getElem? hy)
        obtain ⟨v, hv⟩ : ∃ v, hasPart y x.txt = v := ⟨_, rfl⟩
        have C : Seal (∀ W, Calls Tryd.prog 98 #[.string y, .string x.txt] W fun e w' => e = .returned (.bool v) ∧ w' = W) := ⟨fun W => by rw [← hv]; exact (l13In_any y x.txt W hys (by omega)).mono fun e w' ⟨h1, h2⟩ => ⟨h1, h2.symm⟩⟩
        have HV : Seal _ := ⟨hv⟩
        clear hy hv hys
        cases v
        · have HN2 : Seal ((body.take (k + 1)).any (fun s => hasPart s x.txt) = false) := ⟨by
            rw [take_next HY.out, List.any_append, HN.out]; simp [HV.out]⟩
          go_wp2_with fail
          go_quiet (first | (go_at_call 98; refine Calls.quiet_of_same (C.out _)))
          have S2 : Seal _ := ⟨S.out.later (below_drewN _ wr nq)⟩
          go_wp2
          go_roundw
          case rel => exact ⟨k + 1, by omega, by go_num, HN2, S2⟩
          case measure => simp [intOf]; omega
        · have hm : Seal (asksB u d body x = true) := ⟨by rw [HQ.out, List.any_eq_true]; exact ⟨y, List.mem_of_getElem? HY.out, HV.out⟩⟩
          go_wp2_with fail
          go_quiet (first | (go_at_call 98; refine Calls.quiet_of_same (C.out _)))
          have S2 : Seal _ := ⟨S.out.later (below_drewN _ wr nq)⟩
          go_wp2
          go_ret
          exact ⟨ret_b hm.out.symm, S2.out.below⟩
      · have hm : Seal (asksB u d body x = false) := ⟨by
          have := HN.out
          rw [List.take_of_length_le (by omega)] at this
          rw [HQ.out, this]⟩
        go_wp2
        go_ret
        exact ⟨ret_b hm.out.symm, S.out.below⟩
  have e2 : (x.ask == 2) = false := by rw [beq_eq_false_iff_ne]; exact k2
  by_cases k3 : x.ask = 3
  · have hq : Seal (asksB u d body x = vn) := ⟨by unfold asksB; rw [if_neg k1, if_neg k2, if_pos k3, HVN.out]⟩
    have e3 : (x.ask == 3) = true := by rw [beq_iff_eq]; exact k3
    clear k1 k2 k3
    go_enter Tryd.func79, Tryd.ntmps79
    go_wp2_with fail
    refine (l1Null_is u d vn HVN.out _).mono ?_
    rintro e w1 ⟨rfl, hb1⟩
    have S1 : Seal _ := ⟨S0.out.later hb1⟩
    clear hb1
    go_wp2
    go_ret
    exact ⟨ret_b hq.out.symm, S1.out.below⟩
  · have hq : Seal (asksB u d body x = true) := ⟨by unfold asksB; rw [if_neg k1, if_neg k2, if_neg k3]⟩
    have e3 : (x.ask == 3) = false := by rw [beq_eq_false_iff_ne]; exact k3
    clear k1 k2 k3
    go_enter Tryd.func79, Tryd.ntmps79
    go_wp2
    go_ret
    exact ⟨ret_b hq.out.symm, S0.out.below⟩

theorem ret_n {a b : Int} (h : a = b) : Ending.returned (.int .i64 a) = .returned (.int .i64 b) := by rw [h]
set_option maxHeartbeats 3200000 in
set_option maxRecDepth 100000 in
theorem l13Rule_any (a1 : Option Addr) (c1 : Nat) (xs : List RuleD) (u d : ByteArray) (ao : Option Addr) (cap : Nat) (body : List ByteArray) (w : World) (hx : RuleRow w a1 xs) (hxl : xs.length ≤ 1048576) (hz : ∀ x ∈ xs, ruleN x ≤ 1048576) (hd : d.size ≤ 1048576) (hr : StrRow w ao body) (hl : body.length ≤ 1048576) (hs : ∀ y ∈ body, y.size ≤ 1048576) :
    Calls Tryd.prog 41 #[.slice a1 xs.length c1, .agg #[.string u, .string d], .slice ao body.length cap] w fun e w' => e = .returned (.int .i64 (firstR (asksB u d body) xs)) ∧ Below w.heap.size w w' := by
  have HA : Seal _ := ⟨hx⟩
  have HR : Seal _ := ⟨hr⟩
  have HS : Seal _ := ⟨hs⟩
  have HZ : Seal _ := ⟨hz⟩
  have S0 : Seal _ := ⟨(St.start w).alloc #[.string u, .string d] 25⟩
  clear hr hs hz hx
  go_enter Tryd.func41, Tryd.ntmps41
  go_wp2
  go_loopw [7] (fun i wr => ∃ k : Nat, k ≤ xs.length ∧ i = .int .i64 k ∧ Seal (∀ j y, j < k → xs[j]? = some y → asksB u d body y = false) ∧ Seal (St w wr [Res.cells w.heap.size [.string u, .string d]])) (fun i _ => xs.length - (intOf i).toNat)
  case atStart => exact ⟨0, Nat.zero_le _, rfl, ⟨fun j y hj => by omega⟩, S0⟩
  case round =>
    obtain ⟨k, hk, rfl, HN, S⟩ := hrel
    clear S0
    by_cases hlt : k < xs.length
    · obtain ⟨x, hx⟩ : ∃ x, xs[k]? = some x := ⟨_, List.getElem?_eq_getElem hlt⟩
      obtain ⟨b, off, rfl, c0, c1, c2, c3, c4⟩ := ruleAt (HA.out.below ruleP_stays S.out.below (Nat.le_refl _)) hx
      have g0 := S.out.head.c 0 _ rfl
      have g1 := S.out.head.c 1 _ rfl
      have HX : Seal _ := ⟨hx⟩
      have HZX : Seal _ := ⟨HZ.out x (List.mem_of_getElem? hx)⟩
      have HRr : Seal _ := ⟨HR.out.below S.out.below (Nat.le_refl _)⟩
      obtain ⟨v, hv⟩ : ∃ v, asksB u d body x = v := ⟨_, rfl⟩
      have HV : Seal _ := ⟨hv⟩
      have C : Seal (∀ W, Below wr.heap.size wr W → Calls Tryd.prog 79 #[.agg (ruleV x), .agg #[.string u, .string d], .slice ao body.length cap] W fun e w' => e = .returned (.bool v) ∧ Below W.heap.size W w') := ⟨fun W hW => by rw [← HV.out]; exact l13Asks_any x u d ao cap body W HZX.out hd (HRr.out.below hW (Nat.le_refl _)) hl HS.out⟩
      clear hx hv
      cases v
      · have HN2 : Seal (∀ j y, j < k + 1 → xs[j]? = some y → asksB u d body y = false) := ⟨fun j y hj hy => by
          rcases Nat.lt_or_eq_of_le (Nat.le_of_lt_succ hj) with h1 | h1
          · exact HN.out j y h1 hy
          · subst h1
            rw [HX.out] at hy
            cases hy
            exact HV.out⟩
        clear HN
        go_wp2_with fail
        go_region_held3 (fun w' => w'.cell? ⟨b, off + k * 5, none⟩ = some (.int .i64 x.ask) ∧ w'.cell? ⟨b, off + k * 5 + 1, none⟩ = some (.string x.txt) ∧ w'.cell? ⟨b, off + k * 5 + 2, none⟩ = some (.int .i64 x.act) ∧ w'.cell? ⟨b, off + k * 5 + 3, none⟩ = some (.string x.u) ∧ w'.cell? ⟨b, off + k * 5 + 4, none⟩ = some (.string x.d) ∧ w'.cell? ⟨w.heap.size, 0, none⟩ = some (.string u) ∧ w'.cell? ⟨w.heap.size, 1, none⟩ = some (.string d) ∧ Below wr.heap.size wr w') (first | exact ⟨c0, c1, c2, c3, c4, g0, g1, (Below.refl _ _).drew⟩ | (go_split_ands; exact ⟨heldc (by assumption) hb1, heldc (by assumption) hb1, heldc (by assumption) hb1, heldc (by assumption) hb1, heldc (by assumption) hb1, heldc (by assumption) hb1, heldc (by assumption) hb1, (by assumption : Below wr.heap.size wr _).trans (hb1.mono (by assumption : Below wr.heap.size wr _).size)⟩) | (go_split_ands; exact ⟨by assumption, by assumption, by assumption, by assumption, by assumption, by assumption, by assumption, Below.drew (by assumption)⟩) | (go_split_ands; exact ⟨by assumption, by assumption, by assumption, by assumption, by assumption, by assumption, by assumption, by assumption⟩)) (first | (go_at_call 79; go_split_ands; refine (C.out _ (by assumption : Below wr.heap.size wr _)).mono ?_; rintro e w1 ⟨rfl, hb1⟩))
        go_split_ands
        have hbx := (by assumption : Below wr.heap.size wr _)
        have S2 : Seal _ := ⟨S.out.later hbx⟩
        go_wp2
        go_roundw
        case rel => exact ⟨k + 1, by omega, by go_num, HN2, S2⟩
        case measure => simp [intOf]; omega
      · have hm : Seal (firstR (asksB u d body) xs = k) := ⟨firstR_hit HX.out HV.out HN.out⟩
        clear HN
        go_wp2_with fail
        go_region_held3 (fun w' => w'.cell? ⟨b, off + k * 5, none⟩ = some (.int .i64 x.ask) ∧ w'.cell? ⟨b, off + k * 5 + 1, none⟩ = some (.string x.txt) ∧ w'.cell? ⟨b, off + k * 5 + 2, none⟩ = some (.int .i64 x.act) ∧ w'.cell? ⟨b, off + k * 5 + 3, none⟩ = some (.string x.u) ∧ w'.cell? ⟨b, off + k * 5 + 4, none⟩ = some (.string x.d) ∧ w'.cell? ⟨w.heap.size, 0, none⟩ = some (.string u) ∧ w'.cell? ⟨w.heap.size, 1, none⟩ = some (.string d) ∧ Below wr.heap.size wr w') (first | exact ⟨c0, c1, c2, c3, c4, g0, g1, (Below.refl _ _).drew⟩ | (go_split_ands; exact ⟨heldc (by assumption) hb1, heldc (by assumption) hb1, heldc (by assumption) hb1, heldc (by assumption) hb1, heldc (by assumption) hb1, heldc (by assumption) hb1, heldc (by assumption) hb1, (by assumption : Below wr.heap.size wr _).trans (hb1.mono (by assumption : Below wr.heap.size wr _).size)⟩) | (go_split_ands; exact ⟨by assumption, by assumption, by assumption, by assumption, by assumption, by assumption, by assumption, Below.drew (by assumption)⟩) | (go_split_ands; exact ⟨by assumption, by assumption, by assumption, by assumption, by assumption, by assumption, by assumption, by assumption⟩)) (first | (go_at_call 79; go_split_ands; refine (C.out _ (by assumption : Below wr.heap.size wr _)).mono ?_; rintro e w1 ⟨rfl, hb1⟩))
        go_split_ands
        have hbx := (by assumption : Below wr.heap.size wr _)
        have S2 : Seal _ := ⟨S.out.later hbx⟩
        go_wp2
        go_ret
        exact ⟨ret_n hm.out.symm, S2.out.below⟩
    · obtain rfl : k = xs.length := by omega
      have hm : Seal (firstR (asksB u d body) xs = -1) := ⟨firstR_none HN.out⟩
      go_wp2
      go_ret
      exact ⟨ret_n hm.out.symm, S.out.below⟩

set_option maxHeartbeats 1600000 in
set_option maxRecDepth 100000 in
theorem specSieveFor_any (a1 : Option Addr) (c1 : Nat) (xs : List RuleD) (m : MailD) (b1 : Option Addr) (d1 : Nat) (b2 : Option Addr) (d2 : Nat) (w : World) (hx : RuleRow w a1 xs) (hxl : xs.length ≤ 1048576) (hz : ∀ x ∈ xs, ruleN x ≤ 1048576) (hat : MailAt w m b1 b2) (hsz : MailSz 1048576 m) :
    Calls Tryd.prog 11 #[.slice a1 xs.length c1, .agg (mailV m b1 d1 b2 d2)] w fun e w' => e = .returned (.int .i64 (whichB xs m)) ∧ Below w.heap.size w w' := by
  have HX : Seal _ := ⟨hx⟩
  have HZ : Seal _ := ⟨hz⟩
  have HA : Seal _ := ⟨hat⟩
  have HMZ : Seal _ := ⟨hsz⟩
  have z2 := hsz.bol
  have zf := hsz.fd
  have S0 : Seal _ := ⟨(St.start w).alloc (mailV m b1 d1 b2 d2) 29⟩
  obtain ⟨v1, h1⟩ : ∃ v, rulesB xs = v := ⟨_, rfl⟩
  obtain ⟨v2, h2⟩ : ∃ v, mailB m = v := ⟨_, rfl⟩
  have H1 : Seal _ := ⟨h1⟩
  have H2 : Seal _ := ⟨h2⟩
  clear hx hz hat hsz h1 h2
  go_enter Tryd.func11, Tryd.ntmps11
  go_wp2_with fail
  refine (l13Ok_any a1 c1 xs _ (HX.out.below ruleP_stays S0.out.below (Nat.le_refl _)) hxl HZ.out).mono ?_
  rintro e w1 ⟨rfl, hb1⟩
  rw [H1.out]
  have S1 : Seal _ := ⟨S0.out.later hb1⟩
  have K1 := S1.out.head
  have y0 := K1.c 0 _ rfl
  have y1 := K1.c 1 _ rfl
  have y2 := K1.c 2 _ rfl
  have y3 := K1.c 3 _ rfl
  clear hb1 S0 K1
  cases v1
  · have hm : Seal (whichB xs m = -1) := ⟨whichB_rules H1.out⟩
    go_wp2
    go_ret
    exact ⟨ret_n hm.out.symm, S1.out.below⟩
  go_wp2_with fail
  refine (l2Ok_any m b1 d1 b2 d2 _ (HA.out.below S1.out.below (Nat.le_refl _)) HMZ.out).mono ?_
  rintro e w2 ⟨rfl, hb2⟩
  rw [H2.out]
  have S2 : Seal _ := ⟨S1.out.later hb2⟩
  have K2 := S2.out.head
  have u0 := K2.c 0 _ rfl
  have u1 := K2.c 1 _ rfl
  have u2 := K2.c 2 _ rfl
  have u3 := K2.c 3 _ rfl
  clear hb2 S1 K2 y0 y1 y2 y3
  cases v2
  · have hm : Seal (whichB xs m = -1) := ⟨whichB_mail H1.out H2.out⟩
    go_wp2
    go_ret
    exact ⟨ret_n hm.out.symm, S2.out.below⟩
  have hm : Seal (whichB xs m = firstR (asksB m.fu m.fd m.body) xs) := ⟨whichB_yes H1.out H2.out⟩
  have C : Seal (∀ W, Below w.heap.size w W → Calls Tryd.prog 41 #[.slice a1 xs.length c1, .agg #[.string m.fu, .string m.fd], .slice b2 m.body.length d2] W fun e w' => e = .returned (.int .i64 (firstR (asksB m.fu m.fd m.body) xs)) ∧ Below W.heap.size W w') := ⟨fun W hW => l13Rule_any a1 c1 xs m.fu m.fd b2 d2 m.body W (HX.out.below ruleP_stays hW (Nat.le_refl _)) hxl HZ.out zf (HA.out.body.below hW (Nat.le_refl _)) z2 HMZ.out.bos⟩
  go_wp2_with fail
  refine (C.out _ S2.out.below).mono ?_
  rintro e w3 ⟨rfl, hb3⟩
  have S3 : Seal _ := ⟨S2.out.later hb3⟩
  clear hb3 C
  go_wp2
  go_ret
  exact ⟨ret_n hm.out.symm, S3.out.below⟩
end Go.Proofs.YtgniokkiejoccaaDoor
