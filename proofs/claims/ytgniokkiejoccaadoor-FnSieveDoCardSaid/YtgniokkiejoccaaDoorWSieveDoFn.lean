/- The walk of FnSieveDo. -/
import Derived.Test.YtgniokkiejoccaaDoorDrawSieveDo
import Derived.Test.YtgniokkiejoccaaDoorPlainSieves
import Derived.Test.YtgniokkiejoccaaDoorSieveDos
import Derived.Test.YtgniokkiejoccaaDoorSaMail
import Derived.Deep.RegionHeld3
namespace Go.Proofs.YtgniokkiejoccaaDoor
open Go Go.RowKit

theorem deed_nil (m : MailD) (h : mailB m = true) : deedB [] m = 1 := by
  unfold deedB whichB
  rw [h]
  rfl
theorem sent_ok {x : RuleD} {m : MailD} (h : ruleB x = true) (h3 : x.act = 3) (hm : mailB m = true) : mailB (sentM x m) = true := by
  unfold ruleB actB at h
  rw [Bool.and_eq_true, if_neg (by omega), Bool.and_eq_true] at h
  have h1 := h.2.2
  unfold mailB at hm ⊢
  rw [Bool.and_eq_true, Bool.and_eq_true] at hm
  unfold sentM toB pairB
  simp [hm.1, hm.2.2, h1]
def SomeB (w : World) (e : Ending) (w' : World) : Prop := ∃ v, e = .returned (.bool v) ∧ w = w'
theorem saTexts_none (ao : Option Addr) (c1 c2 : Nat) (bo : Option Addr) (n : Nat) (w : World) :
    Calls Tryd.prog 19 #[.slice bo 0 c1, .slice ao n c2] w (SomeB w) := by
  by_cases hn : n = 0
  · subst hn
    go_enter Tryd.func19, Tryd.ntmps19
    go_wp2
    go_loop [5] (fun i => i = .int .i64 0) (fun _ => 0)
    case atStart => rfl
    case round =>
      subst hrel
      go_wp2
      go_ret
      exact ⟨_, rfl, rfl⟩
  · have h0 : ((0 : Int) != (n : Int)) = true := by rw [bne_iff_ne]; omega
    have h1 : ((0 : Int) == (n : Int)) = false := by rw [beq_eq_false_iff_ne]; omega
    clear hn
    go_enter Tryd.func19, Tryd.ntmps19
    go_wp2
    go_ret
    exact ⟨_, rfl, rfl⟩

set_option maxHeartbeats 12800000 in
set_option maxRecDepth 100000 in
theorem wFnSieveDo.walk (ao : Option Addr) (len cap : Nat) (w : World) (hr : ByteRow w ao len) (hl : len ≤ cap) (hc : cap ≤ maxLen) (hm : HasMax w) :
    Calls Tryd.prog 4 #[.slice ao len cap] w fun e w' => e = .returned (.bool true) ∧ Below w.heap.size w w' := by
  have hc' := hc
  unfold maxLen at hc'
  by_cases hbig : 1048576 < len
  · clear hr hm
    go_enter Tryd.func4, Tryd.ntmps4
    go_wp2
    go_ret
    exact ⟨rfl, Below.refl _ _⟩
  have CD : Seal _ := ⟨drawSieveDo_any ao len cap w hr hl hc⟩
  have HM : Seal (HasMax w) := ⟨hm⟩
  clear hr hc hm
  go_enter Tryd.func4, Tryd.ntmps4
  go_wp2_with fail
  refine CD.out.mono ?_
  rintro e w1 ⟨xs, bo, d, m, a1, c1, a2, c2, rfl, hx, hd, s1⟩
  have z1 : xs.length ≤ 5 := hx.1
  have HZ : Seal (∀ x ∈ xs, ruleN x ≤ 1048576) := ⟨fun x h => Nat.le_trans (hx.2 x h) (by omega)⟩
  have HMZ : Seal (MailSz 1048576 m) := ⟨hd.sz.mono (by omega)⟩
  have z2 := HMZ.out.rcl
  have z3 := HMZ.out.bol
  have HKC := s1.tail.head
  obtain ⟨_, _, ecap, kcap⟩ := rules_value (v := .slice bo xs.length d) (xs := xs) HKC
  cases ecap
  obtain ⟨L, hL⟩ : ∃ L, w1.heap.size = L := ⟨_, rfl⟩
  have S1 : Seal (St w (w1.alloc (.cells (mailV m a1 c1 a2 c2) 29)) [Res.cells L [.string m.fu, .string m.fd, .slice a1 m.rc.length c1, .slice a2 m.body.length c2], Res.mail m a1 c1 a2 c2, rulesR bo d xs]) := ⟨hL ▸ s1.alloc (mailV m a1 c1 a2 c2) 29⟩
  have KC := s1.mailOwn.rc.cap
  obtain ⟨D, hD⟩ : ∃ D, didM xs m = D := ⟨_, rfl⟩
  obtain ⟨q, hq⟩ : ∃ q, deedB xs m = q := ⟨_, rfl⟩
  obtain ⟨v, hv⟩ : ∃ v, whichB xs m = v := ⟨_, rfl⟩
  have HD : Seal _ := ⟨hD⟩
  have HQ : Seal _ := ⟨hq⟩
  have HV : Seal _ := ⟨hv⟩
  have CI : Seal (∀ W, HasMax W → (rulesR bo d xs).P W → (Res.mail m a1 c1 a2 c2).P W → Calls Tryd.prog 16 #[.slice bo xs.length d, .agg (mailV m a1 c1 a2 c2)] W fun e w' => ∃ b1 d1 b2 d2, e = .returned (.tuple #[.agg (mailV D b1 d1 b2 d2), .int .i64 q]) ∧ MailOwn w' W.heap.size D b1 d1 b2 d2 ∧ Below W.heap.size W w') := ⟨fun W h0 h1 h2 => by rw [← HD.out, ← HQ.out]; exact implSieveDo_any bo d xs 0 m a1 c1 a2 c2 W h0 (rules_read h1) (by omega) HZ.out h2 HMZ.out⟩
  have CS : Seal (∀ W, (rulesR bo d xs).P W → (Res.mail m a1 c1 a2 c2).P W → Calls Tryd.prog 17 #[.slice bo xs.length d, .agg (mailV m a1 c1 a2 c2)] W fun e w' => ∃ b1 d1 b2 d2, e = .returned (.tuple #[.agg (mailV D b1 d1 b2 d2), .int .i64 q]) ∧ MailOwn w' W.heap.size D b1 d1 b2 d2 ∧ Below W.heap.size W w') := ⟨fun W h1 h2 => by rw [← HD.out, ← HQ.out]; exact specSieveDo_any bo d xs 0 m a1 c1 a2 c2 W (rules_read h1) (by omega) HZ.out h2 HMZ.out⟩
  have CF : Seal (∀ W, HasMax W → (rulesR bo d xs).P W → (Res.mail m a1 c1 a2 c2).P W → Calls Tryd.prog 10 #[.slice bo xs.length d, .agg (mailV m a1 c1 a2 c2)] W fun e w' => e = .returned (.int .i64 v) ∧ Below W.heap.size W w') := ⟨fun W h0 h1 h2 => HV.out ▸ implSieveFor_any bo d xs m a1 c1 a2 c2 W h0 (rules_read h1) (by omega) HZ.out h2.at HMZ.out KC⟩
  have DZ : Seal (MailSz 1048576 D) := ⟨by
    rw [← hD]
    cases h1 : rulesB xs && mailB m with
    | false => rw [(did_none h1).1]; exact ⟨by decide, by decide, by decide, fun p hp => (by cases hp), by decide, fun p hp => (by cases hp)⟩
    | true =>
      rw [Bool.and_eq_true] at h1
      rcases which_cases h1.1 h1.2 with ⟨_, h3, _⟩ | ⟨k, x, _, hx, _, h3, _⟩
      · rw [h3]; exact HMZ.out
      · rw [h3]; unfold actM
        split
        · exact ⟨by decide, by decide, by decide, fun p hp => (by cases hp), by decide, fun p hp => (by cases hp)⟩
        · split
          · exact sent_sz HMZ.out (HZ.out x (List.mem_of_getElem? hx))
          · exact HMZ.out⟩
  have z5 := DZ.out.rcl
  have z6 := DZ.out.bol
  clear CD hx hd s1 HKC
  go_wp2_with fail
  generalize w1.alloc (.cells (mailV m a1 c1 a2 c2) 29) = W1 at *
  clear hL
  refine (CI.out _ (HM.out.below S1.out.below (Nat.le_refl _)) (S1.out.get (r := rulesR bo d xs) (by simp)) (S1.out.get (r := Res.mail m a1 c1 a2 c2) (by simp))).mono ?_
  rintro e wq ⟨b1, d1, b2, d2, rfl, oq, hq9⟩
  obtain ⟨L5, hL5⟩ : ∃ L, wq.heap.size = L := ⟨_, rfl⟩
  have S2 : Seal (St w (wq.alloc (.cells (mailV D b1 d1 b2 d2) 29)) [Res.cells L5 [.string D.fu, .string D.fd, .slice b1 D.rc.length d1, .slice b2 D.body.length d2], Res.mail D b1 d1 b2 d2, Res.cells L [.string m.fu, .string m.fd, .slice a1 m.rc.length c1, .slice a2 m.body.length c2], Res.mail m a1 c1 a2 c2, rulesR bo d xs]) := ⟨hL5 ▸ (S1.out.mail hq9 oq).alloc (mailV D b1 d1 b2 d2) 29⟩
  clear oq hq9 S1
  have g0 := (S2.out.get (r := Res.cells L [.string m.fu, .string m.fd, .slice a1 m.rc.length c1, .slice a2 m.body.length c2]) (by simp)).c 0 _ rfl
  have g1 := (S2.out.get (r := Res.cells L [.string m.fu, .string m.fd, .slice a1 m.rc.length c1, .slice a2 m.body.length c2]) (by simp)).c 1 _ rfl
  have g2 := (S2.out.get (r := Res.cells L [.string m.fu, .string m.fd, .slice a1 m.rc.length c1, .slice a2 m.body.length c2]) (by simp)).c 2 _ rfl
  have g3 := (S2.out.get (r := Res.cells L [.string m.fu, .string m.fd, .slice a1 m.rc.length c1, .slice a2 m.body.length c2]) (by simp)).c 3 _ rfl
  go_wp2_with fail
  generalize wq.alloc (.cells (mailV D b1 d1 b2 d2) 29) = W2 at *
  clear hL5
  refine (CS.out _ (S2.out.get (r := rulesR bo d xs) (by simp)) (S2.out.get (r := Res.mail m a1 c1 a2 c2) (by simp))).mono ?_
  clear g0 g1 g2 g3
  rintro e wq ⟨p1, k1, p2, k2, rfl, oq, hq9⟩
  obtain ⟨L7, hL7⟩ : ∃ L, wq.heap.size = L := ⟨_, rfl⟩
  have S3 : Seal (St w (wq.alloc (.cells (mailV D p1 k1 p2 k2) 29)) [Res.cells L7 [.string D.fu, .string D.fd, .slice p1 D.rc.length k1, .slice p2 D.body.length k2], Res.mail D p1 k1 p2 k2, Res.cells L5 [.string D.fu, .string D.fd, .slice b1 D.rc.length d1, .slice b2 D.body.length d2], Res.mail D b1 d1 b2 d2, Res.cells L [.string m.fu, .string m.fd, .slice a1 m.rc.length c1, .slice a2 m.body.length c2], Res.mail m a1 c1 a2 c2, rulesR bo d xs]) := ⟨hL7 ▸ (S2.out.mail hq9 oq).alloc (mailV D p1 k1 p2 k2) 29⟩
  clear oq hq9 S2
  have x0 := (S3.out.get (r := Res.cells L5 [.string D.fu, .string D.fd, .slice b1 D.rc.length d1, .slice b2 D.body.length d2]) (by simp)).c 0 _ rfl
  have x1 := (S3.out.get (r := Res.cells L5 [.string D.fu, .string D.fd, .slice b1 D.rc.length d1, .slice b2 D.body.length d2]) (by simp)).c 1 _ rfl
  have x2 := (S3.out.get (r := Res.cells L5 [.string D.fu, .string D.fd, .slice b1 D.rc.length d1, .slice b2 D.body.length d2]) (by simp)).c 2 _ rfl
  have x3 := (S3.out.get (r := Res.cells L5 [.string D.fu, .string D.fd, .slice b1 D.rc.length d1, .slice b2 D.body.length d2]) (by simp)).c 3 _ rfl
  go_wp2_with fail
  generalize wq.alloc (.cells (mailV D p1 k1 p2 k2) 29) = W3 at *
  clear hL7
  have e1 : (q != q) = false := by simp
  have e2 : (q == q) = true := by simp
  refine (saMailEq D b1 d1 b2 d2 p1 k1 p2 k2 _ (S3.out.get (r := Res.mail D b1 d1 b2 d2) (by simp)).at (S3.out.get (r := Res.mail D p1 k1 p2 k2) (by simp)).at (by omega) (by omega)).mono ?_
  rintro e w9 ⟨rfl, hb⟩
  have S4 : Seal _ := ⟨S3.out.later hb⟩
  clear hb S3
  clear x0 x1 x2 x3
  cases hok : rulesB xs && mailB m
  · have hq1 : q = -1 := by rw [← HQ.out]; exact (did_none hok).2
    subst hq1
    have x0 := (S4.out.get (r := Res.cells L5 [.string D.fu, .string D.fd, .slice b1 D.rc.length d1, .slice b2 D.body.length d2]) (by simp)).c 0 _ rfl
    have x1 := (S4.out.get (r := Res.cells L5 [.string D.fu, .string D.fd, .slice b1 D.rc.length d1, .slice b2 D.body.length d2]) (by simp)).c 1 _ rfl
    have x2 := (S4.out.get (r := Res.cells L5 [.string D.fu, .string D.fd, .slice b1 D.rc.length d1, .slice b2 D.body.length d2]) (by simp)).c 2 _ rfl
    have x3 := (S4.out.get (r := Res.cells L5 [.string D.fu, .string D.fd, .slice b1 D.rc.length d1, .slice b2 D.body.length d2]) (by simp)).c 3 _ rfl
    have y0 := (S4.out.get (r := Res.cells L7 [.string D.fu, .string D.fd, .slice p1 D.rc.length k1, .slice p2 D.body.length k2]) (by simp)).c 0 _ rfl
    have y1 := (S4.out.get (r := Res.cells L7 [.string D.fu, .string D.fd, .slice p1 D.rc.length k1, .slice p2 D.body.length k2]) (by simp)).c 1 _ rfl
    have y2 := (S4.out.get (r := Res.cells L7 [.string D.fu, .string D.fd, .slice p1 D.rc.length k1, .slice p2 D.body.length k2]) (by simp)).c 2 _ rfl
    have y3 := (S4.out.get (r := Res.cells L7 [.string D.fu, .string D.fd, .slice p1 D.rc.length k1, .slice p2 D.body.length k2]) (by simp)).c 3 _ rfl
    go_wp2_with fail
    refine (saMailEq D b1 d1 b2 d2 p1 k1 p2 k2 _ (S4.out.get (r := Res.mail D b1 d1 b2 d2) (by simp)).at (S4.out.get (r := Res.mail D p1 k1 p2 k2) (by simp)).at (by omega) (by omega)).mono ?_
    rintro e w9 ⟨rfl, hb⟩
    have S5 : Seal _ := ⟨S4.out.later hb⟩
    clear hb S4
    go_wp2
    go_ret
    exact ⟨rfl, S5.out.below⟩
  rw [Bool.and_eq_true] at hok
  have HR : Seal _ := ⟨hok.1⟩
  have HMB : Seal _ := ⟨hok.2⟩
  obtain ⟨N, hN⟩ : ∃ N, didM [] m = N := ⟨_, rfl⟩
  have HN : Seal _ := ⟨hN⟩
  have HN1 : Seal _ := ⟨deed_nil m hok.2⟩
  have CN : Seal (∀ W, HasMax W → (Res.mail m a1 c1 a2 c2).P W → Calls Tryd.prog 16 #[.slice none 0 0, .agg (mailV m a1 c1 a2 c2)] W fun e w' => ∃ b1 d1 b2 d2, e = .returned (.tuple #[.agg (mailV N b1 d1 b2 d2), .int .i64 1]) ∧ MailOwn w' W.heap.size N b1 d1 b2 d2 ∧ Below W.heap.size W w') := ⟨fun W h0 h2 => by rw [← HN.out, ← HN1.out]; exact implSieveDo_any none 0 [] 0 m a1 c1 a2 c2 W h0 (fun k x hx => by cases hx) (by simp) (fun x hx => by cases hx) h2 HMZ.out⟩
  have CA : Seal (∀ W, HasMax W → (Res.mail D b1 d1 b2 d2).P W → Calls Tryd.prog 14 #[.agg (mailV D b1 d1 b2 d2)] W fun e w' => e = .returned (.bool (mailB D)) ∧ Below W.heap.size W w') := ⟨fun W h0 h2 => implMailOk_any D b1 d1 b2 d2 W h0 h2.at DZ.out h2.rc.cap⟩
  have hc0 := which_cases hok.1 hok.2
  rw [HV.out, HD.out, HQ.out] at hc0
  clear hok hN hD hq hv
  rcases hc0 with ⟨rfl, hd2, rfl⟩ | ⟨k, x, rfl, hx, hrb, hd2, hact⟩
  · skip
    have hd9 : m = D := hd2.symm
    clear hd2
    subst hd9
    have g0 := (S4.out.get (r := Res.cells L [.string m.fu, .string m.fd, .slice a1 m.rc.length c1, .slice a2 m.body.length c2]) (by simp)).c 0 _ rfl
    have g1 := (S4.out.get (r := Res.cells L [.string m.fu, .string m.fd, .slice a1 m.rc.length c1, .slice a2 m.body.length c2]) (by simp)).c 1 _ rfl
    have g2 := (S4.out.get (r := Res.cells L [.string m.fu, .string m.fd, .slice a1 m.rc.length c1, .slice a2 m.body.length c2]) (by simp)).c 2 _ rfl
    have g3 := (S4.out.get (r := Res.cells L [.string m.fu, .string m.fd, .slice a1 m.rc.length c1, .slice a2 m.body.length c2]) (by simp)).c 3 _ rfl
    have x0 := (S4.out.get (r := Res.cells L5 [.string m.fu, .string m.fd, .slice b1 m.rc.length d1, .slice b2 m.body.length d2]) (by simp)).c 0 _ rfl
    have x1 := (S4.out.get (r := Res.cells L5 [.string m.fu, .string m.fd, .slice b1 m.rc.length d1, .slice b2 m.body.length d2]) (by simp)).c 1 _ rfl
    have x2 := (S4.out.get (r := Res.cells L5 [.string m.fu, .string m.fd, .slice b1 m.rc.length d1, .slice b2 m.body.length d2]) (by simp)).c 2 _ rfl
    have x3 := (S4.out.get (r := Res.cells L5 [.string m.fu, .string m.fd, .slice b1 m.rc.length d1, .slice b2 m.body.length d2]) (by simp)).c 3 _ rfl
    go_wp2_with fail
    refine (CN.out _ (HM.out.below S4.out.below (Nat.le_refl _)) (S4.out.get (r := Res.mail m a1 c1 a2 c2) (by simp))).mono ?_
    clear g0 g1 g2 g3 x0 x1 x2 x3
    rintro e wq ⟨t1, i1, t2, i2, rfl, oq, hq9⟩
    obtain ⟨L9, hL9⟩ : ∃ L, wq.heap.size = L := ⟨_, rfl⟩
    have S5 : Seal (St w (wq.alloc (.cells (mailV N t1 i1 t2 i2) 29)) [Res.cells L9 [.string N.fu, .string N.fd, .slice t1 N.rc.length i1, .slice t2 N.body.length i2], Res.mail N t1 i1 t2 i2, Res.cells L7 [.string m.fu, .string m.fd, .slice p1 m.rc.length k1, .slice p2 m.body.length k2], Res.mail m p1 k1 p2 k2, Res.cells L5 [.string m.fu, .string m.fd, .slice b1 m.rc.length d1, .slice b2 m.body.length d2], Res.mail m b1 d1 b2 d2, Res.cells L [.string m.fu, .string m.fd, .slice a1 m.rc.length c1, .slice a2 m.body.length c2], Res.mail m a1 c1 a2 c2, rulesR bo d xs]) := ⟨hL9 ▸ (S4.out.mail hq9 oq).alloc (mailV N t1 i1 t2 i2) 29⟩
    clear oq hq9 S4
    have g0 := (S5.out.get (r := Res.cells L [.string m.fu, .string m.fd, .slice a1 m.rc.length c1, .slice a2 m.body.length c2]) (by simp)).c 0 _ rfl
    have g1 := (S5.out.get (r := Res.cells L [.string m.fu, .string m.fd, .slice a1 m.rc.length c1, .slice a2 m.body.length c2]) (by simp)).c 1 _ rfl
    have g2 := (S5.out.get (r := Res.cells L [.string m.fu, .string m.fd, .slice a1 m.rc.length c1, .slice a2 m.body.length c2]) (by simp)).c 2 _ rfl
    have g3 := (S5.out.get (r := Res.cells L [.string m.fu, .string m.fd, .slice a1 m.rc.length c1, .slice a2 m.body.length c2]) (by simp)).c 3 _ rfl
    go_wp2_with fail
    generalize wq.alloc (.cells (mailV N t1 i1 t2 i2) 29) = W5 at *
    clear hL9
    refine (CF.out _ (HM.out.below S5.out.below (Nat.le_refl _)) (S5.out.get (r := rulesR bo d xs) (by simp)) (S5.out.get (r := Res.mail m a1 c1 a2 c2) (by simp))).mono ?_
    rintro e w9 ⟨rfl, hb⟩
    have S6 : Seal _ := ⟨S5.out.later hb⟩
    clear hb S5
    clear g0 g1 g2 g3
    have g0 := (S6.out.get (r := Res.cells L [.string m.fu, .string m.fd, .slice a1 m.rc.length c1, .slice a2 m.body.length c2]) (by simp)).c 0 _ rfl
    have g1 := (S6.out.get (r := Res.cells L [.string m.fu, .string m.fd, .slice a1 m.rc.length c1, .slice a2 m.body.length c2]) (by simp)).c 1 _ rfl
    have g2 := (S6.out.get (r := Res.cells L [.string m.fu, .string m.fd, .slice a1 m.rc.length c1, .slice a2 m.body.length c2]) (by simp)).c 2 _ rfl
    have g3 := (S6.out.get (r := Res.cells L [.string m.fu, .string m.fd, .slice a1 m.rc.length c1, .slice a2 m.body.length c2]) (by simp)).c 3 _ rfl
    have x0 := (S6.out.get (r := Res.cells L5 [.string m.fu, .string m.fd, .slice b1 m.rc.length d1, .slice b2 m.body.length d2]) (by simp)).c 0 _ rfl
    have x1 := (S6.out.get (r := Res.cells L5 [.string m.fu, .string m.fd, .slice b1 m.rc.length d1, .slice b2 m.body.length d2]) (by simp)).c 1 _ rfl
    have x2 := (S6.out.get (r := Res.cells L5 [.string m.fu, .string m.fd, .slice b1 m.rc.length d1, .slice b2 m.body.length d2]) (by simp)).c 2 _ rfl
    have x3 := (S6.out.get (r := Res.cells L5 [.string m.fu, .string m.fd, .slice b1 m.rc.length d1, .slice b2 m.body.length d2]) (by simp)).c 3 _ rfl
    go_wp2_with fail
    refine (saTextsEq b2 a2 d2 c2 m.body _ (S6.out.get (r := Res.mail m b1 d1 b2 d2) (by simp)).at.body (S6.out.get (r := Res.mail m a1 c1 a2 c2) (by simp)).at.body (by omega)).mono ?_
    rintro e w9 ⟨rfl, hb⟩
    have S7 : Seal _ := ⟨S6.out.later hb⟩
    clear hb S6
    clear g0 g1 g2 g3 x0 x1 x2 x3
    have g0 := (S7.out.get (r := Res.cells L [.string m.fu, .string m.fd, .slice a1 m.rc.length c1, .slice a2 m.body.length c2]) (by simp)).c 0 _ rfl
    have g1 := (S7.out.get (r := Res.cells L [.string m.fu, .string m.fd, .slice a1 m.rc.length c1, .slice a2 m.body.length c2]) (by simp)).c 1 _ rfl
    have g2 := (S7.out.get (r := Res.cells L [.string m.fu, .string m.fd, .slice a1 m.rc.length c1, .slice a2 m.body.length c2]) (by simp)).c 2 _ rfl
    have g3 := (S7.out.get (r := Res.cells L [.string m.fu, .string m.fd, .slice a1 m.rc.length c1, .slice a2 m.body.length c2]) (by simp)).c 3 _ rfl
    have x0 := (S7.out.get (r := Res.cells L5 [.string m.fu, .string m.fd, .slice b1 m.rc.length d1, .slice b2 m.body.length d2]) (by simp)).c 0 _ rfl
    have x1 := (S7.out.get (r := Res.cells L5 [.string m.fu, .string m.fd, .slice b1 m.rc.length d1, .slice b2 m.body.length d2]) (by simp)).c 1 _ rfl
    have x2 := (S7.out.get (r := Res.cells L5 [.string m.fu, .string m.fd, .slice b1 m.rc.length d1, .slice b2 m.body.length d2]) (by simp)).c 2 _ rfl
    have x3 := (S7.out.get (r := Res.cells L5 [.string m.fu, .string m.fd, .slice b1 m.rc.length d1, .slice b2 m.body.length d2]) (by simp)).c 3 _ rfl
    go_wp2_with fail
    refine (saMailEq m b1 d1 b2 d2 a1 c1 a2 c2 _ (S7.out.get (r := Res.mail m b1 d1 b2 d2) (by simp)).at (S7.out.get (r := Res.mail m a1 c1 a2 c2) (by simp)).at (by omega) (by omega)).mono ?_
    rintro e w9 ⟨rfl, hb⟩
    have S8 : Seal _ := ⟨S7.out.later hb⟩
    clear hb S7
    go_wp2
    go_ret
    exact ⟨rfl, S8.out.below⟩
  · have HRB : Seal _ := ⟨hrb⟩
    rcases act_of hrb with ha | ha | ha
    · have hd3 : actM x m = m := by unfold actM; rw [ha]; rfl
      rw [hd3] at hd2
      obtain rfl : q = 1 := hact.trans ha
      clear hd3 hact hrb
      have HX : Seal _ := ⟨hx⟩
      have HA : Seal _ := ⟨ha⟩
      have hd9 : m = D := hd2.symm
      clear hd2
      subst hd9
      have g0 := (S4.out.get (r := Res.cells L [.string m.fu, .string m.fd, .slice a1 m.rc.length c1, .slice a2 m.body.length c2]) (by simp)).c 0 _ rfl
      have g1 := (S4.out.get (r := Res.cells L [.string m.fu, .string m.fd, .slice a1 m.rc.length c1, .slice a2 m.body.length c2]) (by simp)).c 1 _ rfl
      have g2 := (S4.out.get (r := Res.cells L [.string m.fu, .string m.fd, .slice a1 m.rc.length c1, .slice a2 m.body.length c2]) (by simp)).c 2 _ rfl
      have g3 := (S4.out.get (r := Res.cells L [.string m.fu, .string m.fd, .slice a1 m.rc.length c1, .slice a2 m.body.length c2]) (by simp)).c 3 _ rfl
      have x0 := (S4.out.get (r := Res.cells L5 [.string m.fu, .string m.fd, .slice b1 m.rc.length d1, .slice b2 m.body.length d2]) (by simp)).c 0 _ rfl
      have x1 := (S4.out.get (r := Res.cells L5 [.string m.fu, .string m.fd, .slice b1 m.rc.length d1, .slice b2 m.body.length d2]) (by simp)).c 1 _ rfl
      have x2 := (S4.out.get (r := Res.cells L5 [.string m.fu, .string m.fd, .slice b1 m.rc.length d1, .slice b2 m.body.length d2]) (by simp)).c 2 _ rfl
      have x3 := (S4.out.get (r := Res.cells L5 [.string m.fu, .string m.fd, .slice b1 m.rc.length d1, .slice b2 m.body.length d2]) (by simp)).c 3 _ rfl
      go_wp2_with fail
      refine (CN.out _ (HM.out.below S4.out.below (Nat.le_refl _)) (S4.out.get (r := Res.mail m a1 c1 a2 c2) (by simp))).mono ?_
      clear g0 g1 g2 g3 x0 x1 x2 x3
      rintro e wq ⟨t1, i1, t2, i2, rfl, oq, hq9⟩
      obtain ⟨L9, hL9⟩ : ∃ L, wq.heap.size = L := ⟨_, rfl⟩
      have S5 : Seal (St w (wq.alloc (.cells (mailV N t1 i1 t2 i2) 29)) [Res.cells L9 [.string N.fu, .string N.fd, .slice t1 N.rc.length i1, .slice t2 N.body.length i2], Res.mail N t1 i1 t2 i2, Res.cells L7 [.string m.fu, .string m.fd, .slice p1 m.rc.length k1, .slice p2 m.body.length k2], Res.mail m p1 k1 p2 k2, Res.cells L5 [.string m.fu, .string m.fd, .slice b1 m.rc.length d1, .slice b2 m.body.length d2], Res.mail m b1 d1 b2 d2, Res.cells L [.string m.fu, .string m.fd, .slice a1 m.rc.length c1, .slice a2 m.body.length c2], Res.mail m a1 c1 a2 c2, rulesR bo d xs]) := ⟨hL9 ▸ (S4.out.mail hq9 oq).alloc (mailV N t1 i1 t2 i2) 29⟩
      clear oq hq9 S4
      have g0 := (S5.out.get (r := Res.cells L [.string m.fu, .string m.fd, .slice a1 m.rc.length c1, .slice a2 m.body.length c2]) (by simp)).c 0 _ rfl
      have g1 := (S5.out.get (r := Res.cells L [.string m.fu, .string m.fd, .slice a1 m.rc.length c1, .slice a2 m.body.length c2]) (by simp)).c 1 _ rfl
      have g2 := (S5.out.get (r := Res.cells L [.string m.fu, .string m.fd, .slice a1 m.rc.length c1, .slice a2 m.body.length c2]) (by simp)).c 2 _ rfl
      have g3 := (S5.out.get (r := Res.cells L [.string m.fu, .string m.fd, .slice a1 m.rc.length c1, .slice a2 m.body.length c2]) (by simp)).c 3 _ rfl
      go_wp2_with fail
      generalize wq.alloc (.cells (mailV N t1 i1 t2 i2) 29) = W5 at *
      clear hL9
      refine (CF.out _ (HM.out.below S5.out.below (Nat.le_refl _)) (S5.out.get (r := rulesR bo d xs) (by simp)) (S5.out.get (r := Res.mail m a1 c1 a2 c2) (by simp))).mono ?_
      rintro e w9 ⟨rfl, hb⟩
      have S6 : Seal _ := ⟨S5.out.later hb⟩
      clear hb S5
      clear g0 g1 g2 g3
      have g0 := (S6.out.get (r := Res.cells L [.string m.fu, .string m.fd, .slice a1 m.rc.length c1, .slice a2 m.body.length c2]) (by simp)).c 0 _ rfl
      have g1 := (S6.out.get (r := Res.cells L [.string m.fu, .string m.fd, .slice a1 m.rc.length c1, .slice a2 m.body.length c2]) (by simp)).c 1 _ rfl
      have g2 := (S6.out.get (r := Res.cells L [.string m.fu, .string m.fd, .slice a1 m.rc.length c1, .slice a2 m.body.length c2]) (by simp)).c 2 _ rfl
      have g3 := (S6.out.get (r := Res.cells L [.string m.fu, .string m.fd, .slice a1 m.rc.length c1, .slice a2 m.body.length c2]) (by simp)).c 3 _ rfl
      have x0 := (S6.out.get (r := Res.cells L5 [.string m.fu, .string m.fd, .slice b1 m.rc.length d1, .slice b2 m.body.length d2]) (by simp)).c 0 _ rfl
      have x1 := (S6.out.get (r := Res.cells L5 [.string m.fu, .string m.fd, .slice b1 m.rc.length d1, .slice b2 m.body.length d2]) (by simp)).c 1 _ rfl
      have x2 := (S6.out.get (r := Res.cells L5 [.string m.fu, .string m.fd, .slice b1 m.rc.length d1, .slice b2 m.body.length d2]) (by simp)).c 2 _ rfl
      have x3 := (S6.out.get (r := Res.cells L5 [.string m.fu, .string m.fd, .slice b1 m.rc.length d1, .slice b2 m.body.length d2]) (by simp)).c 3 _ rfl
      go_wp2_with fail
      refine (saTextsEq b2 a2 d2 c2 m.body _ (S6.out.get (r := Res.mail m b1 d1 b2 d2) (by simp)).at.body (S6.out.get (r := Res.mail m a1 c1 a2 c2) (by simp)).at.body (by omega)).mono ?_
      rintro e w9 ⟨rfl, hb⟩
      have S7 : Seal _ := ⟨S6.out.later hb⟩
      clear hb S6
      clear g0 g1 g2 g3 x0 x1 x2 x3
      have g0 := (S7.out.get (r := Res.cells L [.string m.fu, .string m.fd, .slice a1 m.rc.length c1, .slice a2 m.body.length c2]) (by simp)).c 0 _ rfl
      have g1 := (S7.out.get (r := Res.cells L [.string m.fu, .string m.fd, .slice a1 m.rc.length c1, .slice a2 m.body.length c2]) (by simp)).c 1 _ rfl
      have g2 := (S7.out.get (r := Res.cells L [.string m.fu, .string m.fd, .slice a1 m.rc.length c1, .slice a2 m.body.length c2]) (by simp)).c 2 _ rfl
      have g3 := (S7.out.get (r := Res.cells L [.string m.fu, .string m.fd, .slice a1 m.rc.length c1, .slice a2 m.body.length c2]) (by simp)).c 3 _ rfl
      have x0 := (S7.out.get (r := Res.cells L5 [.string m.fu, .string m.fd, .slice b1 m.rc.length d1, .slice b2 m.body.length d2]) (by simp)).c 0 _ rfl
      have x1 := (S7.out.get (r := Res.cells L5 [.string m.fu, .string m.fd, .slice b1 m.rc.length d1, .slice b2 m.body.length d2]) (by simp)).c 1 _ rfl
      have x2 := (S7.out.get (r := Res.cells L5 [.string m.fu, .string m.fd, .slice b1 m.rc.length d1, .slice b2 m.body.length d2]) (by simp)).c 2 _ rfl
      have x3 := (S7.out.get (r := Res.cells L5 [.string m.fu, .string m.fd, .slice b1 m.rc.length d1, .slice b2 m.body.length d2]) (by simp)).c 3 _ rfl
      have hrow := rules_read (S7.out.get (r := rulesR bo d xs) (by simp))
      obtain ⟨b, off, rfl, r0, r1, r2, r3, r4⟩ := ruleAt hrow hx
      have hlt := (List.getElem?_eq_some_iff.1 hx).1
      rw [ha] at r2
      have hi0 : (0 : Int) ≤ (k : Int) := by omega
      have hi1 : (k : Int) < (xs.length : Int) := by omega
      go_wp2_with fail
      refine (saMailEq m b1 d1 b2 d2 a1 c1 a2 c2 _ (S7.out.get (r := Res.mail m b1 d1 b2 d2) (by simp)).at (S7.out.get (r := Res.mail m a1 c1 a2 c2) (by simp)).at (by omega) (by omega)).mono ?_
      rintro e w9 ⟨rfl, hb⟩
      have S8 : Seal _ := ⟨S7.out.later hb⟩
      clear hb S7
      have hrow' := rules_read (S8.out.get (r := rulesR (some ⟨b, off, none⟩) d xs) (by simp))
      obtain ⟨b', off', eb, _, _, s2, _, _⟩ := ruleAt hrow' HX.out
      cases eb
      rw [HA.out] at s2
      clear r0 r1 r2 r3 r4
      go_wp2
      go_ret
      exact ⟨rfl, S8.out.below⟩
    · have hd3 : actM x m = noM := by unfold actM; rw [ha]; rfl
      rw [hd3] at hd2
      obtain rfl : q = 2 := hact.trans ha
      clear hd3 hact hrb
      have HX : Seal _ := ⟨hx⟩
      have HA : Seal _ := ⟨ha⟩
      have hd9 : noM = D := hd2.symm
      clear hd2
      subst hd9
      have g0 := (S4.out.get (r := Res.cells L [.string m.fu, .string m.fd, .slice a1 m.rc.length c1, .slice a2 m.body.length c2]) (by simp)).c 0 _ rfl
      have g1 := (S4.out.get (r := Res.cells L [.string m.fu, .string m.fd, .slice a1 m.rc.length c1, .slice a2 m.body.length c2]) (by simp)).c 1 _ rfl
      have g2 := (S4.out.get (r := Res.cells L [.string m.fu, .string m.fd, .slice a1 m.rc.length c1, .slice a2 m.body.length c2]) (by simp)).c 2 _ rfl
      have g3 := (S4.out.get (r := Res.cells L [.string m.fu, .string m.fd, .slice a1 m.rc.length c1, .slice a2 m.body.length c2]) (by simp)).c 3 _ rfl
      have x0 := (S4.out.get (r := Res.cells L5 [.string noM.fu, .string noM.fd, .slice b1 noM.rc.length d1, .slice b2 noM.body.length d2]) (by simp)).c 0 _ rfl
      have x1 := (S4.out.get (r := Res.cells L5 [.string noM.fu, .string noM.fd, .slice b1 noM.rc.length d1, .slice b2 noM.body.length d2]) (by simp)).c 1 _ rfl
      have x2 := (S4.out.get (r := Res.cells L5 [.string noM.fu, .string noM.fd, .slice b1 noM.rc.length d1, .slice b2 noM.body.length d2]) (by simp)).c 2 _ rfl
      have x3 := (S4.out.get (r := Res.cells L5 [.string noM.fu, .string noM.fd, .slice b1 noM.rc.length d1, .slice b2 noM.body.length d2]) (by simp)).c 3 _ rfl
      go_wp2_with fail
      refine (CN.out _ (HM.out.below S4.out.below (Nat.le_refl _)) (S4.out.get (r := Res.mail m a1 c1 a2 c2) (by simp))).mono ?_
      clear g0 g1 g2 g3 x0 x1 x2 x3
      rintro e wq ⟨t1, i1, t2, i2, rfl, oq, hq9⟩
      obtain ⟨L9, hL9⟩ : ∃ L, wq.heap.size = L := ⟨_, rfl⟩
      have S5 : Seal (St w (wq.alloc (.cells (mailV N t1 i1 t2 i2) 29)) [Res.cells L9 [.string N.fu, .string N.fd, .slice t1 N.rc.length i1, .slice t2 N.body.length i2], Res.mail N t1 i1 t2 i2, Res.cells L7 [.string noM.fu, .string noM.fd, .slice p1 noM.rc.length k1, .slice p2 noM.body.length k2], Res.mail noM p1 k1 p2 k2, Res.cells L5 [.string noM.fu, .string noM.fd, .slice b1 noM.rc.length d1, .slice b2 noM.body.length d2], Res.mail noM b1 d1 b2 d2, Res.cells L [.string m.fu, .string m.fd, .slice a1 m.rc.length c1, .slice a2 m.body.length c2], Res.mail m a1 c1 a2 c2, rulesR bo d xs]) := ⟨hL9 ▸ (S4.out.mail hq9 oq).alloc (mailV N t1 i1 t2 i2) 29⟩
      clear oq hq9 S4
      have g0 := (S5.out.get (r := Res.cells L [.string m.fu, .string m.fd, .slice a1 m.rc.length c1, .slice a2 m.body.length c2]) (by simp)).c 0 _ rfl
      have g1 := (S5.out.get (r := Res.cells L [.string m.fu, .string m.fd, .slice a1 m.rc.length c1, .slice a2 m.body.length c2]) (by simp)).c 1 _ rfl
      have g2 := (S5.out.get (r := Res.cells L [.string m.fu, .string m.fd, .slice a1 m.rc.length c1, .slice a2 m.body.length c2]) (by simp)).c 2 _ rfl
      have g3 := (S5.out.get (r := Res.cells L [.string m.fu, .string m.fd, .slice a1 m.rc.length c1, .slice a2 m.body.length c2]) (by simp)).c 3 _ rfl
      go_wp2_with fail
      generalize wq.alloc (.cells (mailV N t1 i1 t2 i2) 29) = W5 at *
      clear hL9
      refine (CF.out _ (HM.out.below S5.out.below (Nat.le_refl _)) (S5.out.get (r := rulesR bo d xs) (by simp)) (S5.out.get (r := Res.mail m a1 c1 a2 c2) (by simp))).mono ?_
      rintro e w9 ⟨rfl, hb⟩
      have S6 : Seal _ := ⟨S5.out.later hb⟩
      clear hb S5
      clear g0 g1 g2 g3
      have g0 := (S6.out.get (r := Res.cells L [.string m.fu, .string m.fd, .slice a1 m.rc.length c1, .slice a2 m.body.length c2]) (by simp)).c 0 _ rfl
      have g1 := (S6.out.get (r := Res.cells L [.string m.fu, .string m.fd, .slice a1 m.rc.length c1, .slice a2 m.body.length c2]) (by simp)).c 1 _ rfl
      have g2 := (S6.out.get (r := Res.cells L [.string m.fu, .string m.fd, .slice a1 m.rc.length c1, .slice a2 m.body.length c2]) (by simp)).c 2 _ rfl
      have g3 := (S6.out.get (r := Res.cells L [.string m.fu, .string m.fd, .slice a1 m.rc.length c1, .slice a2 m.body.length c2]) (by simp)).c 3 _ rfl
      have x0 := (S6.out.get (r := Res.cells L5 [.string noM.fu, .string noM.fd, .slice b1 noM.rc.length d1, .slice b2 noM.body.length d2]) (by simp)).c 0 _ rfl
      have x1 := (S6.out.get (r := Res.cells L5 [.string noM.fu, .string noM.fd, .slice b1 noM.rc.length d1, .slice b2 noM.body.length d2]) (by simp)).c 1 _ rfl
      have x2 := (S6.out.get (r := Res.cells L5 [.string noM.fu, .string noM.fd, .slice b1 noM.rc.length d1, .slice b2 noM.body.length d2]) (by simp)).c 2 _ rfl
      have x3 := (S6.out.get (r := Res.cells L5 [.string noM.fu, .string noM.fd, .slice b1 noM.rc.length d1, .slice b2 noM.body.length d2]) (by simp)).c 3 _ rfl
      have CB : Seal (∀ W, Calls Tryd.prog 19 #[.slice b2 0 d2, .slice a2 m.body.length c2] W (SomeB W)) := ⟨fun W => saTexts_none a2 d2 c2 b2 m.body.length W⟩
      have hrow := rules_read (S6.out.get (r := rulesR bo d xs) (by simp))
      obtain ⟨b, off, rfl, r0, r1, r2, r3, r4⟩ := ruleAt hrow hx
      have hlt := (List.getElem?_eq_some_iff.1 hx).1
      rw [ha] at r2
      have hi0 : (0 : Int) ≤ (k : Int) := by omega
      have hi1 : (k : Int) < (xs.length : Int) := by omega
      go_wp2_with (go_at_call 19; refine (CB.out _).mono ?_; rintro e w9 ⟨v9, rfl, rfl⟩)
      all_goals
        go_ret
        exact ⟨rfl, S6.out.below⟩
    · have hd3 : actM x m = sentM x m := by unfold actM; rw [ha]; rfl
      rw [hd3] at hd2
      obtain rfl : q = 3 := hact.trans ha
      clear hd3 hact hrb
      have HX : Seal _ := ⟨hx⟩
      have HA : Seal _ := ⟨ha⟩
      have hd9 : (⟨m.fu, m.fd, [(x.u, x.d)], m.body⟩ : MailD) = D := hd2.symm
      clear hd2
      subst hd9
      have g0 := (S4.out.get (r := Res.cells L [.string m.fu, .string m.fd, .slice a1 m.rc.length c1, .slice a2 m.body.length c2]) (by simp)).c 0 _ rfl
      have g1 := (S4.out.get (r := Res.cells L [.string m.fu, .string m.fd, .slice a1 m.rc.length c1, .slice a2 m.body.length c2]) (by simp)).c 1 _ rfl
      have g2 := (S4.out.get (r := Res.cells L [.string m.fu, .string m.fd, .slice a1 m.rc.length c1, .slice a2 m.body.length c2]) (by simp)).c 2 _ rfl
      have g3 := (S4.out.get (r := Res.cells L [.string m.fu, .string m.fd, .slice a1 m.rc.length c1, .slice a2 m.body.length c2]) (by simp)).c 3 _ rfl
      have x0 := (S4.out.get (r := Res.cells L5 [.string (⟨m.fu, m.fd, [(x.u, x.d)], m.body⟩ : MailD).fu, .string (⟨m.fu, m.fd, [(x.u, x.d)], m.body⟩ : MailD).fd, .slice b1 (⟨m.fu, m.fd, [(x.u, x.d)], m.body⟩ : MailD).rc.length d1, .slice b2 (⟨m.fu, m.fd, [(x.u, x.d)], m.body⟩ : MailD).body.length d2]) (by simp)).c 0 _ rfl
      have x1 := (S4.out.get (r := Res.cells L5 [.string (⟨m.fu, m.fd, [(x.u, x.d)], m.body⟩ : MailD).fu, .string (⟨m.fu, m.fd, [(x.u, x.d)], m.body⟩ : MailD).fd, .slice b1 (⟨m.fu, m.fd, [(x.u, x.d)], m.body⟩ : MailD).rc.length d1, .slice b2 (⟨m.fu, m.fd, [(x.u, x.d)], m.body⟩ : MailD).body.length d2]) (by simp)).c 1 _ rfl
      have x2 := (S4.out.get (r := Res.cells L5 [.string (⟨m.fu, m.fd, [(x.u, x.d)], m.body⟩ : MailD).fu, .string (⟨m.fu, m.fd, [(x.u, x.d)], m.body⟩ : MailD).fd, .slice b1 (⟨m.fu, m.fd, [(x.u, x.d)], m.body⟩ : MailD).rc.length d1, .slice b2 (⟨m.fu, m.fd, [(x.u, x.d)], m.body⟩ : MailD).body.length d2]) (by simp)).c 2 _ rfl
      have x3 := (S4.out.get (r := Res.cells L5 [.string (⟨m.fu, m.fd, [(x.u, x.d)], m.body⟩ : MailD).fu, .string (⟨m.fu, m.fd, [(x.u, x.d)], m.body⟩ : MailD).fd, .slice b1 (⟨m.fu, m.fd, [(x.u, x.d)], m.body⟩ : MailD).rc.length d1, .slice b2 (⟨m.fu, m.fd, [(x.u, x.d)], m.body⟩ : MailD).body.length d2]) (by simp)).c 3 _ rfl
      go_wp2_with fail
      refine (CN.out _ (HM.out.below S4.out.below (Nat.le_refl _)) (S4.out.get (r := Res.mail m a1 c1 a2 c2) (by simp))).mono ?_
      clear g0 g1 g2 g3 x0 x1 x2 x3
      rintro e wq ⟨t1, i1, t2, i2, rfl, oq, hq9⟩
      obtain ⟨L9, hL9⟩ : ∃ L, wq.heap.size = L := ⟨_, rfl⟩
      have S5 : Seal (St w (wq.alloc (.cells (mailV N t1 i1 t2 i2) 29)) [Res.cells L9 [.string N.fu, .string N.fd, .slice t1 N.rc.length i1, .slice t2 N.body.length i2], Res.mail N t1 i1 t2 i2, Res.cells L7 [.string (⟨m.fu, m.fd, [(x.u, x.d)], m.body⟩ : MailD).fu, .string (⟨m.fu, m.fd, [(x.u, x.d)], m.body⟩ : MailD).fd, .slice p1 (⟨m.fu, m.fd, [(x.u, x.d)], m.body⟩ : MailD).rc.length k1, .slice p2 (⟨m.fu, m.fd, [(x.u, x.d)], m.body⟩ : MailD).body.length k2], Res.mail (⟨m.fu, m.fd, [(x.u, x.d)], m.body⟩ : MailD) p1 k1 p2 k2, Res.cells L5 [.string (⟨m.fu, m.fd, [(x.u, x.d)], m.body⟩ : MailD).fu, .string (⟨m.fu, m.fd, [(x.u, x.d)], m.body⟩ : MailD).fd, .slice b1 (⟨m.fu, m.fd, [(x.u, x.d)], m.body⟩ : MailD).rc.length d1, .slice b2 (⟨m.fu, m.fd, [(x.u, x.d)], m.body⟩ : MailD).body.length d2], Res.mail (⟨m.fu, m.fd, [(x.u, x.d)], m.body⟩ : MailD) b1 d1 b2 d2, Res.cells L [.string m.fu, .string m.fd, .slice a1 m.rc.length c1, .slice a2 m.body.length c2], Res.mail m a1 c1 a2 c2, rulesR bo d xs]) := ⟨hL9 ▸ (S4.out.mail hq9 oq).alloc (mailV N t1 i1 t2 i2) 29⟩
      clear oq hq9 S4
      have g0 := (S5.out.get (r := Res.cells L [.string m.fu, .string m.fd, .slice a1 m.rc.length c1, .slice a2 m.body.length c2]) (by simp)).c 0 _ rfl
      have g1 := (S5.out.get (r := Res.cells L [.string m.fu, .string m.fd, .slice a1 m.rc.length c1, .slice a2 m.body.length c2]) (by simp)).c 1 _ rfl
      have g2 := (S5.out.get (r := Res.cells L [.string m.fu, .string m.fd, .slice a1 m.rc.length c1, .slice a2 m.body.length c2]) (by simp)).c 2 _ rfl
      have g3 := (S5.out.get (r := Res.cells L [.string m.fu, .string m.fd, .slice a1 m.rc.length c1, .slice a2 m.body.length c2]) (by simp)).c 3 _ rfl
      go_wp2_with fail
      generalize wq.alloc (.cells (mailV N t1 i1 t2 i2) 29) = W5 at *
      clear hL9
      refine (CF.out _ (HM.out.below S5.out.below (Nat.le_refl _)) (S5.out.get (r := rulesR bo d xs) (by simp)) (S5.out.get (r := Res.mail m a1 c1 a2 c2) (by simp))).mono ?_
      rintro e w9 ⟨rfl, hb⟩
      have S6 : Seal _ := ⟨S5.out.later hb⟩
      clear hb S5
      clear g0 g1 g2 g3
      have g0 := (S6.out.get (r := Res.cells L [.string m.fu, .string m.fd, .slice a1 m.rc.length c1, .slice a2 m.body.length c2]) (by simp)).c 0 _ rfl
      have g1 := (S6.out.get (r := Res.cells L [.string m.fu, .string m.fd, .slice a1 m.rc.length c1, .slice a2 m.body.length c2]) (by simp)).c 1 _ rfl
      have g2 := (S6.out.get (r := Res.cells L [.string m.fu, .string m.fd, .slice a1 m.rc.length c1, .slice a2 m.body.length c2]) (by simp)).c 2 _ rfl
      have g3 := (S6.out.get (r := Res.cells L [.string m.fu, .string m.fd, .slice a1 m.rc.length c1, .slice a2 m.body.length c2]) (by simp)).c 3 _ rfl
      have x0 := (S6.out.get (r := Res.cells L5 [.string (⟨m.fu, m.fd, [(x.u, x.d)], m.body⟩ : MailD).fu, .string (⟨m.fu, m.fd, [(x.u, x.d)], m.body⟩ : MailD).fd, .slice b1 (⟨m.fu, m.fd, [(x.u, x.d)], m.body⟩ : MailD).rc.length d1, .slice b2 (⟨m.fu, m.fd, [(x.u, x.d)], m.body⟩ : MailD).body.length d2]) (by simp)).c 0 _ rfl
      have x1 := (S6.out.get (r := Res.cells L5 [.string (⟨m.fu, m.fd, [(x.u, x.d)], m.body⟩ : MailD).fu, .string (⟨m.fu, m.fd, [(x.u, x.d)], m.body⟩ : MailD).fd, .slice b1 (⟨m.fu, m.fd, [(x.u, x.d)], m.body⟩ : MailD).rc.length d1, .slice b2 (⟨m.fu, m.fd, [(x.u, x.d)], m.body⟩ : MailD).body.length d2]) (by simp)).c 1 _ rfl
      have x2 := (S6.out.get (r := Res.cells L5 [.string (⟨m.fu, m.fd, [(x.u, x.d)], m.body⟩ : MailD).fu, .string (⟨m.fu, m.fd, [(x.u, x.d)], m.body⟩ : MailD).fd, .slice b1 (⟨m.fu, m.fd, [(x.u, x.d)], m.body⟩ : MailD).rc.length d1, .slice b2 (⟨m.fu, m.fd, [(x.u, x.d)], m.body⟩ : MailD).body.length d2]) (by simp)).c 2 _ rfl
      have x3 := (S6.out.get (r := Res.cells L5 [.string (⟨m.fu, m.fd, [(x.u, x.d)], m.body⟩ : MailD).fu, .string (⟨m.fu, m.fd, [(x.u, x.d)], m.body⟩ : MailD).fd, .slice b1 (⟨m.fu, m.fd, [(x.u, x.d)], m.body⟩ : MailD).rc.length d1, .slice b2 (⟨m.fu, m.fd, [(x.u, x.d)], m.body⟩ : MailD).body.length d2]) (by simp)).c 3 _ rfl
      go_wp2_with fail
      refine (saTextsEq b2 a2 d2 c2 m.body _ (S6.out.get (r := Res.mail (⟨m.fu, m.fd, [(x.u, x.d)], m.body⟩ : MailD) b1 d1 b2 d2) (by simp)).at.body (S6.out.get (r := Res.mail m a1 c1 a2 c2) (by simp)).at.body (by omega)).mono ?_
      rintro e w9 ⟨rfl, hb⟩
      have S7 : Seal _ := ⟨S6.out.later hb⟩
      clear hb S6
      clear g0 g1 g2 g3 x0 x1 x2 x3
      have g0 := (S7.out.get (r := Res.cells L [.string m.fu, .string m.fd, .slice a1 m.rc.length c1, .slice a2 m.body.length c2]) (by simp)).c 0 _ rfl
      have g1 := (S7.out.get (r := Res.cells L [.string m.fu, .string m.fd, .slice a1 m.rc.length c1, .slice a2 m.body.length c2]) (by simp)).c 1 _ rfl
      have g2 := (S7.out.get (r := Res.cells L [.string m.fu, .string m.fd, .slice a1 m.rc.length c1, .slice a2 m.body.length c2]) (by simp)).c 2 _ rfl
      have g3 := (S7.out.get (r := Res.cells L [.string m.fu, .string m.fd, .slice a1 m.rc.length c1, .slice a2 m.body.length c2]) (by simp)).c 3 _ rfl
      have x0 := (S7.out.get (r := Res.cells L5 [.string (⟨m.fu, m.fd, [(x.u, x.d)], m.body⟩ : MailD).fu, .string (⟨m.fu, m.fd, [(x.u, x.d)], m.body⟩ : MailD).fd, .slice b1 (⟨m.fu, m.fd, [(x.u, x.d)], m.body⟩ : MailD).rc.length d1, .slice b2 (⟨m.fu, m.fd, [(x.u, x.d)], m.body⟩ : MailD).body.length d2]) (by simp)).c 0 _ rfl
      have x1 := (S7.out.get (r := Res.cells L5 [.string (⟨m.fu, m.fd, [(x.u, x.d)], m.body⟩ : MailD).fu, .string (⟨m.fu, m.fd, [(x.u, x.d)], m.body⟩ : MailD).fd, .slice b1 (⟨m.fu, m.fd, [(x.u, x.d)], m.body⟩ : MailD).rc.length d1, .slice b2 (⟨m.fu, m.fd, [(x.u, x.d)], m.body⟩ : MailD).body.length d2]) (by simp)).c 1 _ rfl
      have x2 := (S7.out.get (r := Res.cells L5 [.string (⟨m.fu, m.fd, [(x.u, x.d)], m.body⟩ : MailD).fu, .string (⟨m.fu, m.fd, [(x.u, x.d)], m.body⟩ : MailD).fd, .slice b1 (⟨m.fu, m.fd, [(x.u, x.d)], m.body⟩ : MailD).rc.length d1, .slice b2 (⟨m.fu, m.fd, [(x.u, x.d)], m.body⟩ : MailD).body.length d2]) (by simp)).c 2 _ rfl
      have x3 := (S7.out.get (r := Res.cells L5 [.string (⟨m.fu, m.fd, [(x.u, x.d)], m.body⟩ : MailD).fu, .string (⟨m.fu, m.fd, [(x.u, x.d)], m.body⟩ : MailD).fd, .slice b1 (⟨m.fu, m.fd, [(x.u, x.d)], m.body⟩ : MailD).rc.length d1, .slice b2 (⟨m.fu, m.fd, [(x.u, x.d)], m.body⟩ : MailD).body.length d2]) (by simp)).c 3 _ rfl
      have HMD : Seal (mailB (⟨m.fu, m.fd, [(x.u, x.d)], m.body⟩ : MailD) = true) := ⟨sent_ok HRB.out ha HMB.out⟩
      have hrow := rules_read (S7.out.get (r := rulesR bo d xs) (by simp))
      obtain ⟨b, off, rfl, r0, r1, r2, r3, r4⟩ := ruleAt hrow hx
      have hlt := (List.getElem?_eq_some_iff.1 hx).1
      have hi0 : (0 : Int) ≤ (k : Int) := by omega
      have hi1 : (k : Int) < (xs.length : Int) := by omega
      have SD : Seal _ := ⟨S7.out.drew⟩
      have SR : Seal _ := ⟨oneRow SD.out x.u x.d⟩
      have PD : Seal _ := ⟨(SR.out.get (r := Res.mail (⟨m.fu, m.fd, [(x.u, x.d)], m.body⟩ : MailD) b1 d1 b2 d2) (by simp)).at.rc⟩
      have PR : Seal (PairRow _ _ [(x.u, x.d)]) := ⟨PRow.pairs (B := 0) (t := 25) (cap := 1) (ps := [(x.u, x.d)]) SR.out.head⟩
      go_wp2_with fail
      refine wp_region_held_drew (S := (fun w' => w'.cell? ⟨L5, 0, none⟩ = some (.string m.fu) ∧ w'.cell? ⟨L5, 1, none⟩ = some (.string m.fd) ∧ w'.cell? ⟨L5, 2, none⟩ = some (.slice b1 1 d1) ∧ w'.cell? ⟨L5, 3, none⟩ = some (.slice b2 m.body.length d2) ∧ w'.cell? ⟨b, off + k * 5 + 3, none⟩ = some (.string x.u) ∧ w'.cell? ⟨b, off + k * 5 + 4, none⟩ = some (.string x.d))) (by kernel_rfl) ⟨x0, x1, x2, x3, r3, r4⟩ (fun hHeld => ?_)
      (refine wpAnyH_take (i := 0) (v := ?_) rfl (by kernel_rfl) (by kernel_rfl) (by kernel_rfl) (fun _ _ _ h => h) (Or.inl ⟨by rfl, ?_⟩) (by assumption) ?_; rotate_left; (intro w hSw; (try dsimp only at hSw); go_split_ands; go_simp; first | done | with_reducible rfl); rotate_left; simp only [Act.put, List.getElem_toArray, List.getElem_cons_zero, List.setIfInBounds_toArray, List.set_cons_succ, List.set_cons_zero])
      (refine wpAnyH_take (i := 1) (v := ?_) rfl (by kernel_rfl) (by kernel_rfl) (by kernel_rfl) (fun _ _ _ h => h) (Or.inl ⟨by rfl, ?_⟩) (by assumption) ?_; rotate_left; (intro w hSw; (try dsimp only at hSw); go_split_ands; go_simp; first | done | with_reducible rfl); rotate_left; simp only [Act.put, List.getElem_toArray, List.getElem_cons_succ, List.getElem_cons_zero, List.setIfInBounds_toArray, List.set_cons_succ, List.set_cons_zero])
      (refine wpAnyH_take (i := 2) (v := ?_) rfl (by kernel_rfl) (by kernel_rfl) (by kernel_rfl) (fun _ _ _ h => h) (Or.inl ⟨by rfl, ?_⟩) (by assumption) ?_; rotate_left; (intro w hSw; (try dsimp only at hSw); go_split_ands; go_simp; first | done | with_reducible rfl); rotate_left; simp only [Act.put, List.getElem_toArray, List.getElem_cons_succ, List.getElem_cons_zero, List.setIfInBounds_toArray, List.set_cons_succ, List.set_cons_zero])
      (refine wpAnyH_take (i := 3) (v := ?_) rfl (by kernel_rfl) (by kernel_rfl) (by kernel_rfl) (fun _ _ _ h => h) (Or.inl ⟨by rfl, ?_⟩) (by assumption) ?_; rotate_left; (intro w hSw; (try dsimp only at hSw); go_split_ands; go_simp; first | done | with_reducible rfl); rotate_left; simp only [Act.put, List.getElem_toArray, List.getElem_cons_succ, List.getElem_cons_zero, List.setIfInBounds_toArray, List.set_cons_succ, List.set_cons_zero])
      (refine wpAnyH_take (i := 4) (v := ?_) rfl (by kernel_rfl) (by kernel_rfl) (by kernel_rfl) (fun _ _ _ h => h) (Or.inl ⟨by rfl, ?_⟩) (by assumption) ?_; rotate_left; (intro w hSw; (try dsimp only at hSw); go_split_ands; go_simp; first | done | with_reducible rfl); rotate_left; simp only [Act.put, List.getElem_toArray, List.getElem_cons_succ, List.getElem_cons_zero, List.setIfInBounds_toArray, List.set_cons_succ, List.set_cons_zero])
      (refine wpAnyH_take (i := 5) (v := ?_) rfl (by kernel_rfl) (by kernel_rfl) (by kernel_rfl) (fun _ _ _ h => h) (Or.inl ⟨by rfl, ?_⟩) (by assumption) ?_; rotate_left; (intro w hSw; (try dsimp only at hSw); go_split_ands; go_simp; first | done | with_reducible rfl); rotate_left; simp only [Act.put, List.getElem_toArray, List.getElem_cons_succ, List.getElem_cons_zero, List.setIfInBounds_toArray, List.set_cons_succ, List.set_cons_zero])
      (refine wpAnyH_take (i := 6) (v := ?_) rfl (by kernel_rfl) (by kernel_rfl) (by kernel_rfl) (fun _ _ _ h => h) (Or.inl ⟨by rfl, ?_⟩) (by assumption) ?_; rotate_left; (intro w hSw; (try dsimp only at hSw); go_split_ands; go_simp; first | done | with_reducible rfl); rotate_left; simp only [Act.put, List.getElem_toArray, List.getElem_cons_succ, List.getElem_cons_zero, List.setIfInBounds_toArray, List.set_cons_succ, List.set_cons_zero])
      (refine wpAnyH_take (i := 7) (v := ?_) rfl (by kernel_rfl) (by kernel_rfl) (by kernel_rfl) (fun _ _ _ h => h) (Or.inl ⟨by rfl, ?_⟩) (by assumption) ?_; rotate_left; (intro w hSw; (try dsimp only at hSw); go_split_ands; go_simp; first | done | with_reducible rfl); rotate_left; simp only [Act.put, List.getElem_toArray, List.getElem_cons_succ, List.getElem_cons_zero, List.setIfInBounds_toArray, List.set_cons_succ, List.set_cons_zero])
      (refine wpAnyH_take (i := 8) (v := ?_) rfl (by kernel_rfl) (by kernel_rfl) (by kernel_rfl) (fun _ _ _ h => h) (Or.inl ⟨by rfl, ?_⟩) (by assumption) ?_; rotate_left; (intro w hSw; (try dsimp only at hSw); go_split_ands; go_simp; first | done | with_reducible rfl); rotate_left; simp only [Act.put, List.getElem_toArray, List.getElem_cons_succ, List.getElem_cons_zero, List.setIfInBounds_toArray, List.set_cons_succ, List.set_cons_zero])
      (refine wpAnyH_take (i := 9) (v := ?_) rfl (by kernel_rfl) (by kernel_rfl) (by kernel_rfl) (fun _ _ _ h => h) (Or.inl ⟨by rfl, ?_⟩) (by assumption) ?_; rotate_left; (intro w hSw; (try dsimp only at hSw); go_split_ands; go_simp; first | done | with_reducible rfl); rotate_left; simp only [Act.put, List.getElem_toArray, List.getElem_cons_succ, List.getElem_cons_zero, List.setIfInBounds_toArray, List.set_cons_succ, List.set_cons_zero])
      (refine wpAnyH_take (i := 10) (v := ?_) rfl (by kernel_rfl) (by kernel_rfl) (by kernel_rfl) (fun _ _ _ h => h) (Or.inl ⟨by rfl, ?_⟩) (by assumption) ?_; rotate_left; (intro w hSw; (try dsimp only at hSw); go_split_ands; go_simp; first | done | with_reducible rfl); rotate_left; simp only [Act.put, List.getElem_toArray, List.getElem_cons_succ, List.getElem_cons_zero, List.setIfInBounds_toArray, List.set_cons_succ, List.set_cons_zero])
      (refine wpAnyH_take (i := 11) (v := ?_) rfl (by kernel_rfl) (by kernel_rfl) (by kernel_rfl) (fun _ _ _ h => h) (Or.inl ⟨by rfl, ?_⟩) (by assumption) ?_; rotate_left; (intro w hSw; (try dsimp only at hSw); go_split_ands; go_simp; first | done | with_reducible rfl); rotate_left; simp only [Act.put, List.getElem_toArray, List.getElem_cons_succ, List.getElem_cons_zero, List.setIfInBounds_toArray, List.set_cons_succ, List.set_cons_zero])
      (refine wpAnyH_take (i := 12) (v := ?_) rfl (by kernel_rfl) (by kernel_rfl) (by kernel_rfl) (fun _ _ _ h => h) (Or.inl ⟨by rfl, ?_⟩) (by assumption) ?_; rotate_left; (intro w hSw; (try dsimp only at hSw); go_split_ands; go_simp; first | done | with_reducible rfl); rotate_left; simp only [Act.put, List.getElem_toArray, List.getElem_cons_succ, List.getElem_cons_zero, List.setIfInBounds_toArray, List.set_cons_succ, List.set_cons_zero])
      refine wpAnyH_ready (rs := [13]) (by kernel_rfl) (by simp) ?_
      refine AllReadyH.cons rfl (fun K hK => ?_) AllReadyH.nil
      try dsimp only at hHeld
      go_split_ands
      go_simp
      refine hK.out _ _ ⟨heldc (by assumption) ((Below.refl _ _).alloc (Nat.le_refl _) _), heldc (by assumption) ((Below.refl _ _).alloc (Nat.le_refl _) _), heldc (by assumption) ((Below.refl _ _).alloc (Nat.le_refl _) _), heldc (by assumption) ((Below.refl _ _).alloc (Nat.le_refl _) _), heldc (by assumption) ((Below.refl _ _).alloc (Nat.le_refl _) _), heldc (by assumption) ((Below.refl _ _).alloc (Nat.le_refl _) _)⟩ (fun hHeld => ?_)
      clear hK K
      try simp only [Act.put, List.getElem_toArray, List.getElem_cons_succ, List.getElem_cons_zero, List.setIfInBounds_toArray, List.set_cons_zero, List.set_cons_succ]
      refine wpAnyH_ready (rs := [14]) (by kernel_rfl) (by simp) ?_
      refine AllReadyH.cons rfl (fun K hK => ?_) AllReadyH.nil
      try dsimp only at hHeld
      go_split_ands
      go_simp
      refine (saAddrsEq b1 _ d1 _ [(x.u, x.d)] _ PD.out PR.out (by simp)).mono ?_
      rintro e w10 ⟨rfl, hb⟩
      have S10 : Seal _ := ⟨SR.out.later hb⟩
      refine hK.out _ _ ⟨heldc (by assumption) hb, heldc (by assumption) hb, heldc (by assumption) hb, heldc (by assumption) hb, heldc (by assumption) hb, heldc (by assumption) hb⟩ (fun hHeld => ?_)
      clear hK K
      try simp only [Act.put, List.getElem_toArray, List.getElem_cons_succ, List.getElem_cons_zero, List.setIfInBounds_toArray, List.set_cons_zero, List.set_cons_succ]
      (refine wpAnyH_take (i := 15) (v := ?_) rfl (by kernel_rfl) (by kernel_rfl) (by kernel_rfl) (fun _ _ _ h => h) (Or.inl ⟨by rfl, ?_⟩) (by assumption) ?_; rotate_left; (intro w hSw; (try dsimp only at hSw); go_split_ands; go_simp; first | done | with_reducible rfl); rotate_left; simp only [Act.put, List.getElem_toArray, List.getElem_cons_succ, List.getElem_cons_zero, List.setIfInBounds_toArray, List.set_cons_succ, List.set_cons_zero])
      (refine wpAnyH_take (i := 16) (v := ?_) rfl (by kernel_rfl) (by kernel_rfl) (by kernel_rfl) (fun _ _ _ h => h) (Or.inl ⟨by rfl, ?_⟩) (by assumption) ?_; rotate_left; (intro w hSw; (try dsimp only at hSw); go_split_ands; go_simp; first | done | with_reducible rfl); rotate_left; simp only [Act.put, List.getElem_toArray, List.getElem_cons_succ, List.getElem_cons_zero, List.setIfInBounds_toArray, List.set_cons_succ, List.set_cons_zero])
      (refine wpAnyH_take (i := 17) (v := ?_) rfl (by kernel_rfl) (by kernel_rfl) (by kernel_rfl) (fun _ _ _ h => h) (Or.inl ⟨by rfl, ?_⟩) (by assumption) ?_; rotate_left; (intro w hSw; (try dsimp only at hSw); go_split_ands; go_simp; first | done | with_reducible rfl); rotate_left; simp only [Act.put, List.getElem_toArray, List.getElem_cons_succ, List.getElem_cons_zero, List.setIfInBounds_toArray, List.set_cons_succ, List.set_cons_zero])
      refine wpAnyH_ready (rs := [18]) (by kernel_rfl) (by simp) ?_
      refine AllReadyH.cons rfl (fun K hK => ?_) AllReadyH.nil
      try dsimp only at hHeld
      go_split_ands
      go_simp
      refine (CA.out _ (HM.out.below S10.out.below (Nat.le_refl _)) (S10.out.get (r := Res.mail (⟨m.fu, m.fd, [(x.u, x.d)], m.body⟩ : MailD) b1 d1 b2 d2) (by simp))).mono ?_
      rintro e w11 ⟨rfl, hb11⟩
      rw [HMD.out]
      have S11 : Seal _ := ⟨S10.out.later hb11⟩
      refine hK.out _ _ ⟨heldc (by assumption) hb11, heldc (by assumption) hb11, heldc (by assumption) hb11, heldc (by assumption) hb11, heldc (by assumption) hb11, heldc (by assumption) hb11⟩ (fun hHeld => ?_)
      clear hK K
      try simp only [Act.put, List.getElem_toArray, List.getElem_cons_succ, List.getElem_cons_zero, List.setIfInBounds_toArray, List.set_cons_zero, List.set_cons_succ]
      (refine wpAnyH_take (i := 19) (v := ?_) rfl (by kernel_rfl) (by kernel_rfl) (by kernel_rfl) (fun _ _ _ h => h) (Or.inl ⟨by rfl, ?_⟩) (by assumption) ?_; rotate_left; (intro w hSw; (try dsimp only at hSw); go_split_ands; go_simp; first | done | with_reducible rfl); rotate_left; simp only [Act.put, List.getElem_toArray, List.getElem_cons_succ, List.getElem_cons_zero, List.setIfInBounds_toArray, List.set_cons_succ, List.set_cons_zero])
      refine wpAnyH_ready (rs := [20]) (by kernel_rfl) (by simp) ?_
      refine AllReadyH.cons rfl (fun K hK => ?_) AllReadyH.nil
      go_simp
      refine hK.out _ _ (by assumption) (fun hHeld => ?_)
      clear hK K
      try simp only [Act.put, List.getElem_toArray, List.getElem_cons_succ, List.getElem_cons_zero, List.setIfInBounds_toArray, List.set_cons_zero, List.set_cons_succ]
      refine wpAnyH_done (by kernel_rfl) ?_ _
      go_wp2
      go_ret
      exact ⟨rfl, S11.out.below⟩
end Go.Proofs.YtgniokkiejoccaaDoor
