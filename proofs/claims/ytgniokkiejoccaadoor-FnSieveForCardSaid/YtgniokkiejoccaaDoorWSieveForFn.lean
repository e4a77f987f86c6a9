/- The walk of FnSieveFor. -/
import Derived.Test.YtgniokkiejoccaaDoorDrawSieveFor
import Derived.Test.YtgniokkiejoccaaDoorPlainSieves
import Derived.Test.YtgniokkiejoccaaDoorSieveDos
import Derived.Test.YtgniokkiejoccaaDoorSieveFors
namespace Go.Proofs.YtgniokkiejoccaaDoor
open Go Go.RowKit

theorem rowOf_one {α : Type} {size : Nat} {P : World → List Value → α → Prop} {w : World} {b off : Nat} {xs : List α} (h : RowOf size P w (some ⟨b, off, none⟩) xs) {k : Nat} {x : α} (hx : xs[k]? = some x) : RowOf size P w (some ⟨b, off + k * size, none⟩) [x] := by
  intro j y hy
  obtain ⟨hj, e⟩ := List.getElem?_eq_some_iff.1 hy
  have hj0 : j = 0 := by simpa using hj
  subst hj0
  obtain rfl : x = y := by simpa using e
  obtain ⟨b', off', vs, e1, hl, hc, hp⟩ := h k x hx
  cases e1
  exact ⟨b, off + k * size, vs, rfl, hl, fun j v hv => by rw [Nat.zero_mul, Nat.add_zero]; exact hc j v hv, hp⟩

/-- Rules and a mail, drawn, and the mail's box. -/
abbrev SieveS (w : World) (L : Nat) (xs : List RuleD) (bo : Option Addr) (d : Nat) (m : MailD) (a1 : Option Addr) (c1 : Nat) (a2 : Option Addr) (c2 : Nat) (W : World) : Prop := St w W [Res.cells L [.string m.fu, .string m.fd, .slice a1 m.rc.length c1, .slice a2 m.body.length c2], Res.mail m a1 c1 a2 c2, rulesR bo d xs]

set_option maxHeartbeats 6400000 in
set_option maxRecDepth 100000 in
theorem wFnSieveFor.walk (ao : Option Addr) (len cap : Nat) (w : World) (hr : ByteRow w ao len) (hl : len ≤ cap) (hc : cap ≤ maxLen) (hm : HasMax w) :
    Calls Tryd.prog 3 #[.slice ao len cap] w fun e w' => e = .returned (.bool true) ∧ Below w.heap.size w w' := by
  have hc' := hc
  unfold maxLen at hc'
  by_cases hbig : 1048576 < len
  · clear hr hm
    go_enter Tryd.func3, Tryd.ntmps3
    go_wp2
    go_ret
    exact ⟨rfl, Below.refl _ _⟩
  have CD : Seal _ := ⟨drawSieveFor_any ao len cap w hr hl hc⟩
  have HM : Seal (HasMax w) := ⟨hm⟩
  clear hr hc hm
  go_enter Tryd.func3, Tryd.ntmps3
  go_wp2_with fail
  refine CD.out.mono ?_
  rintro e w1 ⟨xs, bo, d, m, a1, c1, a2, c2, rfl, hx, hd, s1⟩
  have z1 : xs.length ≤ 5 := hx.1
  have HZ : Seal (∀ x ∈ xs, ruleN x ≤ 1048576) := ⟨fun x h => Nat.le_trans (hx.2 x h) (by omega)⟩
  have HMZ : Seal (MailSz 1048576 m) := ⟨hd.sz.mono (by omega)⟩
  have S1 : Seal (St w (w1.alloc (.cells (mailV m a1 c1 a2 c2) 29)) [Res.cells w1.heap.size [.string m.fu, .string m.fd, .slice a1 m.rc.length c1, .slice a2 m.body.length c2], Res.mail m a1 c1 a2 c2, rulesR bo d xs]) := ⟨s1.alloc (mailV m a1 c1 a2 c2) 29⟩
  obtain ⟨v, hv⟩ : ∃ v, whichB xs m = v := ⟨_, rfl⟩
  have HV : Seal _ := ⟨hv⟩
  have ok := s1.tail.head
  obtain ⟨_, _, ecap, kcap⟩ := rules_value (v := .slice bo xs.length d) (xs := xs) ok
  cases ecap
  have KC := s1.mailOwn.rc.cap
  obtain ⟨L, hL⟩ : ∃ L, w1.heap.size = L := ⟨_, rfl⟩
  have CI : Seal (∀ W, SieveS w L xs bo d m a1 c1 a2 c2 W → Calls Tryd.prog 10 #[.slice bo xs.length d, .agg (mailV m a1 c1 a2 c2)] W fun e w' => e = .returned (.int .i64 v) ∧ Below W.heap.size W w') := ⟨fun W h => HV.out ▸ implSieveFor_any bo d xs m a1 c1 a2 c2 W (HM.out.below h.below (Nat.le_refl _)) (rules_read h.three.head) (by omega) HZ.out (h.tail.head).at HMZ.out KC⟩
  have CS : Seal (∀ W, SieveS w L xs bo d m a1 c1 a2 c2 W → Calls Tryd.prog 11 #[.slice bo xs.length d, .agg (mailV m a1 c1 a2 c2)] W fun e w' => e = .returned (.int .i64 v) ∧ Below W.heap.size W w') := ⟨fun W h => HV.out ▸ specSieveFor_any bo d xs m a1 c1 a2 c2 W (rules_read h.three.head) (by omega) HZ.out (h.tail.head).at HMZ.out⟩
  have CO : Seal (∀ W, SieveS w L xs bo d m a1 c1 a2 c2 W → Calls Tryd.prog 12 #[.slice bo xs.length d] W fun e w' => e = .returned (.bool (rulesB xs)) ∧ Below W.heap.size W w') := ⟨fun W h => implSieveOk_any bo d xs W (HM.out.below h.below (Nat.le_refl _)) (rules_read h.three.head) (by omega) HZ.out⟩
  have CQ : Seal (∀ W, SieveS w L xs bo d m a1 c1 a2 c2 W → Calls Tryd.prog 13 #[.slice bo xs.length d] W fun e w' => e = .returned (.bool (rulesB xs)) ∧ Below W.heap.size W w') := ⟨fun W h => specSieveOk_any bo d xs W (rules_read h.three.head) (by omega) HZ.out⟩
  have CM : Seal (∀ W, SieveS w L xs bo d m a1 c1 a2 c2 W → Calls Tryd.prog 14 #[.agg (mailV m a1 c1 a2 c2)] W fun e w' => e = .returned (.bool (mailB m)) ∧ Below W.heap.size W w') := ⟨fun W h => implMailOk_any m a1 c1 a2 c2 W (HM.out.below h.below (Nat.le_refl _)) (h.tail.head).at HMZ.out KC⟩
  rw [hL] at S1
  clear CD hx hd hv s1 ok KC
  go_wp2_with fail
  try simp only [hL]
  generalize w1.alloc (.cells (mailV m a1 c1 a2 c2) 29) = W1 at *
  clear hL
  refine (CI.out _ S1.out).mono ?_
  rintro e w2 ⟨rfl, hb⟩
  have S2 : Seal _ := ⟨S1.out.later hb⟩
  clear hb S1
  have g0 := S2.out.head.c 0 _ rfl
  have g1 := S2.out.head.c 1 _ rfl
  have g2 := S2.out.head.c 2 _ rfl
  have g3 := S2.out.head.c 3 _ rfl
  have q1 : (v != v) = false := by simp
  have q2 : (v == v) = true := by simp
  go_wp2_with fail
  refine (CS.out _ S2.out).mono ?_
  rintro e w3 ⟨rfl, hb⟩
  have S3 : Seal _ := ⟨S2.out.later hb⟩
  clear hb S2 g0 g1 g2 g3
  have g0 := S3.out.head.c 0 _ rfl
  have g1 := S3.out.head.c 1 _ rfl
  have g2 := S3.out.head.c 2 _ rfl
  have g3 := S3.out.head.c 3 _ rfl
  go_wp2_with fail
  refine (CO.out _ S3.out).mono ?_
  rintro e w4 ⟨rfl, hb⟩
  have S4 : Seal _ := ⟨S3.out.later hb⟩
  clear hb S3 g0 g1 g2 g3
  have g0 := S4.out.head.c 0 _ rfl
  have g1 := S4.out.head.c 1 _ rfl
  have g2 := S4.out.head.c 2 _ rfl
  have g3 := S4.out.head.c 3 _ rfl
  go_wp2_with fail
  refine (CQ.out _ S4.out).mono ?_
  rintro e w5 ⟨rfl, hb⟩
  have S5 : Seal _ := ⟨S4.out.later hb⟩
  clear hb S4 g0 g1 g2 g3
  have g0 := S5.out.head.c 0 _ rfl
  have g1 := S5.out.head.c 1 _ rfl
  have g2 := S5.out.head.c 2 _ rfl
  have g3 := S5.out.head.c 3 _ rfl
  cases hR : rulesB xs
  · have HR : Seal _ := ⟨hR⟩
    rw [hR] at CO CQ
    clear hR
    go_wp2_with fail
    refine (CO.out _ S5.out).mono ?_
    rintro e w6 ⟨rfl, hb⟩
    have S6 : Seal _ := ⟨S5.out.later hb⟩
    clear hb S5 g0 g1 g2 g3
    have g0 := S6.out.head.c 0 _ rfl
    have g1 := S6.out.head.c 1 _ rfl
    have g2 := S6.out.head.c 2 _ rfl
    have g3 := S6.out.head.c 3 _ rfl
    go_wp2_with fail
    refine (CS.out _ S6.out).mono ?_
    rintro e w7 ⟨rfl, hb⟩
    have S7 : Seal _ := ⟨S6.out.later hb⟩
    clear hb S6 g0 g1 g2 g3
    have g0 := S7.out.head.c 0 _ rfl
    have g1 := S7.out.head.c 1 _ rfl
    have g2 := S7.out.head.c 2 _ rfl
    have g3 := S7.out.head.c 3 _ rfl
    go_wp2_with fail
    refine (CO.out _ S7.out).mono ?_
    rintro e w8 ⟨rfl, hb⟩
    have S8 : Seal _ := ⟨S7.out.later hb⟩
    clear hb S7 g0 g1 g2 g3
    have g0 := S8.out.head.c 0 _ rfl
    have g1 := S8.out.head.c 1 _ rfl
    have g2 := S8.out.head.c 2 _ rfl
    have g3 := S8.out.head.c 3 _ rfl
    go_wp2_with fail
    refine (CQ.out _ S8.out).mono ?_
    rintro e w9 ⟨rfl, hb⟩
    have S9 : Seal _ := ⟨S8.out.later hb⟩
    clear hb S8 g0 g1 g2 g3
    have g0 := S9.out.head.c 0 _ rfl
    have g1 := S9.out.head.c 1 _ rfl
    have g2 := S9.out.head.c 2 _ rfl
    have g3 := S9.out.head.c 3 _ rfl
    go_wp2
    go_ret
    exact ⟨rfl, S9.out.below⟩
  have HR : Seal _ := ⟨hR⟩
  rw [hR] at CO CQ
  clear hR
  go_wp2_with fail
  refine (CO.out _ S5.out).mono ?_
  rintro e w6 ⟨rfl, hb⟩
  have S6 : Seal _ := ⟨S5.out.later hb⟩
  clear hb S5 g0 g1 g2 g3
  have g0 := S6.out.head.c 0 _ rfl
  have g1 := S6.out.head.c 1 _ rfl
  have g2 := S6.out.head.c 2 _ rfl
  have g3 := S6.out.head.c 3 _ rfl
  cases hMB : mailB m
  · rw [hMB] at CM
    clear hMB
    go_wp2_with fail
    refine (CM.out _ S6.out).mono ?_
    rintro e w7 ⟨rfl, hb⟩
    have S7 : Seal _ := ⟨S6.out.later hb⟩
    clear hb S6 g0 g1 g2 g3
    have g0 := S7.out.head.c 0 _ rfl
    have g1 := S7.out.head.c 1 _ rfl
    have g2 := S7.out.head.c 2 _ rfl
    have g3 := S7.out.head.c 3 _ rfl
    go_wp2_with fail
    refine (CS.out _ S7.out).mono ?_
    rintro e w8 ⟨rfl, hb⟩
    have S8 : Seal _ := ⟨S7.out.later hb⟩
    clear hb S7 g0 g1 g2 g3
    have g0 := S8.out.head.c 0 _ rfl
    have g1 := S8.out.head.c 1 _ rfl
    have g2 := S8.out.head.c 2 _ rfl
    have g3 := S8.out.head.c 3 _ rfl
    go_wp2_with fail
    refine (CO.out _ S8.out).mono ?_
    rintro e w9 ⟨rfl, hb⟩
    have S9 : Seal _ := ⟨S8.out.later hb⟩
    clear hb S8 g0 g1 g2 g3
    have g0 := S9.out.head.c 0 _ rfl
    have g1 := S9.out.head.c 1 _ rfl
    have g2 := S9.out.head.c 2 _ rfl
    have g3 := S9.out.head.c 3 _ rfl
    go_wp2_with fail
    refine (CQ.out _ S9.out).mono ?_
    rintro e w10 ⟨rfl, hb⟩
    have S10 : Seal _ := ⟨S9.out.later hb⟩
    clear hb S9 g0 g1 g2 g3
    have g0 := S10.out.head.c 0 _ rfl
    have g1 := S10.out.head.c 1 _ rfl
    have g2 := S10.out.head.c 2 _ rfl
    have g3 := S10.out.head.c 3 _ rfl
    go_wp2
    go_ret
    exact ⟨rfl, S10.out.below⟩
  have HMB : Seal _ := ⟨hMB⟩
  rw [hMB] at CM
  clear hMB
  go_wp2_with fail
  refine (CM.out _ S6.out).mono ?_
  rintro e w7 ⟨rfl, hb⟩
  have S7 : Seal _ := ⟨S6.out.later hb⟩
  clear hb S6 g0 g1 g2 g3
  have g0 := S7.out.head.c 0 _ rfl
  have g1 := S7.out.head.c 1 _ rfl
  have g2 := S7.out.head.c 2 _ rfl
  have g3 := S7.out.head.c 3 _ rfl
  clear CS CO CQ CM CI g0 g1 g2 g3 q1 q2
  have hfr : firstR (asksB m.fu m.fd m.body) xs = v := by rw [← whichB_yes HR.out HMB.out]; exact HV.out
  rcases firstR_cases (asksB m.fu m.fd m.body) xs with hno | ⟨kk, y, hyes, hy⟩
  · obtain rfl : v = -1 := by rw [← hfr]; exact hno
    clear hfr
    go_wp2
    go_loopw [6] (fun i wr => ∃ k : Nat, k ≤ xs.length ∧ i = .int .i64 k ∧ Seal (SieveS w L xs bo d m a1 c1 a2 c2 wr)) (fun i _ => xs.length - (intOf i).toNat)
    case atStart => exact ⟨0, Nat.zero_le _, rfl, S7⟩
    case round =>
      obtain ⟨k, hk, rfl, S⟩ := hrel
      clear S7
      by_cases hlt : k < xs.length
      · obtain ⟨x, hxk⟩ : ∃ x, xs[k]? = some x := ⟨_, List.getElem?_eq_getElem hlt⟩
        have HXK : Seal _ := ⟨hxk⟩
        have hrow := rules_read S.out.three.head
        obtain ⟨b, off, rfl, _⟩ := ruleAt hrow hxk
        have SD : Seal _ := ⟨S.out.drew⟩
        have R1 : Seal _ := ⟨rowOf_one (rules_read SD.out.three.head) hxk⟩
        have HB : Seal _ := ⟨rules_each HR.out hxk⟩
        have HZX : Seal (∀ z ∈ [x], ruleN z ≤ 1048576) := ⟨fun z hz => by rw [List.mem_singleton.1 hz]; exact HZ.out x (List.mem_of_getElem? hxk)⟩
        have KC := SD.out.tail.mailOwn.rc.cap
        have AT : Seal _ := ⟨SD.out.tail.head.at⟩
        have HMD : Seal _ := ⟨HM.out.below SD.out.below (Nat.le_refl _)⟩
        have g0 := SD.out.head.c 0 _ rfl
        have g1 := SD.out.head.c 1 _ rfl
        have g2 := SD.out.head.c 2 _ rfl
        have g3 := SD.out.head.c 3 _ rfl
        have hcd : ¬ d = k := by omega
        have hcd1 : (k : Int) + 1 ≤ d := by omega
        have hcd2 : (k : Int) ≤ (k : Int) + 1 := by omega
        have hwr : IntKind.i64.wrap ((k : Int) + 1) = (k : Int) + 1 := IntWalk.i64_in _ (by omega)
        have ha : whichB [x] m = -1 := by rw [whichB_one HB.out HMB.out, firstR_no hno hxk]; rfl
        have HA : Seal _ := ⟨ha⟩
        have e1 : ((k : Int) == -1) = false := by rw [beq_eq_false_iff_ne]; omega
        have e2 : ((-1 : Int) != -1) = false := by decide
        clear ha hxk hrow
        go_wp2_with fail
        go_region_with (go_at_call 10; refine (implSieveFor_any _ _ [x] m a1 c1 a2 c2 _ HMD.out R1.out (by simp) HZX.out AT.out HMZ.out KC).mono ?_; rintro e w9 ⟨rfl, hb⟩; rw [HA.out]; have S9 : Seal _ := ⟨SD.out.later hb⟩; clear hb)
        all_goals
          clear SD R1 AT HMD g0 g1 g2 g3
          go_wp2
          go_roundw
          case rel => exact ⟨k + 1, by omega, by go_num, S9⟩
          case measure => simp [intOf]; omega
      · have e5 : decide ((-1 : Int) < (xs.length : Int)) = true := by rw [decide_eq_true_eq]; omega
        go_wp2
        go_ret
        exact ⟨rfl, S.out.below⟩
  · obtain rfl : v = kk := by rw [← hfr]; exact hyes
    have hky := (List.getElem?_eq_some_iff.1 hy).1
    clear hfr hy
    go_wp2
    go_loopw [6] (fun i wr => ∃ k : Nat, k ≤ xs.length ∧ i = .int .i64 k ∧ Seal (SieveS w L xs bo d m a1 c1 a2 c2 wr)) (fun i _ => xs.length - (intOf i).toNat)
    case atStart => exact ⟨0, Nat.zero_le _, rfl, S7⟩
    case round =>
      obtain ⟨k, hk, rfl, S⟩ := hrel
      clear S7
      by_cases hlt : k < xs.length
      · obtain ⟨x, hxk⟩ : ∃ x, xs[k]? = some x := ⟨_, List.getElem?_eq_getElem hlt⟩
        have HXK : Seal _ := ⟨hxk⟩
        have hrow := rules_read S.out.three.head
        obtain ⟨b, off, rfl, _⟩ := ruleAt hrow hxk
        have SD : Seal _ := ⟨S.out.drew⟩
        have R1 : Seal _ := ⟨rowOf_one (rules_read SD.out.three.head) hxk⟩
        have HB : Seal _ := ⟨rules_each HR.out hxk⟩
        have HZX : Seal (∀ z ∈ [x], ruleN z ≤ 1048576) := ⟨fun z hz => by rw [List.mem_singleton.1 hz]; exact HZ.out x (List.mem_of_getElem? hxk)⟩
        have KC := SD.out.tail.mailOwn.rc.cap
        have AT : Seal _ := ⟨SD.out.tail.head.at⟩
        have HMD : Seal _ := ⟨HM.out.below SD.out.below (Nat.le_refl _)⟩
        have g0 := SD.out.head.c 0 _ rfl
        have g1 := SD.out.head.c 1 _ rfl
        have g2 := SD.out.head.c 2 _ rfl
        have g3 := SD.out.head.c 3 _ rfl
        have hcd : ¬ d = k := by omega
        have hcd1 : (k : Int) + 1 ≤ d := by omega
        have hcd2 : (k : Int) ≤ (k : Int) + 1 := by omega
        have hwr : IntKind.i64.wrap ((k : Int) + 1) = (k : Int) + 1 := IntWalk.i64_in _ (by omega)
        rcases Nat.lt_trichotomy k kk with hlk | hlk | hlk
        · have ha : whichB [x] m = -1 := by rw [whichB_one HB.out HMB.out, firstR_at hyes hxk (by omega), decide_eq_false (by omega)]; rfl
          have e1 : ((k : Int) == (kk : Int)) = false := by rw [beq_eq_false_iff_ne]; omega
          have e2 : ((-1 : Int) != -1) = false := by decide
          have e3 : decide ((k : Int) < (kk : Int)) = true := by rw [decide_eq_true_eq]; omega
          have e4 : decide (k < kk) = true := by rw [decide_eq_true_eq]; omega
          have HA : Seal _ := ⟨ha⟩
          have HLK : Seal _ := ⟨hlk⟩
          clear ha hxk hrow hlk
          go_wp2_with fail
          go_region_with (go_at_call 10; refine (implSieveFor_any _ _ [x] m a1 c1 a2 c2 _ HMD.out R1.out (by simp) HZX.out AT.out HMZ.out KC).mono ?_; rintro e w9 ⟨rfl, hb⟩; rw [HA.out]; have S9 : Seal _ := ⟨SD.out.later hb⟩; clear hb)
          all_goals
            clear SD R1 AT HMD g0 g1 g2 g3
            go_wp2
            go_roundw
            case rel => exact ⟨k + 1, by omega, by go_num, S9⟩
            case measure => simp [intOf]; omega
        · have ha : whichB [x] m = 0 := by rw [whichB_one HB.out HMB.out, firstR_at hyes hxk (by omega), decide_eq_true hlk]; rfl
          have e1 : ((k : Int) == (kk : Int)) = true := by rw [beq_iff_eq]; omega
          have e2 : ((0 : Int) != 0) = false := by decide
          have e3 : decide ((k : Int) < (kk : Int)) = false := by rw [decide_eq_false_iff_not]; omega
          have e4 : decide (k < kk) = false := by rw [decide_eq_false_iff_not]; omega
          have HA : Seal _ := ⟨ha⟩
          have HLK : Seal _ := ⟨hlk⟩
          clear ha hxk hrow hlk
          go_wp2_with fail
          go_region_with (go_at_call 10; refine (implSieveFor_any _ _ [x] m a1 c1 a2 c2 _ HMD.out R1.out (by simp) HZX.out AT.out HMZ.out KC).mono ?_; rintro e w9 ⟨rfl, hb⟩; rw [HA.out]; have S9 : Seal _ := ⟨SD.out.later hb⟩; clear hb)
          all_goals
            clear SD R1 AT HMD g0 g1 g2 g3
            go_wp2
            go_roundw
            case rel => exact ⟨k + 1, by omega, by go_num, S9⟩
            case measure => simp [intOf]; omega
        · obtain ⟨a, ha⟩ : ∃ a, whichB [x] m = a := ⟨_, rfl⟩
          have e1 : ((k : Int) == (kk : Int)) = false := by rw [beq_eq_false_iff_ne]; omega
          have e3 : decide ((k : Int) < (kk : Int)) = false := by rw [decide_eq_false_iff_not]; omega
          have e4 : decide (k < kk) = false := by rw [decide_eq_false_iff_not]; omega
          have HA : Seal _ := ⟨ha⟩
          have HLK : Seal _ := ⟨hlk⟩
          clear ha hxk hrow hlk
          go_wp2_with fail
          go_region_with (go_at_call 10; refine (implSieveFor_any _ _ [x] m a1 c1 a2 c2 _ HMD.out R1.out (by simp) HZX.out AT.out HMZ.out KC).mono ?_; rintro e w9 ⟨rfl, hb⟩; rw [HA.out]; have S9 : Seal _ := ⟨SD.out.later hb⟩; clear hb)
          all_goals
            clear SD R1 AT HMD g0 g1 g2 g3
            go_wp2
            go_roundw
            case rel => exact ⟨k + 1, by omega, by go_num, S9⟩
            case measure => simp [intOf]; omega
      · have e5 : decide ((kk : Int) < (xs.length : Int)) = true := by rw [decide_eq_true_eq]; omega
        have e6 : decide (kk < xs.length) = true := by rw [decide_eq_true_eq]; omega
        go_wp2
        go_ret
        exact ⟨rfl, S.out.below⟩
end Go.Proofs.YtgniokkiejoccaaDoor
