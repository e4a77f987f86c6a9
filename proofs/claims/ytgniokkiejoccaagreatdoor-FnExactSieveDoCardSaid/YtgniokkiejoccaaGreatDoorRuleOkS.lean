/- Contracts: whether rules are ok, of the model. -/
import Derived.Test.YtgniokkiejoccaaGreatDoorRuleD
namespace Go.Proofs.YtgniokkiejoccaaGreatDoor
open Go Go.RowKit

set_option maxHeartbeats 16000000 in
set_option maxRecDepth 100000 in
theorem l13Ok_any (ao : Option Addr) (cap : Nat) (xs : List RuleD) (w : World) (hr : RuleRow w ao xs) (hl : xs.length ≤ 1048576) (hz : ∀ x ∈ xs, ruleN x ≤ 1048576) :
    Calls Tryz.prog 19 #[.slice ao xs.length cap] w fun e w' => e = .returned (.bool (rulesB xs)) ∧ Below w.heap.size w w' := by
  have HR : Seal _ := ⟨hr⟩
  have HZ : Seal _ := ⟨hz⟩
  clear hr hz
  go_enter Tryz.func19, Tryz.ntmps19
  go_wp2
  go_loopw [3] (fun i wr => ∃ k : Nat, k ≤ xs.length ∧ i = .int .i64 k ∧ Seal ((xs.take k).all ruleB = true) ∧ Seal (Below w.heap.size w wr)) (fun i _ => xs.length - (intOf i).toNat)
  case atStart => exact ⟨0, Nat.zero_le _, rfl, ⟨by simp⟩, ⟨Below.refl _ _⟩⟩
  case round =>
    obtain ⟨k, hk, rfl, HB, hbe⟩ := hrel
    by_cases hlt : k < xs.length
    · obtain ⟨x, hx⟩ : ∃ x, xs[k]? = some x := ⟨_, List.getElem?_eq_getElem hlt⟩
      obtain ⟨b, off, rfl, c0, c1, c2, c3, c4⟩ := ruleAt (HR.out.below ruleP_stays hbe.out (Nat.le_refl _)) hx
      have HX : Seal _ := ⟨hx⟩
      obtain ⟨z1, z2, z3⟩ := ruleN_parts (HZ.out x (List.mem_of_getElem? hx))
      have S1 : Seal _ := ⟨(St.start wr).alloc (ruleV x) 56⟩
      obtain ⟨va, hva⟩ : ∃ v, inB x.ask 1 4 = v := ⟨_, rfl⟩
      obtain ⟨vb, hvb⟩ : ∃ v, inB x.act 1 3 = v := ⟨_, rfl⟩
      obtain ⟨vl, hvl⟩ : ∃ v, lineB x.txt = v := ⟨_, rfl⟩
      obtain ⟨vd, hvd⟩ : ∃ v, domB x.txt = v := ⟨_, rfl⟩
      obtain ⟨vq, hvq⟩ : ∃ v, addrB x.u x.d = v := ⟨_, rfl⟩
      obtain ⟨vn, hvn⟩ : ∃ v, nullB x.u x.d = v := ⟨_, rfl⟩
      have CI1 : Seal _ := ⟨l1In_any x.ask 1 4⟩
      rw [hva] at CI1
      have CI2 : Seal _ := ⟨l1In_any x.act 1 3⟩
      rw [hvb] at CI2
      have CL : Seal _ := ⟨fun W => l2LineOk_any x.txt W (by unfold maxLen; omega)⟩
      rw [hvl] at CL
      have CD : Seal _ := ⟨fun W => l1Domain_any x.txt W (by omega)⟩
      rw [hvd] at CD
      have CA : Seal _ := ⟨fun W => l1AddrOk_any x.u x.d W (by omega) (by omega)⟩
      rw [hvq] at CA
      have CN : Seal _ := ⟨l1Null_is x.u x.d vn hvn⟩
      have HF : Seal (firstB x = (va && (vb && (vl && (decide (x.ask < 3) || x.txt.toList.isEmpty))))) := ⟨by unfold firstB; rw [hva, hvb, hvl]⟩
      have HS : Seal (secondB x = ((!decide (x.ask = 1) || vd) && (if x.act = 3 then vq else vn))) := ⟨by unfold secondB; rw [hvd, hvq, hvn]⟩
      have HVA : Seal _ := ⟨hva⟩
      clear hx hva hvb hvl hvd hvq hvn
      cases va
      · clear HVA
        have hm : Seal (rulesB xs = false) := ⟨rulesB_miss HX.out (ruleB_first (by rw [HF.out]; rfl))⟩
        go_wp2_with fail
        refine (CI1.out _).mono ?_
        rintro e w1 ⟨rfl, rfl⟩
        go_wp2
        go_ret
        exact ⟨ret_b hm.out.symm, hbe.out.trans (S1.out.below.mono hbe.out.size)⟩
      cases vb
      · clear HVA
        have hm : Seal (rulesB xs = false) := ⟨rulesB_miss HX.out (ruleB_first (by rw [HF.out]; rfl))⟩
        go_wp2_with fail
        refine (CI1.out _).mono ?_
        rintro e w1 ⟨rfl, rfl⟩
        go_wp2_with fail
        refine (CI2.out _).mono ?_
        rintro e w2 ⟨rfl, rfl⟩
        go_wp2
        go_ret
        exact ⟨ret_b hm.out.symm, hbe.out.trans (S1.out.below.mono hbe.out.size)⟩
      cases vl
      · clear HVA
        have hm : Seal (rulesB xs = false) := ⟨rulesB_miss HX.out (ruleB_first (by rw [HF.out]; rfl))⟩
        go_wp2_with fail
        refine (CI1.out _).mono ?_
        rintro e w1 ⟨rfl, rfl⟩
        go_wp2_with fail
        refine (CI2.out _).mono ?_
        rintro e w2 ⟨rfl, rfl⟩
        go_wp2_with fail
        refine (CL.out _).mono ?_
        rintro e w3 ⟨rfl, rfl⟩
        go_wp2
        go_ret
        exact ⟨ret_b hm.out.symm, hbe.out.trans (S1.out.below.mono hbe.out.size)⟩
      have hin : 1 ≤ x.ask ∧ x.ask ≤ 4 := by
        have := HVA.out
        unfold inB at this
        exact of_decide_eq_true this
      clear HVA
      by_cases h3 : 3 ≤ x.ask
      · by_cases ht : x.txt.toList = []
        · have ht' : x.txt.toList.isEmpty = true := by rw [ht]; rfl
          have HRB : Seal (ruleB x = if x.act = 3 then vq else vn) := ⟨by rw [ruleB_second (by rw [HF.out, ht', Bool.or_true]; rfl), HS.out, decide_eq_false (show ¬ x.ask = 1 by omega)]; rfl⟩
          have e1 : (x.ask == 1) = false := by rw [beq_eq_false_iff_ne]; omega
          by_cases ha : x.act = 3
          · have HRB2 : Seal (ruleB x = vq) := ⟨by rw [HRB.out, if_pos ha]⟩
            have e3 : (x.act == 3) = true := by rw [beq_iff_eq]; exact ha
            have e4 : (x.act != 3) = false := by rw [bne, e3]; rfl
            clear ha HRB HF HS
            cases vq
            · have hm : Seal (rulesB xs = false) := ⟨rulesB_miss HX.out HRB2.out⟩
              go_wp2_with fail
              refine (CI1.out _).mono ?_
              rintro e w1 ⟨rfl, rfl⟩
              go_wp2_with fail
              refine (CI2.out _).mono ?_
              rintro e w2 ⟨rfl, rfl⟩
              go_wp2_with fail
              refine (CL.out _).mono ?_
              rintro e w3 ⟨rfl, rfl⟩
              go_wp2_with fail
              refine (CA.out _).mono ?_
              rintro e w5 ⟨rfl, hb5⟩
              have S5 : Seal _ := ⟨S1.out.later hb5⟩
              have K5 := S5.out.head
              have u2 := K5.c 2 _ rfl
              clear hb5 K5
              go_wp2
              go_ret
              exact ⟨ret_b hm.out.symm, hbe.out.trans (S5.out.below.mono hbe.out.size)⟩
            · have HB2 : Seal ((xs.take (k + 1)).all ruleB = true) := ⟨list_all_succ HX.out HB.out HRB2.out⟩
              go_wp2_with fail
              refine (CI1.out _).mono ?_
              rintro e w1 ⟨rfl, rfl⟩
              go_wp2_with fail
              refine (CI2.out _).mono ?_
              rintro e w2 ⟨rfl, rfl⟩
              go_wp2_with fail
              refine (CL.out _).mono ?_
              rintro e w3 ⟨rfl, rfl⟩
              go_wp2_with fail
              refine (CA.out _).mono ?_
              rintro e w5 ⟨rfl, hb5⟩
              have S5 : Seal _ := ⟨S1.out.later hb5⟩
              have K5 := S5.out.head
              have u2 := K5.c 2 _ rfl
              clear hb5 K5
              go_wp2
              go_roundw
              case rel => exact ⟨k + 1, by omega, by go_num, HB2, ⟨hbe.out.trans (S5.out.below.mono hbe.out.size)⟩⟩
              case measure => simp [intOf]; omega
          · have HRB2 : Seal (ruleB x = vn) := ⟨by rw [HRB.out, if_neg ha]⟩
            have e3 : (x.act == 3) = false := by rw [beq_eq_false_iff_ne]; exact ha
            have e4 : (x.act != 3) = true := by rw [bne, e3]; rfl
            clear ha HRB HF HS
            cases vn
            · have hm : Seal (rulesB xs = false) := ⟨rulesB_miss HX.out HRB2.out⟩
              go_wp2_with fail
              refine (CI1.out _).mono ?_
              rintro e w1 ⟨rfl, rfl⟩
              go_wp2_with fail
              refine (CI2.out _).mono ?_
              rintro e w2 ⟨rfl, rfl⟩
              go_wp2_with fail
              refine (CL.out _).mono ?_
              rintro e w3 ⟨rfl, rfl⟩
              go_wp2_with fail
              refine (CN.out _).mono ?_
              rintro e w5 ⟨rfl, hb5⟩
              have S5 : Seal _ := ⟨S1.out.later hb5⟩
              have K5 := S5.out.head
              have u2 := K5.c 2 _ rfl
              clear hb5 K5
              go_wp2
              go_ret
              exact ⟨ret_b hm.out.symm, hbe.out.trans (S5.out.below.mono hbe.out.size)⟩
            · have HB2 : Seal ((xs.take (k + 1)).all ruleB = true) := ⟨list_all_succ HX.out HB.out HRB2.out⟩
              go_wp2_with fail
              refine (CI1.out _).mono ?_
              rintro e w1 ⟨rfl, rfl⟩
              go_wp2_with fail
              refine (CI2.out _).mono ?_
              rintro e w2 ⟨rfl, rfl⟩
              go_wp2_with fail
              refine (CL.out _).mono ?_
              rintro e w3 ⟨rfl, rfl⟩
              go_wp2_with fail
              refine (CN.out _).mono ?_
              rintro e w5 ⟨rfl, hb5⟩
              have S5 : Seal _ := ⟨S1.out.later hb5⟩
              have K5 := S5.out.head
              have u2 := K5.c 2 _ rfl
              clear hb5 K5
              go_wp2
              go_roundw
              case rel => exact ⟨k + 1, by omega, by go_num, HB2, ⟨hbe.out.trans (S5.out.below.mono hbe.out.size)⟩⟩
              case measure => simp [intOf]; omega
        · have ht' : x.txt.toList.isEmpty = false := by simpa [List.isEmpty_iff] using ht
          have hm : Seal (rulesB xs = false) := ⟨rulesB_miss HX.out (ruleB_first (by rw [HF.out, ht', decide_eq_false (by omega)]; rfl))⟩
          go_wp2_with fail
          refine (CI1.out _).mono ?_
          rintro e w1 ⟨rfl, rfl⟩
          go_wp2_with fail
          refine (CI2.out _).mono ?_
          rintro e w2 ⟨rfl, rfl⟩
          go_wp2_with fail
          refine (CL.out _).mono ?_
          rintro e w3 ⟨rfl, rfl⟩
          go_wp2
          go_ret
          exact ⟨ret_b hm.out.symm, hbe.out.trans (S1.out.below.mono hbe.out.size)⟩
      have h3' : x.ask < 3 := by omega
      by_cases h1 : x.ask = 1
      · have e1 : (x.ask == 1) = true := by rw [beq_iff_eq]; exact h1
        have HS2 : Seal (ruleB x = (vd && (if x.act = 3 then vq else vn))) := ⟨by rw [ruleB_second (by rw [HF.out, decide_eq_true h3']; rfl), HS.out, decide_eq_true h1]; rfl⟩
        clear h1
        cases vd
        · clear HF HS
          have hm : Seal (rulesB xs = false) := ⟨rulesB_miss HX.out (by rw [HS2.out]; rfl)⟩
          go_wp2_with fail
          refine (CI1.out _).mono ?_
          rintro e w1 ⟨rfl, rfl⟩
          go_wp2_with fail
          refine (CI2.out _).mono ?_
          rintro e w2 ⟨rfl, rfl⟩
          go_wp2_with fail
          refine (CL.out _).mono ?_
          rintro e w3 ⟨rfl, rfl⟩
          go_wp2_with fail
          refine (CD.out _).mono ?_
          rintro e w4 ⟨rfl, hb4⟩
          have S4 : Seal _ := ⟨S1.out.later hb4⟩
          have K4 := S4.out.head
          have y0 := K4.c 0 _ rfl
          have y1 := K4.c 1 _ rfl
          have y2 := K4.c 2 _ rfl
          have y3 := K4.c 3 _ rfl
          have y4 := K4.c 4 _ rfl
          clear K4 hb4
          go_wp2
          go_ret
          exact ⟨ret_b hm.out.symm, hbe.out.trans (S4.out.below.mono hbe.out.size)⟩
        have HRB : Seal (ruleB x = if x.act = 3 then vq else vn) := ⟨by rw [HS2.out]; rfl⟩
        clear HS2
        by_cases ha : x.act = 3
        · have HRB2 : Seal (ruleB x = vq) := ⟨by rw [HRB.out, if_pos ha]⟩
          have e3 : (x.act == 3) = true := by rw [beq_iff_eq]; exact ha
          have e4 : (x.act != 3) = false := by rw [bne, e3]; rfl
          clear ha HRB HF HS
          cases vq
          · have hm : Seal (rulesB xs = false) := ⟨rulesB_miss HX.out HRB2.out⟩
            go_wp2_with fail
            refine (CI1.out _).mono ?_
            rintro e w1 ⟨rfl, rfl⟩
            go_wp2_with fail
            refine (CI2.out _).mono ?_
            rintro e w2 ⟨rfl, rfl⟩
            go_wp2_with fail
            refine (CL.out _).mono ?_
            rintro e w3 ⟨rfl, rfl⟩
            go_wp2_with fail
            refine (CD.out _).mono ?_
            rintro e w4 ⟨rfl, hb4⟩
            have S4 : Seal _ := ⟨S1.out.later hb4⟩
            have K4 := S4.out.head
            have y0 := K4.c 0 _ rfl
            have y1 := K4.c 1 _ rfl
            have y2 := K4.c 2 _ rfl
            have y3 := K4.c 3 _ rfl
            have y4 := K4.c 4 _ rfl
            clear K4 hb4
            go_wp2_with fail
            refine (CA.out _).mono ?_
            rintro e w5 ⟨rfl, hb5⟩
            have S5 : Seal _ := ⟨S4.out.later hb5⟩
            have K5 := S5.out.head
            have u2 := K5.c 2 _ rfl
            clear hb5 K5
            go_wp2
            go_ret
            exact ⟨ret_b hm.out.symm, hbe.out.trans (S5.out.below.mono hbe.out.size)⟩
          · have HB2 : Seal ((xs.take (k + 1)).all ruleB = true) := ⟨list_all_succ HX.out HB.out HRB2.out⟩
            go_wp2_with fail
            refine (CI1.out _).mono ?_
            rintro e w1 ⟨rfl, rfl⟩
            go_wp2_with fail
            refine (CI2.out _).mono ?_
            rintro e w2 ⟨rfl, rfl⟩
            go_wp2_with fail
            refine (CL.out _).mono ?_
            rintro e w3 ⟨rfl, rfl⟩
            go_wp2_with fail
            refine (CD.out _).mono ?_
            rintro e w4 ⟨rfl, hb4⟩
            have S4 : Seal _ := ⟨S1.out.later hb4⟩
            have K4 := S4.out.head
            have y0 := K4.c 0 _ rfl
            have y1 := K4.c 1 _ rfl
            have y2 := K4.c 2 _ rfl
            have y3 := K4.c 3 _ rfl
            have y4 := K4.c 4 _ rfl
            clear K4 hb4
            go_wp2_with fail
            refine (CA.out _).mono ?_
            rintro e w5 ⟨rfl, hb5⟩
            have S5 : Seal _ := ⟨S4.out.later hb5⟩
            have K5 := S5.out.head
            have u2 := K5.c 2 _ rfl
            clear hb5 K5
            go_wp2
            go_roundw
            case rel => exact ⟨k + 1, by omega, by go_num, HB2, ⟨hbe.out.trans (S5.out.below.mono hbe.out.size)⟩⟩
            case measure => simp [intOf]; omega
        · have HRB2 : Seal (ruleB x = vn) := ⟨by rw [HRB.out, if_neg ha]⟩
          have e3 : (x.act == 3) = false := by rw [beq_eq_false_iff_ne]; exact ha
          have e4 : (x.act != 3) = true := by rw [bne, e3]; rfl
          clear ha HRB HF HS
          cases vn
          · have hm : Seal (rulesB xs = false) := ⟨rulesB_miss HX.out HRB2.out⟩
            go_wp2_with fail
            refine (CI1.out _).mono ?_
            rintro e w1 ⟨rfl, rfl⟩
            go_wp2_with fail
            refine (CI2.out _).mono ?_
            rintro e w2 ⟨rfl, rfl⟩
            go_wp2_with fail
            refine (CL.out _).mono ?_
            rintro e w3 ⟨rfl, rfl⟩
            go_wp2_with fail
            refine (CD.out _).mono ?_
            rintro e w4 ⟨rfl, hb4⟩
            have S4 : Seal _ := ⟨S1.out.later hb4⟩
            have K4 := S4.out.head
            have y0 := K4.c 0 _ rfl
            have y1 := K4.c 1 _ rfl
            have y2 := K4.c 2 _ rfl
            have y3 := K4.c 3 _ rfl
            have y4 := K4.c 4 _ rfl
            clear K4 hb4
            go_wp2_with fail
            refine (CN.out _).mono ?_
            rintro e w5 ⟨rfl, hb5⟩
            have S5 : Seal _ := ⟨S4.out.later hb5⟩
            have K5 := S5.out.head
            have u2 := K5.c 2 _ rfl
            clear hb5 K5
            go_wp2
            go_ret
            exact ⟨ret_b hm.out.symm, hbe.out.trans (S5.out.below.mono hbe.out.size)⟩
          · have HB2 : Seal ((xs.take (k + 1)).all ruleB = true) := ⟨list_all_succ HX.out HB.out HRB2.out⟩
            go_wp2_with fail
            refine (CI1.out _).mono ?_
            rintro e w1 ⟨rfl, rfl⟩
            go_wp2_with fail
            refine (CI2.out _).mono ?_
            rintro e w2 ⟨rfl, rfl⟩
            go_wp2_with fail
            refine (CL.out _).mono ?_
            rintro e w3 ⟨rfl, rfl⟩
            go_wp2_with fail
            refine (CD.out _).mono ?_
            rintro e w4 ⟨rfl, hb4⟩
            have S4 : Seal _ := ⟨S1.out.later hb4⟩
            have K4 := S4.out.head
            have y0 := K4.c 0 _ rfl
            have y1 := K4.c 1 _ rfl
            have y2 := K4.c 2 _ rfl
            have y3 := K4.c 3 _ rfl
            have y4 := K4.c 4 _ rfl
            clear K4 hb4
            go_wp2_with fail
            refine (CN.out _).mono ?_
            rintro e w5 ⟨rfl, hb5⟩
            have S5 : Seal _ := ⟨S4.out.later hb5⟩
            have K5 := S5.out.head
            have u2 := K5.c 2 _ rfl
            clear hb5 K5
            go_wp2
            go_roundw
            case rel => exact ⟨k + 1, by omega, by go_num, HB2, ⟨hbe.out.trans (S5.out.below.mono hbe.out.size)⟩⟩
            case measure => simp [intOf]; omega
      have e1 : (x.ask == 1) = false := by rw [beq_eq_false_iff_ne]; exact h1
      have HRB : Seal (ruleB x = if x.act = 3 then vq else vn) := ⟨by rw [ruleB_second (by rw [HF.out, decide_eq_true h3']; rfl), HS.out, decide_eq_false h1]; rfl⟩
      clear h1
      by_cases ha : x.act = 3
      · have HRB2 : Seal (ruleB x = vq) := ⟨by rw [HRB.out, if_pos ha]⟩
        have e3 : (x.act == 3) = true := by rw [beq_iff_eq]; exact ha
        have e4 : (x.act != 3) = false := by rw [bne, e3]; rfl
        clear ha HRB HF HS
        cases vq
        · have hm : Seal (rulesB xs = false) := ⟨rulesB_miss HX.out HRB2.out⟩
          go_wp2_with fail
          refine (CI1.out _).mono ?_
          rintro e w1 ⟨rfl, rfl⟩
          go_wp2_with fail
          refine (CI2.out _).mono ?_
          rintro e w2 ⟨rfl, rfl⟩
          go_wp2_with fail
          refine (CL.out _).mono ?_
          rintro e w3 ⟨rfl, rfl⟩
          go_wp2_with fail
          refine (CA.out _).mono ?_
          rintro e w5 ⟨rfl, hb5⟩
          have S5 : Seal _ := ⟨S1.out.later hb5⟩
          have K5 := S5.out.head
          have u2 := K5.c 2 _ rfl
          clear hb5 K5
          go_wp2
          go_ret
          exact ⟨ret_b hm.out.symm, hbe.out.trans (S5.out.below.mono hbe.out.size)⟩
        · have HB2 : Seal ((xs.take (k + 1)).all ruleB = true) := ⟨list_all_succ HX.out HB.out HRB2.out⟩
          go_wp2_with fail
          refine (CI1.out _).mono ?_
          rintro e w1 ⟨rfl, rfl⟩
          go_wp2_with fail
          refine (CI2.out _).mono ?_
          rintro e w2 ⟨rfl, rfl⟩
          go_wp2_with fail
          refine (CL.out _).mono ?_
          rintro e w3 ⟨rfl, rfl⟩
          go_wp2_with fail
          refine (CA.out _).mono ?_
          rintro e w5 ⟨rfl, hb5⟩
          have S5 : Seal _ := ⟨S1.out.later hb5⟩
          have K5 := S5.out.head
          have u2 := K5.c 2 _ rfl
          clear hb5 K5
          go_wp2
          go_roundw
          case rel => exact ⟨k + 1, by omega, by go_num, HB2, ⟨hbe.out.trans (S5.out.below.mono hbe.out.size)⟩⟩
          case measure => simp [intOf]; omega
      · have HRB2 : Seal (ruleB x = vn) := ⟨by rw [HRB.out, if_neg ha]⟩
        have e3 : (x.act == 3) = false := by rw [beq_eq_false_iff_ne]; exact ha
        have e4 : (x.act != 3) = true := by rw [bne, e3]; rfl
        clear ha HRB HF HS
        cases vn
        · have hm : Seal (rulesB xs = false) := ⟨rulesB_miss HX.out HRB2.out⟩
          go_wp2_with fail
          refine (CI1.out _).mono ?_
          rintro e w1 ⟨rfl, rfl⟩
          go_wp2_with fail
          refine (CI2.out _).mono ?_
          rintro e w2 ⟨rfl, rfl⟩
          go_wp2_with fail
          refine (CL.out _).mono ?_
          rintro e w3 ⟨rfl, rfl⟩
          go_wp2_with fail
          refine (CN.out _).mono ?_
          rintro e w5 ⟨rfl, hb5⟩
          have S5 : Seal _ := ⟨S1.out.later hb5⟩
          have K5 := S5.out.head
          have u2 := K5.c 2 _ rfl
          clear hb5 K5
          go_wp2
          go_ret
          exact ⟨ret_b hm.out.symm, hbe.out.trans (S5.out.below.mono hbe.out.size)⟩
        · have HB2 : Seal ((xs.take (k + 1)).all ruleB = true) := ⟨list_all_succ HX.out HB.out HRB2.out⟩
          go_wp2_with fail
          refine (CI1.out _).mono ?_
          rintro e w1 ⟨rfl, rfl⟩
          go_wp2_with fail
          refine (CI2.out _).mono ?_
          rintro e w2 ⟨rfl, rfl⟩
          go_wp2_with fail
          refine (CL.out _).mono ?_
          rintro e w3 ⟨rfl, rfl⟩
          go_wp2_with fail
          refine (CN.out _).mono ?_
          rintro e w5 ⟨rfl, hb5⟩
          have S5 : Seal _ := ⟨S1.out.later hb5⟩
          have K5 := S5.out.head
          have u2 := K5.c 2 _ rfl
          clear hb5 K5
          go_wp2
          go_roundw
          case rel => exact ⟨k + 1, by omega, by go_num, HB2, ⟨hbe.out.trans (S5.out.below.mono hbe.out.size)⟩⟩
          case measure => simp [intOf]; omega
    · obtain rfl : k = xs.length := by omega
      have hAll := HB.out
      rw [List.take_length] at hAll
      have hm : Seal (rulesB xs = decide ((xs.length : Int) ≤ 5)) := ⟨rulesB_end hAll⟩
      clear hAll HB
      go_wp2
      go_ret
      exact ⟨ret_b hm.out.symm, hbe.out⟩

end Go.Proofs.YtgniokkiejoccaaGreatDoor
