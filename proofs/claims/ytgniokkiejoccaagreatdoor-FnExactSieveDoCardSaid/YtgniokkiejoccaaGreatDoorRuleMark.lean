/- Contracts: marks written into rules that a call owns; whether rules still hold their marks. -/
import Derived.Test.YtgniokkiejoccaaGreatDoorRuleTo
import Derived.Test.YtgniokkiejoccaaGreatDoorMarksM
import Derived.Test.YtgniokkiejoccaaGreatDoorPlainSpool
import Derived.Test.YtgniokkiejoccaaGreatDoorHeld
import Derived.Deep.RegionHeld3
namespace Go.Proofs.YtgniokkiejoccaaGreatDoor
open Go Go.RowKit

def markRule (k : Nat) : RuleD := ⟨(k : Int), markT (k + 1), ((k + 2 : Nat) : Int), markT (k + 3), markT (k + 4)⟩
def ruMarks (k n : Nat) : List RuleD := (List.range n).map fun i => markRule (k + i * 5)
theorem ruMarks_length (k n : Nat) : (ruMarks k n).length = n := by simp [ruMarks]
theorem ruMarks_snoc (k n : Nat) : ruMarks k (n + 1) = ruMarks k n ++ [markRule (k + n * 5)] := by simp [ruMarks, List.range_succ]
theorem ruMarks_get {k n i : Nat} (h : i < n) : (ruMarks k n)[i]? = some (markRule (k + i * 5)) := by simp [ruMarks, h]
theorem rulesR_marked (ao : Option Addr) (cap k n : Nat) : rulesR ao cap (ruMarks k n) = Res.row 56 5 (.slice ao n cap) n (ruleE.all (ruMarks k n) (List.replicate n ())) := by
  unfold rulesR units1
  rw [ruMarks_length]

set_option maxHeartbeats 6400000 in
set_option maxRecDepth 100000 in
theorem markRuleS_any {X : Nat → Prop} (l : List Res) (k : Nat) (ao : Option Addr) (cap : Nat) (xs : List RuleD) (w0 w : World) (h : StX X w0 w (rulesR ao cap xs :: l)) (hl : k + xs.length * 5 ≤ 16777216) :
    Calls Tryz.prog 12 #[.slice ao xs.length cap, .int .i64 k] w fun e w' => e = .returned (.int .i64 ((k + xs.length * 5 : Nat) : Int)) ∧ StX X w0 w' (rulesR ao cap (ruMarks k xs.length) :: l) := by
  rcases slice_or h.head with h0 | ⟨g, rfl⟩
  · obtain rfl : xs = [] := List.eq_nil_of_length_eq_zero h0
    have S0 : Seal _ := ⟨h⟩
    clear h
    go_enter Tryz.func12, Tryz.ntmps12
    go_wp2
    go_loop [1, 5] (fun c i => c = .int .i64 k ∧ i = .int .i64 0) (fun _ _ => 0)
    case atStart => exact ⟨rfl, rfl⟩
    case round =>
      obtain ⟨rfl, rfl⟩ := hrel
      go_wp2
      go_ret
      exact ⟨by simp, S0.out⟩
  · have S0 : Seal (StX X w0 w (Res.row 56 ruleE.size (.slice (some ⟨g, 0, none⟩) xs.length cap) xs.length (ruleE.all (ruMarks k 0 ++ xs.drop 0) (units1 xs)) :: l)) := ⟨h⟩
    clear h
    rw [rulesR_marked]
    go_enter Tryz.func12, Tryz.ntmps12
    go_wp2
    go_loopw [1, 5] (fun c i wr => ∃ n : Nat, n ≤ xs.length ∧ i = .int .i64 n ∧ c = .int .i64 ((k + n * 5 : Nat) : Int) ∧ Seal (StX X w0 wr (Res.row 56 ruleE.size (.slice (some ⟨g, 0, none⟩) xs.length cap) xs.length (ruleE.all (ruMarks k n ++ xs.drop n) (units1 xs)) :: l))) (fun _ i _ => xs.length - (intOf i).toNat)
    case atStart => exact ⟨0, Nat.zero_le _, rfl, rfl, S0⟩
    case round =>
      obtain ⟨n, hn, rfl, rfl, S⟩ := hrel
      clear S0
      by_cases hlt : n < xs.length
      · obtain ⟨x, hx⟩ : ∃ x, xs[n]? = some x := ⟨_, List.getElem?_eq_getElem hlt⟩
        have hd := drop_get hx
        have hml := ruMarks_length k n
        have hones : units1 xs = List.replicate n () ++ () :: List.replicate (xs.length - (n + 1)) () := by
          show List.replicate xs.length () = _
          rw [← List.replicate_succ, List.replicate_append_replicate]
          congr 1
          omega
        have hPA : (List.replicate n ()).length = (ruMarks k n).length := by rw [hml, List.length_replicate]
        have s := S.out
        rw [hd, hones] at s
        have HP : Seal _ := ⟨hPA⟩
        have HML : Seal _ := ⟨hml⟩
        have HO : Seal _ := ⟨hones⟩
        obtain ⟨c0, f0⟩ := s.elemCell ruleE HP.out HML.out hlt (j := 0) (by decide) rfl
        have c0' : wr.cell? ⟨g, n * 5, none⟩ = some (.int .i64 x.ask) := c0
        have f0' : wr.frozen? ⟨g, n * 5, none⟩ = false := f0
        have S1 : Seal (StX X w0 (wr.setCell ⟨g, n * 5, none⟩ (.int .i64 ((k + n * 5 : Nat) : Int))) _) := ⟨s.setElem ruleE HP.out HML.out (j := 0) (by decide) (.int .i64 ((k + n * 5 : Nat) : Int)) ⟨((k + n * 5 : Nat) : Int), x.txt, x.act, x.u, x.d⟩ rfl⟩
        clear s S hd hml hones hPA hx c0 f0
        go_wp2_with (go_at_call 35; refine (markText_int _ (k + n * 5 + 1) (by push_cast; omega) (by omega) _).mono ?_)
        rintro e w1 ⟨rfl, hb1⟩
        have s1 := S1.out.later hb1
        obtain ⟨c1, f1⟩ := s1.elemCell ruleE HP.out HML.out hlt (j := 1) (by decide) rfl
        obtain ⟨c2, f2⟩ := s1.elemCell ruleE HP.out HML.out hlt (j := 2) (by decide) rfl
        have c1' : w1.cell? ⟨g, n * 5 + 1, none⟩ = some (.string x.txt) := c1
        have f1' : w1.frozen? ⟨g, n * 5 + 1, none⟩ = false := f1
        have c2' : w1.cell? ⟨g, n * 5 + 2, none⟩ = some (.int .i64 x.act) := c2
        have f2' : w1.frozen? ⟨g, n * 5 + 2, none⟩ = false := f2
        have s2 := s1.setElem ruleE HP.out HML.out (j := 1) (by decide) (.string (markT (k + n * 5 + 1))) ⟨((k + n * 5 : Nat) : Int), markT (k + n * 5 + 1), x.act, x.u, x.d⟩ rfl
        have S3 : Seal (StX X w0 ((w1.setCell ⟨g, n * 5 + 1, none⟩ (.string (markT (k + n * 5 + 1)))).setCell ⟨g, n * 5 + 2, none⟩ (.int .i64 ((k + n * 5 + 2 : Nat) : Int))) _) := ⟨s2.setElem ruleE HP.out HML.out (j := 2) (by decide) (.int .i64 ((k + n * 5 + 2 : Nat) : Int)) ⟨((k + n * 5 : Nat) : Int), markT (k + n * 5 + 1), ((k + n * 5 + 2 : Nat) : Int), x.u, x.d⟩ rfl⟩
        have q2 : (((k + n * 5 : Nat) : Int) + 1 + 1) = ((k + n * 5 + 2 : Nat) : Int) := by push_cast; omega
        clear hb1 s1 s2 S1 c1 f1 c2 f2 c0' f0'
        go_wp2_with (go_at_call 35; refine (markText_int _ (k + n * 5 + 3) (by first | rfl | (push_cast; omega)) (by omega) _).mono ?_)
        rintro e w2 ⟨rfl, hb2⟩
        have s4 := S3.out.later hb2
        obtain ⟨c3, f3⟩ := s4.elemCell ruleE HP.out HML.out hlt (j := 3) (by decide) rfl
        have c3' : w2.cell? ⟨g, n * 5 + 3, none⟩ = some (.string x.u) := c3
        have f3' : w2.frozen? ⟨g, n * 5 + 3, none⟩ = false := f3
        have S5 : Seal (StX X w0 (w2.setCell ⟨g, n * 5 + 3, none⟩ (.string (markT (k + n * 5 + 3)))) _) := ⟨s4.setElem ruleE HP.out HML.out (j := 3) (by decide) (.string (markT (k + n * 5 + 3))) ⟨((k + n * 5 : Nat) : Int), markT (k + n * 5 + 1), ((k + n * 5 + 2 : Nat) : Int), markT (k + n * 5 + 3), x.d⟩ rfl⟩
        clear hb2 s4 S3 c3 f3 c1' f1' c2' f2'
        go_wp2_with (go_at_call 35; refine (markText_int _ (k + n * 5 + 4) (by first | rfl | (push_cast; omega)) (by omega) _).mono ?_)
        rintro e w3 ⟨rfl, hb3⟩
        have s6 := S5.out.later hb3
        obtain ⟨c4, f4⟩ := s6.elemCell ruleE HP.out HML.out hlt (j := 4) (by decide) rfl
        have c4' : w3.cell? ⟨g, n * 5 + 4, none⟩ = some (.string x.d) := c4
        have f4' : w3.frozen? ⟨g, n * 5 + 4, none⟩ = false := f4
        have s7 := s6.setElem ruleE HP.out HML.out (j := 4) (by decide) (.string (markT (k + n * 5 + 4))) (markRule (k + n * 5)) rfl
        rw [← HO.out] at s7
        have ea : ruMarks k n ++ markRule (k + n * 5) :: xs.drop (n + 1) = ruMarks k (n + 1) ++ xs.drop (n + 1) := by rw [ruMarks_snoc, List.append_assoc]; rfl
        rw [ea] at s7
        have S7 : Seal (StX X w0 (w3.setCell ⟨g, n * 5 + 4, none⟩ (.string (markT (k + n * 5 + 4)))) _) := ⟨s7⟩
        clear hb3 s6 s7 S5 ea c4 f4 c3' f3' q2
        go_wp2
        go_roundw
        case rel => exact ⟨n + 1, by omega, by go_num, by go_num, by first | exact S7 | exact ⟨by simpa using S7.out⟩⟩
        case measure => simp [intOf]; omega
      · obtain rfl : n = xs.length := by omega
        have s := S.out
        rw [List.drop_length, List.append_nil] at s
        have S1 : Seal _ := ⟨s⟩
        clear s S
        go_wp2
        go_ret
        exact ⟨rfl, S1.out⟩

end Go.Proofs.YtgniokkiejoccaaGreatDoor
