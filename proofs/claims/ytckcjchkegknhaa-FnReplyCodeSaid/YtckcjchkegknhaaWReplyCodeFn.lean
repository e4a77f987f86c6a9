/- The walk of FnReplyCode. -/
import Derived.Test.YtckcjchkegknhaaDrawReply
import Derived.Test.YtckcjchkegknhaaReplyI
namespace Go.Proofs.Ytckcjchkegknhaa
open Go Go.RowKit

theorem implCode_now {s : ByteArray} {n : Int} (e : codeB s = n) (hs : s.size ≤ 100) (w : World) : Hid (∀ W, Below w.heap.size w W →
    Calls Try.prog 7 #[.string s] W fun e W' => e = .returned (.int .i64 n) ∧ Below w.heap.size w W') := Lib.hid fun W h => by
  subst e
  refine (implReplyCode_any s W (by unfold maxLen; omega)).mono ?_
  rintro e W' ⟨rfl, hb⟩
  exact ⟨rfl, h.trans (hb.mono h.size)⟩
theorem specCode_now {s : ByteArray} {n : Int} (e : codeB s = n) (hs : s.size ≤ 100) (w : World) : Hid (∀ W, Below w.heap.size w W →
    Calls Try.prog 8 #[.string s] W fun e W' => e = .returned (.int .i64 n) ∧ Below w.heap.size w W') := Lib.hid fun W h => by
  subst e
  refine (specReplyCode_any s W (by unfold maxLen; omega)).mono ?_
  rintro e W' ⟨rfl, rfl⟩
  exact ⟨rfl, h⟩

set_option maxHeartbeats 1000000 in
set_option maxRecDepth 100000 in
theorem wFnReplyCode.walk (ao : Option Addr) (len cap : Nat) (w : World) (hr : ByteRow w ao len) (hl : len ≤ cap) (hc : cap ≤ maxLen) (_ : True) :
    Calls Try.prog 3 #[.slice ao len cap] w fun e w' => e = .returned (.bool true) ∧ Below w.heap.size w w' := by
  have hc' := hc
  unfold maxLen at hc'
  by_cases hbig : 1048576 < len
  · clear hr
    go_enter Try.func3, Try.ntmps3
    go_wp2
    go_ret
    exact ⟨rfl, Below.refl _ _⟩
  have CD := Lib.hid (drawReplyCode_any ao len cap w hr hl hc)
  clear hr hc
  go_enter Try.func3, Try.ntmps3
  go_wp2_with fail
  refine CD.out.mono ?_
  rintro e w1 ⟨s, hs, rfl, b1⟩
  obtain ⟨zs, hlaw⟩ := draw_code hs
  clear hs CD
  by_cases h0 : codeB s = 0
  · have iC := implCode_now h0 (by omega) w
    have sC := specCode_now h0 (by omega) w
    clear hlaw h0
    go_wp2_with fail
    refine (iC.out _ (by assumption)).mono ?_
    rintro e w2 ⟨rfl, b2⟩
    clear b1
    go_wp2_with fail
    refine (sC.out _ (by assumption)).mono ?_
    rintro e w3 ⟨rfl, b3⟩
    clear b2
    go_wp2_with fail
    refine (sC.out _ (by assumption)).mono ?_
    rintro e w4 ⟨rfl, b4⟩
    clear b3
    go_wp2
    go_ret
    exact ⟨rfl, by assumption⟩
  · obtain ⟨h4, h3⟩ := codeB_form h0
    obtain ⟨⟨hlo, hhi⟩, e4, e3⟩ := hlaw.resolve_left h0
    obtain ⟨n, hn⟩ : ∃ n, codeB s = n := ⟨_, rfl⟩
    rw [hn] at h0 hlo hhi e4
    have z4 : (s.extract 0 4).size ≤ 100 := by rw [ByteArray.size_extract]; omega
    have z3 : (s.extract 0 3).size ≤ 100 := by rw [ByteArray.size_extract]; omega
    have iC := implCode_now hn (by omega) w
    have sC := specCode_now hn (by omega) w
    have i4 := implCode_now e4 z4 w
    have i3 := implCode_now e3 z3 w
    have q0 : (n == 0) = false := by rw [beq_eq_false_iff_ne]; exact h0
    have qn : (n != n) = false := by simp
    have i33 : 3 < s.size := by omega
    have j33 : (3 : Int) < (s.size : Int) := by omega
    have j44 : (4 : Int) ≤ (s.size : Int) := by omega
    have q3 : ((s[3].toNat : Int) == 32) = true := by rw [beq_iff_eq]; omega
    clear hlaw h0 hn e4 e3 z4 z3 h3
    go_wp2_with fail
    refine (iC.out _ (by assumption)).mono ?_
    rintro e w2 ⟨rfl, b2⟩
    clear b1
    go_wp2_with fail
    refine (sC.out _ (by assumption)).mono ?_
    rintro e w3 ⟨rfl, b3⟩
    clear b2
    go_wp2_with fail
    refine (i4.out _ (by assumption)).mono ?_
    rintro e w4 ⟨rfl, b4⟩
    clear b3
    go_wp2_with fail
    refine (i3.out _ (by assumption)).mono ?_
    rintro e w5 ⟨rfl, b5⟩
    clear b4
    go_wp2
    go_ret
    exact ⟨rfl, by assumption⟩
end Go.Proofs.Ytckcjchkegknhaa
