/- Contracts: the program's code of a reply. -/
import Derived.Test.YtckcjchkegknhaaReply
namespace Go.Proofs.Ytckcjchkegknhaa
open Go Go.RowKit

set_option maxHeartbeats 400000 in
theorem codeOf_yes (s : ByteArray) (w : World) (hs : s.size ≤ maxLen) (h : 4 ≤ s.size) (h3 : s[3].toNat = 32) (h0 : 50 ≤ s[0].toNat ∧ s[0].toNat ≤ 53) (h1 : 48 ≤ s[1].toNat ∧ s[1].toNat ≤ 57) (h2 : 48 ≤ s[2].toNat ∧ s[2].toNat ≤ 57) :
    Calls Try.prog 17 #[.string s] w fun e w' => e = .returned (.int .i64 (codeB s)) ∧ ∃ n, w' = w.drewN n := by
  unfold maxLen at hs
  have hc := codeB_yes h h3 h0 h1 h2
  have e3 : ((s[3].toNat : Int) != 32) = false := by rw [bne_eq_false_iff_eq]; omega
  obtain ⟨n0, q0⟩ : ∃ n, s[0].toNat = n := ⟨_, rfl⟩
  obtain ⟨n1, q1⟩ : ∃ n, s[1].toNat = n := ⟨_, rfl⟩
  obtain ⟨n2, q2⟩ : ∃ n, s[2].toNat = n := ⟨_, rfl⟩
  rw [q0, q1, q2] at hc
  rw [q0] at h0
  rw [q1] at h1
  rw [q2] at h2
  have HC := Lib.hid hc
  have D0 : Hid (∀ w, Calls Try.prog 25 #[.int .u8 50, .int .u8 53, .int .u8 (n0 : Int)] w fun e w' => e = .returned (.int .i64 ((n0 : Int) - 48)) ∧ w' = w) := Lib.hid fun w => (digitIn_ok 50 53 n0 w (by omega) (by omega) (by omega)).mono fun _ _ h => ⟨h.1, h.2.symm⟩
  have D1 : Hid (∀ w, Calls Try.prog 25 #[.int .u8 48, .int .u8 57, .int .u8 (n1 : Int)] w fun e w' => e = .returned (.int .i64 ((n1 : Int) - 48)) ∧ w' = w) := Lib.hid fun w => (digitIn_ok 48 57 n1 w (by omega) (by omega) (by omega)).mono fun _ _ h => ⟨h.1, h.2.symm⟩
  have D2 : Hid (∀ w, Calls Try.prog 25 #[.int .u8 48, .int .u8 57, .int .u8 (n2 : Int)] w fun e w' => e = .returned (.int .i64 ((n2 : Int) - 48)) ∧ w' = w) := Lib.hid fun w => (digitIn_ok 48 57 n2 w (by omega) (by omega) (by omega)).mono fun _ _ h => ⟨h.1, h.2.symm⟩
  have i0 : 0 < s.size := by omega
  have i1 : 1 < s.size := by omega
  have i2 : 2 < s.size := by omega
  have j0 : (0 : Int) < (s.size : Int) := by omega
  have j1 : (1 : Int) < (s.size : Int) := by omega
  have j2 : (2 : Int) < (s.size : Int) := by omega
  have g0 : IntKind.i64.wrap (100 * ((n0 : Int) - 48)) = 100 * ((n0 : Int) - 48) := IntWalk.i64_in _ (by omega)
  have g1 : IntKind.i64.wrap (10 * ((n1 : Int) - 48)) = 10 * ((n1 : Int) - 48) := IntWalk.i64_in _ (by omega)
  have g2 : IntKind.i64.wrap (100 * ((n0 : Int) - 48) + 10 * ((n1 : Int) - 48)) = 100 * ((n0 : Int) - 48) + 10 * ((n1 : Int) - 48) := IntWalk.i64_in _ (by omega)
  have g3 : IntKind.i64.wrap (100 * ((n0 : Int) - 48) + 10 * ((n1 : Int) - 48) + ((n2 : Int) - 48)) = 100 * ((n0 : Int) - 48) + 10 * ((n1 : Int) - 48) + ((n2 : Int) - 48) := IntWalk.i64_in _ (by omega)
  clear hc h3 h0 h1 h2
  go_enter Try.func17, Try.ntmps17
  go_wp2
  refine wp_region_quiet_lit (by kernel_rfl) (by kernel_rfl) ?_
  go_big_quiet_step (fail)
  go_big_quiet_step (fail)
  go_big_quiet_step ((go_at_call 25; exact Calls.quiet_of_same (D0.out _)))
  go_big_quiet_step (fail)
  go_big_quiet_step (fail)
  go_big_quiet_step (fail)
  go_big_quiet_step ((go_at_call 25; exact Calls.quiet_of_same (D1.out _)))
  go_big_quiet_step (fail)
  go_big_quiet_step (fail)
  go_big_quiet_step (fail)
  go_big_quiet_step (fail)
  go_big_quiet_step ((go_at_call 25; exact Calls.quiet_of_same (D2.out _)))
  go_big_quiet_step (fail)
  go_big_quiet_step (fail)
  refine wpQuiet_nil ?_
  intro _ hw'
  obtain ⟨nq, hw''⟩ := hw'
  subst hw''
  go_wp2
  go_ret
  exact ⟨ret_ic HC.out.symm, _, rfl⟩
end Go.Proofs.Ytckcjchkegknhaa
