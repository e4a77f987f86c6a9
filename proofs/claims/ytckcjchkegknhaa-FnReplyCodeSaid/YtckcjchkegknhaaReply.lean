/- Contracts: the code of a reply, of the model and of the program (which panics at a malformed one, and recovers). -/
import Derived.Test.YtckcjchkegknhaaProg
import Derived.Test.YtckcjchkegknhaaPlainCode
import Derived.WalkKit
import Derived.Lib.Hide
import Derived.Outline
import Derived.Tactics
import Derived.Tactics2
import Derived.Defers
import Derived.Recover
import Derived.Laws.Pointers
import Derived.Below
import Derived.Deep.QuietTactic
import Derived.BigQuiet
import Derived.Deep.RegionWith
import Derived.IntWalk
import Derived.WalkLawsBesides
namespace Go.Proofs.Ytckcjchkegknhaa
open Go Go.RowKit

theorem ret_ic {a b : Int} (h : a = b) : Ending.returned (.int .i64 a) = .returned (.int .i64 b) := by rw [h]

set_option maxHeartbeats 400000 in
theorem l1Num_any (s : ByteArray) (w : World) (hs : s.size ≤ maxLen) :
    Calls Try.prog 26 #[.string s] w fun e w' => e = .returned (.int .i64 (numB s)) ∧ w = w' := by
  unfold maxLen at hs
  go_enter Try.func26, Try.ntmps26
  go_wp2
  go_loop [3, 4] (fun v i => ∃ k n : Nat, k ≤ s.size ∧ k ≤ 9 ∧ i = .int .i64 k ∧ v = .int .i64 n ∧ n < 10 ^ 9 ∧ Hid (n < 10 ^ k) ∧ Hid ((s.data.toList.take k).all figC = true) ∧ Hid (n = valL (s.data.toList.take k))) (fun _ i => s.size - (intOf i).toNat)
  case atStart => exact ⟨0, 0, Nat.zero_le _, Nat.zero_le _, rfl, rfl, by omega, Lib.hid (by omega), Lib.hid (by simp), Lib.hid rfl⟩
  case round =>
    obtain ⟨k, n, hk, hk9, rfl, rfl, hn9, HP, HF, HV⟩ := hrel
    by_cases hlt : k < s.size
    · by_cases h9 : k < 9
      · by_cases h1 : (48 : Int) ≤ (s[k].toNat : Int)
        · by_cases h2 : (s[k].toNat : Int) ≤ 57
          · have hb : n * 10 + (s[k].toNat - 48) < 10 ^ 9 := by
              have h3 := HP.out
              have h4 : 10 ^ (k + 1) ≤ 10 ^ 9 := Nat.pow_le_pow_right (by omega) (by omega)
              rw [Nat.pow_succ] at h4
              omega
            have HP2 : Hid (n * 10 + (s[k].toNat - 48) < 10 ^ (k + 1)) := Lib.hid (by have h3 := HP.out; rw [Nat.pow_succ]; omega)
            have HV2 : Hid (n * 10 + (s[k].toNat - 48) = valL (s.data.toList.take (k + 1))) := Lib.hid (by rw [valL_snoc hlt, HV.out])
            have HF2 : Hid ((s.data.toList.take (k + 1)).all figC = true) := Lib.hid (all_take_succ hlt HF.out (figC_true (by omega)))
            clear HP HV HF
            go_wp2
            go_round
            case rel => exact ⟨k + 1, n * 10 + (s[k].toNat - 48), by omega, by omega, by go_num, by go_num, hb, HP2, HF2, HV2⟩
            case measure => simp [intOf]; omega
          · have hm : Hid (numB s = -1) := Lib.hid (numB_bad hlt (figC_false (by omega)))
            go_wp2
            go_ret
            exact ⟨ret_ic hm.out.symm, rfl⟩
        · have hm : Hid (numB s = -1) := Lib.hid (numB_bad hlt (figC_false (by omega)))
          go_wp2
          go_ret
          exact ⟨ret_ic hm.out.symm, rfl⟩
      · have hm : Hid (numB s = -1) := Lib.hid (numB_long (by omega))
        by_cases h1 : (48 : Int) ≤ (s[k].toNat : Int)
        · by_cases h2 : (s[k].toNat : Int) ≤ 57
          · go_wp2
            go_ret
            exact ⟨ret_ic hm.out.symm, rfl⟩
          · go_wp2
            go_ret
            exact ⟨ret_ic hm.out.symm, rfl⟩
        · go_wp2
          go_ret
          exact ⟨ret_ic hm.out.symm, rfl⟩
    · obtain rfl : k = s.size := by omega
      by_cases h0 : s.size = 0
      · have hm : Hid (numB s = -1) := Lib.hid (numB_long (by omega))
        have e0 : ((s.size : Int) == 0) = true := by rw [beq_iff_eq]; omega
        clear h0
        go_wp2
        go_ret
        exact ⟨ret_ic hm.out.symm, rfl⟩
      · have e0 : ((s.size : Int) == 0) = false := by rw [beq_eq_false_iff_ne]; omega
        by_cases h1 : 1 < s.size
        · cases hz : ((s[0].toNat : Int) == 48)
          · have hm : Hid (numB s = n) := Lib.hid (numB_yes HF.out HV.out (by omega) (fun _ => by rw [beq_eq_false_iff_ne] at hz; omega))
            go_wp2
            go_ret
            exact ⟨ret_ic hm.out.symm, rfl⟩
          · have hm : Hid (numB s = -1) := Lib.hid (numB_zero h1 (by rw [beq_iff_eq] at hz; omega))
            go_wp2
            go_ret
            exact ⟨ret_ic hm.out.symm, rfl⟩
        · have hm : Hid (numB s = n) := Lib.hid (numB_yes HF.out HV.out (by omega) (fun h => absurd h h1))
          go_wp2
          go_ret
          exact ⟨ret_ic hm.out.symm, rfl⟩

theorem l4Code_any (s : ByteArray) (w : World) (hs : s.size ≤ maxLen) :
    Calls Try.prog 18 #[.string s] w fun e w' => e = .returned (.int .i64 (codeB s)) ∧ w = w' := by
  unfold maxLen at hs
  by_cases h4 : s.size < 4
  · have hm : Hid (codeB s = 0) := Lib.hid (codeB_short h4)
    go_enter Try.func18, Try.ntmps18
    go_wp2
    go_ret
    exact ⟨ret_ic hm.out.symm, rfl⟩
  have h4' : 4 ≤ s.size := by omega
  by_cases h3 : s[3].toNat = 32
  · have e3 : ((s[3].toNat : Int) != 32) = false := by rw [bne_eq_false_iff_eq]; omega
    by_cases h0 : (50 : Int) ≤ (s[0].toNat : Int)
    · by_cases h0' : (s[0].toNat : Int) ≤ 53
      · have hr := code_num h4' h3 ⟨by omega, by omega⟩
        have hc := l1Num_any (s.extract 0 3) w (by rw [ByteArray.size_extract]; unfold maxLen; omega)
        generalize numB (s.extract 0 3) = n at hr hc
        have HC := Lib.hid hc
        clear h3 hc
        rcases hr with ⟨hneg, hcode⟩ | ⟨hpos, hcode⟩
        · have HD := Lib.hid hcode
          clear hcode
          go_enter Try.func18, Try.ntmps18
          go_wp2_with fail
          refine HC.out.mono ?_
          rintro e w' ⟨rfl, rfl⟩
          go_wp2
          go_ret
          exact ⟨ret_ic HD.out.symm, rfl⟩
        · have HD := Lib.hid hcode
          clear hcode
          go_enter Try.func18, Try.ntmps18
          go_wp2_with fail
          refine HC.out.mono ?_
          rintro e w' ⟨rfl, rfl⟩
          go_wp2
          go_ret
          exact ⟨ret_ic HD.out.symm, rfl⟩
      · have hm : Hid (codeB s = 0) := Lib.hid (codeB_no h4' (by omega))
        go_enter Try.func18, Try.ntmps18
        go_wp2
        go_ret
        exact ⟨ret_ic hm.out.symm, rfl⟩
    · have hm : Hid (codeB s = 0) := Lib.hid (codeB_no h4' (by omega))
      go_enter Try.func18, Try.ntmps18
      go_wp2
      go_ret
      exact ⟨ret_ic hm.out.symm, rfl⟩
  · have hm : Hid (codeB s = 0) := Lib.hid (codeB_no h4' (by omega))
    have e3 : ((s[3].toNat : Int) != 32) = true := by rw [bne_iff_ne]; omega
    clear h3
    go_enter Try.func18, Try.ntmps18
    go_wp2
    go_ret
    exact ⟨ret_ic hm.out.symm, rfl⟩

theorem specReplyCode_any (s : ByteArray) (w : World) (hs : s.size ≤ maxLen) :
    Calls Try.prog 8 #[.string s] w fun e w' => e = .returned (.int .i64 (codeB s)) ∧ w = w' := by
  go_enter Try.func8, Try.ntmps8
  go_wp2_with fail
  refine (l4Code_any s _ hs).mono ?_
  rintro e w' ⟨rfl, rfl⟩
  go_wp2
  go_ret
  exact ⟨rfl, rfl⟩

/-- The panic of a malformed reply. -/
def bad : List PanicEntry := [{ v := .iface 50 (.agg #[]), recovered := false }]

theorem digitIn_ok (lo hi : Int) (b : Nat) (w : World) (h : lo ≤ (b : Int) ∧ (b : Int) ≤ hi) (h1 : 48 ≤ lo) (h2 : hi ≤ 57) :
    Calls Try.prog 25 #[.int .u8 lo, .int .u8 hi, .int .u8 (b : Int)] w fun e w' => e = .returned (.int .i64 ((b : Int) - 48)) ∧ w = w' := by
  have hw : IntKind.u8.wrap ((b : Int) - 48) = (b : Int) - 48 := by
    exact IntWalk.u8_in _ (by omega)
  go_enter Try.func25, Try.ntmps25
  go_wp2
  go_ret
  exact ⟨rfl, rfl⟩
theorem digitIn_bad (lo hi : Int) (b : Nat) (w : World) (h : ¬ (lo ≤ (b : Int) ∧ (b : Int) ≤ hi)) :
    Calls Try.prog 25 #[.int .u8 lo, .int .u8 hi, .int .u8 (b : Int)] w fun e w' => e = .panicked bad ∧ w = w' := by
  by_cases h1 : (b : Int) < lo
  · go_enter Try.func25, Try.ntmps25
    go_wp2
    exact ⟨rfl, rfl, rfl⟩
  · have h2 : hi < (b : Int) := by omega
    go_enter Try.func25, Try.ntmps25
    go_wp2
    exact ⟨rfl, rfl, rfl⟩
def DigPost (lo hi : Int) (b : Nat) (w : World) (e : Ending) (w' : World) : Prop := ((lo ≤ (b : Int) ∧ (b : Int) ≤ hi) ∧ e = .returned (.int .i64 ((b : Int) - 48)) ∧ w = w') ∨ (¬ (lo ≤ (b : Int) ∧ (b : Int) ≤ hi) ∧ e = .panicked bad ∧ w = w')
theorem digitIn_any (lo hi : Int) (b : Nat) (w : World) (h1 : 48 ≤ lo) (h2 : hi ≤ 57) :
    Calls Try.prog 25 #[.int .u8 lo, .int .u8 hi, .int .u8 (b : Int)] w (DigPost lo hi b w) := by
  by_cases h : lo ≤ (b : Int) ∧ (b : Int) ≤ hi
  · exact (digitIn_ok lo hi b w h h1 h2).mono fun e w' g => .inl ⟨h, g⟩
  · exact (digitIn_bad lo hi b w h).mono fun e w' g => .inr ⟨h, g⟩

theorem codeOf_short (s : ByteArray) (w : World) (hs : s.size ≤ maxLen) (h : s.size < 4) :
    Calls Try.prog 17 #[.string s] w fun e w' => e = .panicked bad ∧ w = w' := by
  unfold maxLen at hs
  go_enter Try.func17, Try.ntmps17
  go_wp2
  exact ⟨rfl, rfl, rfl⟩
theorem codeOf_blank (s : ByteArray) (w : World) (hs : s.size ≤ maxLen) (h : 4 ≤ s.size) (h3 : ¬ s[3].toNat = 32) :
    Calls Try.prog 17 #[.string s] w fun e w' => e = .panicked bad ∧ w = w' := by
  unfold maxLen at hs
  have e3 : ((s[3].toNat : Int) != 32) = true := by rw [bne_iff_ne]; omega
  clear h3
  go_enter Try.func17, Try.ntmps17
  go_wp2
  exact ⟨rfl, rfl, rfl⟩
end Go.Proofs.Ytckcjchkegknhaa
