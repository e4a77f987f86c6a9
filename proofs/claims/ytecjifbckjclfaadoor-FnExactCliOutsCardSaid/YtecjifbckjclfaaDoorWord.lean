/- Contracts of the functions that look at one word: for every text the answer is the plain one, and memory is as it was. -/
import Derived.Test.YtecjifbckjclfaaDoorProg
import Derived.Test.YtecjifbckjclfaaDoorPlain
import Derived.WalkKit
import Derived.Lib.Hide
import Derived.Outline
namespace Go.Proofs.YtecjifbckjclfaaDoor
open Go Go.RowKit

theorem ret_b {a b : Bool} (h : a = b) : Ending.returned (.bool a) = .returned (.bool b) := by rw [h]

theorem l1In_any (n lo hi : Int) (w : World) :
    Calls Tryd.prog 166 #[.int .i64 n, .int .i64 lo, .int .i64 hi] w fun e w' => e = .returned (.bool (inB n lo hi)) ∧ w = w' := by
  rcases (show n < lo ∨ (lo ≤ n ∧ n ≤ hi) ∨ (lo ≤ n ∧ hi < n) by omega) with h | ⟨h, h'⟩ | ⟨h, h'⟩
  · have hm : Hid (inB n lo hi = false) := Lib.hid (inB_false (by omega))
    go_enter Tryd.func166, Tryd.ntmps166
    go_wp2
    go_ret
    exact ⟨ret_b hm.out.symm, rfl⟩
  · have hm : Hid (inB n lo hi = true) := Lib.hid (inB_true (by omega))
    go_enter Tryd.func166, Tryd.ntmps166
    go_wp2
    go_ret
    exact ⟨ret_b hm.out.symm, rfl⟩
  · have d1 : decide (n ≤ hi) = false := decide_eq_false (by omega)
    have hm : Hid (inB n lo hi = false) := Lib.hid (inB_false (by omega))
    go_enter Tryd.func166, Tryd.ntmps166
    go_wp2
    go_ret
    exact ⟨ret_b hm.out.symm, rfl⟩

set_option maxHeartbeats 400000 in
theorem l1Word_any (s : ByteArray) (w : World) (hs : s.size ≤ maxLen) :
    Calls Tryd.prog 160 #[.string s] w fun e w' => e = .returned (.bool (wordB s)) ∧ w = w' := by
  unfold maxLen at hs
  go_enter Tryd.func160, Tryd.ntmps160
  go_wp2
  go_loop [3] (fun i => ∃ k : Nat, k ≤ s.size ∧ i = .int .i64 k ∧ Hid ((s.data.toList.take k).all chB = true)) (fun i => s.size - (intOf i).toNat)
  case atStart => exact ⟨0, Nat.zero_le _, rfl, Lib.hid (by simp)⟩
  case round =>
    obtain ⟨k, hk, rfl, H⟩ := hrel
    by_cases hlt : k < s.size
    · rcases (show ((s[k].toNat : Int) < 48) ∨ ((48 : Int) ≤ s[k].toNat ∧ (s[k].toNat : Int) ≤ 57) ∨ ((57 : Int) < s[k].toNat ∧ (s[k].toNat : Int) < 97) ∨ ((97 : Int) ≤ s[k].toNat ∧ (s[k].toNat : Int) ≤ 122) ∨ ((122 : Int) < s[k].toNat) by omega) with h | ⟨h, h'⟩ | ⟨h, h'⟩ | ⟨h, h'⟩ | h
      · have hm : Hid (wordB s = false) := Lib.hid (wordB_miss hlt (by simp [chB]; omega))
        go_wp2
        go_ret
        exact ⟨ret_b hm.out.symm, rfl⟩
      · go_wp2
        go_round
        case rel => exact ⟨k + 1, by omega, by go_num, Lib.hid (all_take_succ hlt H.out (by simp [chB]; omega))⟩
        case measure => simp [intOf]; omega
      · have hm : Hid (wordB s = false) := Lib.hid (wordB_miss hlt (by simp [chB]; omega))
        go_wp2
        go_ret
        exact ⟨ret_b hm.out.symm, rfl⟩
      · go_wp2
        go_round
        case rel => exact ⟨k + 1, by omega, by go_num, Lib.hid (all_take_succ hlt H.out (by simp [chB]; omega))⟩
        case measure => simp [intOf]; omega
      · have hm : Hid (wordB s = false) := Lib.hid (wordB_miss hlt (by simp [chB]; omega))
        go_wp2
        go_ret
        exact ⟨ret_b hm.out.symm, rfl⟩
    · have hm : Hid (wordB s = inB s.size 1 8) := Lib.hid (wordB_end (by omega) H.out)
      go_wp2_with (go_at_call 166; refine (l1In_any _ _ _ _).mono ?_; rintro e w' ⟨rfl, rfl⟩)
      go_ret
      exact ⟨ret_b hm.out.symm, rfl⟩

theorem isLabelByte_is (b : UInt8) (v : Bool) (h : chB b = v) (w : World) :
    Calls Tryd.prog 182 #[.int .u8 b.toNat] w fun e w' => e = .returned (.bool v) ∧ w = w' := by
  rcases (show ((b.toNat : Int) < 48) ∨ ((48 : Int) ≤ b.toNat ∧ (b.toNat : Int) ≤ 57) ∨ ((57 : Int) < b.toNat ∧ (b.toNat : Int) < 97) ∨ ((97 : Int) ≤ b.toNat ∧ (b.toNat : Int) ≤ 122) ∨ ((122 : Int) < b.toNat) by omega) with g | ⟨g, g'⟩ | ⟨g, g'⟩ | ⟨g, g'⟩ | g
  · obtain rfl : v = false := h.symm.trans (chB_false (by omega))
    clear h
    go_enter Tryd.func182, Tryd.ntmps182
    go_wp2
    go_ret
    exact ⟨rfl, rfl⟩
  · obtain rfl : v = true := h.symm.trans (chB_true (by omega))
    clear h
    go_enter Tryd.func182, Tryd.ntmps182
    go_wp2
    go_ret
    exact ⟨rfl, rfl⟩
  · obtain rfl : v = false := h.symm.trans (chB_false (by omega))
    clear h
    have d1 : decide ((b.toNat : Int) ≤ 57) = false := decide_eq_false (by omega)
    go_enter Tryd.func182, Tryd.ntmps182
    go_wp2
    go_ret
    exact ⟨rfl, rfl⟩
  · obtain rfl : v = true := h.symm.trans (chB_true (by omega))
    clear h
    go_enter Tryd.func182, Tryd.ntmps182
    go_wp2
    go_ret
    exact ⟨rfl, rfl⟩
  · obtain rfl : v = false := h.symm.trans (chB_false (by omega))
    clear h
    have d1 : decide ((b.toNat : Int) ≤ 57) = false := decide_eq_false (by omega)
    have d2 : decide ((b.toNat : Int) ≤ 122) = false := decide_eq_false (by omega)
    go_enter Tryd.func182, Tryd.ntmps182
    go_wp2
    go_ret
    exact ⟨rfl, rfl⟩

set_option maxHeartbeats 400000 in
theorem isLabel_any (s : ByteArray) (w : World) (hs : s.size ≤ maxLen) :
    Calls Tryd.prog 118 #[.string s] w fun e w' => e = .returned (.bool (wordB s)) ∧ w = w' := by
  unfold maxLen at hs
  rcases (show s.size < 1 ∨ (1 ≤ s.size ∧ s.size ≤ 8) ∨ 8 < s.size by omega) with h | ⟨h, h'⟩ | h
  · have hm : Hid (wordB s = false) := Lib.hid (wordB_size (by omega))
    go_enter Tryd.func118, Tryd.ntmps118
    go_wp2
    go_ret
    exact ⟨ret_b hm.out.symm, rfl⟩
  · go_enter Tryd.func118, Tryd.ntmps118
    go_wp2
    go_loop [14] (fun i => ∃ k : Nat, k ≤ s.size ∧ i = .int .i64 k ∧ Hid ((s.data.toList.take k).all chB = true)) (fun i => s.size - (intOf i).toNat)
    case atStart => exact ⟨0, Nat.zero_le _, rfl, Lib.hid (by simp)⟩
    case round =>
      obtain ⟨k, hk, rfl, H⟩ := hrel
      by_cases hlt : k < s.size
      · cases hc : chB s[k]
        · have hm : Hid (wordB s = false) := Lib.hid (wordB_miss hlt hc)
          have HC := Lib.hid hc
          clear hc
          go_wp2_with (go_at_call 182; refine (isLabelByte_is _ false HC.out _).mono ?_; rintro e w' ⟨rfl, rfl⟩)
          go_ret
          exact ⟨ret_b hm.out.symm, rfl⟩
        · have HC := Lib.hid hc
          clear hc
          go_wp2_with (go_at_call 182; refine (isLabelByte_is _ true HC.out _).mono ?_; rintro e w' ⟨rfl, rfl⟩)
          go_round
          case rel => exact ⟨k + 1, by omega, by go_num, Lib.hid (all_take_succ hlt H.out HC.out)⟩
          case measure => simp [intOf]; omega
      · have hm : Hid (wordB s = true) := Lib.hid ((wordB_end (by omega) H.out).trans (inB_true (by omega)))
        go_wp2
        go_ret
        exact ⟨ret_b hm.out.symm, rfl⟩
  · have hm : Hid (wordB s = false) := Lib.hid (wordB_size (by omega))
    go_enter Tryd.func118, Tryd.ntmps118
    go_wp2
    go_ret
    exact ⟨ret_b hm.out.symm, rfl⟩
end Go.Proofs.YtecjifbckjclfaaDoor
