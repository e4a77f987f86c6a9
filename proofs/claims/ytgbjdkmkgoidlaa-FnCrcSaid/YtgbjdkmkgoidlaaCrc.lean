/- Contracts: the sum of a text, of the model and of the program. -/
import Derived.Test.YtgbjdkmkgoidlaaProg
import Derived.Test.YtgbjdkmkgoidlaaPlainCrc
import Derived.WalkKit
import Derived.Lib.Hide
import Derived.Outline
import Derived.Laws.BitsAllLaws
import Derived.Laws.Shifts
import Derived.Laws.ShiftsVar
import Derived.Laws.ShiftsVarLaws
import Derived.Laws.Unary
import Derived.IntWalk
import Derived.Below
namespace Go.Proofs.Ytgbjdkmkgoidlaa
open Go Go.RowKit

theorem ret_icrc {a b : Int} (h : a = b) : Ending.returned (.int .i64 a) = .returned (.int .i64 b) := by rw [h]
theorem xor_i64 (a b : Nat) (ha : a < 4294967296) (hb : b < 4294967296) : bits .xor .i64 (a : Int) (b : Int) = ((a ^^^ b : Nat) : Int) := by
  have hx : a ^^^ b < 2 ^ 32 := Nat.xor_lt_two_pow (by omega) (by omega)
  have h1 : (BitVec.ofInt 64 (a : Int)).toNat = a := by
    rw [BitVec.ofInt_natCast, BitVec.toNat_ofNat]; exact Nat.mod_eq_of_lt (by omega)
  have h2 : (BitVec.ofInt 64 (b : Int)).toNat = b := by
    rw [BitVec.ofInt_natCast, BitVec.toNat_ofNat]; exact Nat.mod_eq_of_lt (by omega)
  show IntKind.i64.wrap ((BitVec.ofInt 64 (a : Int) ^^^ BitVec.ofInt 64 (b : Int)).toNat : Int) = _
  rw [BitVec.toNat_xor, h1, h2]
  exact IntWalk.i64_in _ (by omega)

set_option maxHeartbeats 1000000 in
theorem l6Crc_any (s : ByteArray) (w : World) (hs : s.size ≤ maxLen) :
    Calls Try.prog 20 #[.string s] w fun e w' => e = .returned (.int .i64 (crcB s : Int)) ∧ w = w' := by
  unfold maxLen at hs
  go_enter Try.func20, Try.ntmps20
  go_wp2
  go_loop [3, 4] (fun v i => ∃ k c : Nat, k ≤ s.size ∧ i = .int .i64 k ∧ v = .int .i64 c ∧ c < 4294967296 ∧ Hid (c = crcL 4294967295 (s.data.toList.take k))) (fun _ i => s.size - (intOf i).toNat)
  case atStart => exact ⟨0, 4294967295, Nat.zero_le _, rfl, rfl, by omega, Lib.hid rfl⟩
  case round =>
    obtain ⟨k, c, hk, rfl, rfl, hc, HC⟩ := hrel
    by_cases hlt : k < s.size
    · obtain ⟨b, hb⟩ : ∃ b, s[k].toNat = b := ⟨_, rfl⟩
      have hb8 : b < 256 := by have := s[k].toNat_lt; omega
      have hx := xor_i64 c b hc (by omega)
      have hxl : c ^^^ b < 4294967296 := Nat.xor_lt_two_pow (n := 32) hc (by omega)
      have HN : Hid (crcL 4294967295 (s.data.toList.take (k + 1)) = crcN 8 (c ^^^ b)) := Lib.hid (by rw [crcL_snoc hlt, ← HC.out, hb]; rfl)
      clear HC
      generalize c ^^^ b = X at hx hxl HN
      go_wp2
      go_loop [3, 5] (fun v j => ∃ n d : Nat, n ≤ 8 ∧ j = .int .i64 n ∧ v = .int .i64 d ∧ d < 4294967296 ∧ Hid (d = crcN n X)) (fun _ j => 8 - (intOf j).toNat)
      case atStart => exact ⟨0, X, by omega, rfl, rfl, hxl, Lib.hid rfl⟩
      case round =>
        obtain ⟨n, d, hn, rfl, rfl, hd, HD⟩ := hrel
        by_cases h8 : n < 8
        · obtain ⟨q, hq⟩ : ∃ q, q = d / 2 := ⟨_, rfl⟩
          have t2 : (d : Int).tdiv 2 = (q : Int) := by rw [Int.tdiv_eq_ediv_of_nonneg (by omega), hq]; simp
          have t3 : IntKind.i64.wrap (q : Int) = (q : Int) := IntWalk.i64_in _ (by omega)
          by_cases hp : d % 2 = 1
          · have t1 : ((d : Int) % 2 == 1) = true := by rw [beq_iff_eq]; omega
            have hx3 := xor_i64 q 3988292384 (by omega) (by omega)
            have hl3 : q ^^^ 3988292384 < 4294967296 := Nat.xor_lt_two_pow (n := 32) (by omega) (by omega)
            have HD2 : Hid (q ^^^ 3988292384 = crcN (n + 1) X) := Lib.hid (by show _ = crcBit (crcN n X); rw [← HD.out]; unfold crcBit; rw [if_pos hp, hq])
            clear HD hp hq
            generalize q ^^^ 3988292384 = z at hx3 hl3 HD2
            go_wp2
            go_round
            case rel => exact ⟨n + 1, z, by omega, by go_num, by go_num, hl3, HD2⟩
            case measure => simp [intOf]; omega
          · have t1 : ((d : Int) % 2 == 1) = false := by rw [beq_eq_false_iff_ne]; omega
            have hl3 : q < 4294967296 := by omega
            have HD2 : Hid (q = crcN (n + 1) X) := Lib.hid (by show _ = crcBit (crcN n X); rw [← HD.out]; unfold crcBit; rw [if_neg hp, hq])
            clear HD hp hq
            go_wp2
            go_round
            case rel => exact ⟨n + 1, q, by omega, by go_num, by go_num, hl3, HD2⟩
            case measure => simp [intOf]; omega
        · obtain rfl : n = 8 := by omega
          go_wp2
          go_round
          case rel => exact ⟨k + 1, d, by omega, by go_num, rfl, hd, Lib.hid (by rw [HN.out]; exact HD.out)⟩
          case measure => simp [intOf]; omega
    · obtain rfl : k = s.size := by omega
      have hx := xor_i64 c 4294967295 hc (by omega)
      have hm : Hid (crcB s = c ^^^ 4294967295) := Lib.hid (by unfold crcB; rw [HC.out, List.take_of_length_le (by simp)])
      go_wp2
      go_ret
      exact ⟨ret_icrc (by rw [hm.out]; exact hx), rfl⟩

theorem specCrc_any (s : ByteArray) (w : World) (hs : s.size ≤ maxLen) :
    Calls Try.prog 12 #[.string s] w fun e w' => e = .returned (.int .i64 (crcB s : Int)) ∧ w = w' := by
  have C := Lib.hid (fun w => l6Crc_any s w hs)
  clear hs
  go_enter Try.func12, Try.ntmps12
  go_wp2_with fail
  refine (C.out _).mono ?_
  rintro e w' ⟨rfl, rfl⟩
  go_wp2
  go_ret
  exact ⟨rfl, rfl⟩

set_option maxHeartbeats 1000000 in
theorem implCrc_any (s : ByteArray) (w : World) (hs : s.size ≤ maxLen) :
    Calls Try.prog 11 #[.string s] w fun e w' => e = .returned (.int .i64 (crcB s : Int)) ∧ w = w' := by
  unfold maxLen at hs
  go_enter Try.func11, Try.ntmps11
  go_wp2
  go_loop [3, 8] (fun v i => ∃ k c : Nat, k ≤ s.size ∧ i = .int .i64 k ∧ v = .int .u32 c ∧ c < 4294967296 ∧ Hid (c = crcL 4294967295 (s.data.toList.take k))) (fun _ i => s.size - (intOf i).toNat)
  case atStart => exact ⟨0, 4294967295, Nat.zero_le _, rfl, rfl, by omega, Lib.hid rfl⟩
  case round =>
    obtain ⟨k, c, hk, rfl, rfl, hc, HC⟩ := hrel
    by_cases hlt : k < s.size
    · obtain ⟨b, hb⟩ : ∃ b, s[k].toNat = b := ⟨_, rfl⟩
      have hb8 : b < 256 := by have := s[k].toNat_lt; omega
      have hx := u32_xor_nat c b hc (by omega)
      have hxl : c ^^^ b < 4294967296 := Nat.xor_lt_two_pow (n := 32) hc (by omega)
      have HN : Hid (crcL 4294967295 (s.data.toList.take (k + 1)) = crcN 8 (c ^^^ b)) := Lib.hid (by rw [crcL_snoc hlt, ← HC.out, hb]; rfl)
      clear HC
      generalize c ^^^ b = X at hx hxl HN
      go_wp2
      go_loop [3, 17] (fun v j => ∃ n d : Nat, n ≤ 8 ∧ j = .int .i64 n ∧ v = .int .u32 d ∧ d < 4294967296 ∧ Hid (d = crcN n X)) (fun _ j => 8 - (intOf j).toNat)
      case atStart => exact ⟨0, X, by omega, rfl, rfl, hxl, Lib.hid rfl⟩
      case round =>
        obtain ⟨n, d, hn, rfl, rfl, hd, HD⟩ := hrel
        by_cases h8 : n < 8
        · obtain ⟨q, hq⟩ : ∃ q, q = d / 2 := ⟨_, rfl⟩
          have t2 : (d : Int) / 2 = (q : Int) := by rw [hq]; simp
          have ha := u32_and_nat d 1 hd (by omega)
          rw [Nat.and_one_is_mod] at ha
          rw [show ((1 : Nat) : Int) = 1 from rfl] at ha
          obtain hp | hp : d % 2 = 1 ∨ d % 2 = 0 := by omega
          · have t1 : (bits BinOp.and IntKind.u32 (d : Int) 1 == 1) = true := by rw [ha, hp]; rfl
            clear ha
            have hx3 := u32_xor_nat q 3988292384 (by omega) (by omega)
            have hl3 : q ^^^ 3988292384 < 4294967296 := Nat.xor_lt_two_pow (n := 32) (by omega) (by omega)
            have HD2 : Hid (q ^^^ 3988292384 = crcN (n + 1) X) := Lib.hid (by show _ = crcBit (crcN n X); rw [← HD.out]; unfold crcBit; rw [if_pos hp, hq])
            clear HD hp hq
            generalize q ^^^ 3988292384 = z at hx3 hl3 HD2
            go_wp2
            go_round
            case rel => exact ⟨n + 1, z, by omega, by go_num, by go_num, hl3, HD2⟩
            case measure => simp [intOf]; omega
          · have t1 : (bits BinOp.and IntKind.u32 (d : Int) 1 == 1) = false := by rw [ha, hp]; rfl
            clear ha
            have hl3 : q < 4294967296 := by omega
            have HD2 : Hid (q = crcN (n + 1) X) := Lib.hid (by show _ = crcBit (crcN n X); rw [← HD.out]; unfold crcBit; rw [if_neg (by omega), hq])
            clear HD hp hq
            go_wp2
            go_round
            case rel => exact ⟨n + 1, q, by omega, by go_num, by go_num, hl3, HD2⟩
            case measure => simp [intOf]; omega
        · obtain rfl : n = 8 := by omega
          go_wp2
          go_round
          case rel => exact ⟨k + 1, d, by omega, by go_num, rfl, hd, Lib.hid (by rw [HN.out]; exact HD.out)⟩
          case measure => simp [intOf]; omega
    · obtain rfl : k = s.size := by omega
      have hx := u32_xor_nat 4294967295 c (by omega) hc
      rw [Nat.xor_comm] at hx
      have hm : Hid (crcB s = c ^^^ 4294967295) := Lib.hid (by unfold crcB; rw [HC.out, List.take_of_length_le (by simp)])
      have hl : c ^^^ 4294967295 < 4294967296 := Nat.xor_lt_two_pow (n := 32) hc (by omega)
      generalize c ^^^ 4294967295 = z at hx hm hl
      go_wp2
      go_ret
      exact ⟨ret_icrc (by rw [hm.out, show IntKind.u32.max = ((4294967295 : Nat) : Int) from rfl, hx, wrap64]; omega), rfl⟩

theorem wFnExactCrc.walk (s : ByteArray) (w : World) (hs : s.size ≤ maxLen) (_ : True) :
    Calls Try.prog 6 #[.string s] w fun e w' => e = .returned (.bool true) ∧ Below w.heap.size w w' := by
  have C := Lib.hid (fun w => specCrc_any s w hs)
  have D := Lib.hid (fun w => implCrc_any s w hs)
  unfold maxLen at hs
  have q : ((crcB s : Int) != (crcB s : Int)) = false := by simp
  generalize (crcB s : Int) = p at C D q
  by_cases hbig : 1048576 < s.size
  · go_enter Try.func6, Try.ntmps6
    go_wp2
    go_ret
    exact ⟨rfl, Below.refl _ _⟩
  · go_enter Try.func6, Try.ntmps6
    go_wp2_with fail
    refine (C.out _).mono ?_
    rintro e w' ⟨rfl, rfl⟩
    go_wp2_with fail
    refine (D.out _).mono ?_
    rintro e w' ⟨rfl, rfl⟩
    go_wp2
    go_ret
    exact ⟨rfl, Below.refl _ _⟩
end Go.Proofs.Ytgbjdkmkgoidlaa
