/- Contracts: bytes that stand for themselves, figures of base 16: of the program and of the model. -/
import Derived.Test.YtmigcglcacpboaaBuildS
import Derived.Lib.Hide
import Derived.IntWalk
import Derived.Laws.IdiomStrings
import Derived.Below
import Derived.BigQuiet
namespace Go.Proofs.Ytmigcglcacpboaa
open Go Go.RowKit

theorem ret_boq {a b : Bool} (h : a = b) : Ending.returned (.bool a) = .returned (.bool b) := by rw [h]
theorem ret_inq {a b : Int} (h : a = b) : Ending.returned (.int .i64 a) = .returned (.int .i64 b) := by rw [h]
theorem ret_stq {a b : ByteArray} (h : a = b) : Ending.returned (.string a) = .returned (.string b) := by rw [h]

theorem isQuotePlain_any (c : UInt8) (w : World) :
    Calls Try.prog 15 #[.int .u8 (c.toNat : Int)] w fun e w' => e = .returned (.bool (plainC c)) ∧ w = w' := by
  have hm : Hid (plainC c = (decide ((33 : Int) ≤ (c.toNat : Int) ∧ (c.toNat : Int) ≤ 126) && decide ((c.toNat : Int) ≠ 61))) := Lib.hid (by
    unfold plainC; congr 1 <;> rw [decide_eq_decide] <;> omega)
  go_enter Try.func15, Try.ntmps15
  by_cases h1 : (33 : Int) ≤ (c.toNat : Int)
  · by_cases h2 : (c.toNat : Int) ≤ 126
    · by_cases h3 : (c.toNat : Int) = 61
      · have e3 : ((c.toNat : Int) != 61) = false := by rw [bne_eq_false_iff_eq]; exact h3
        have hm2 : Hid (plainC c = false) := Lib.hid (by rw [hm.out, decide_eq_false (p := (c.toNat : Int) ≠ 61) (by omega), Bool.and_false])
        clear hm h3
        go_wp2
        go_ret
        exact ⟨ret_boq hm2.out.symm, rfl⟩
      · have e3 : ((c.toNat : Int) != 61) = true := by rw [bne_iff_ne]; exact h3
        have hm2 : Hid (plainC c = true) := Lib.hid (by rw [hm.out, decide_eq_true (p := (c.toNat : Int) ≠ 61) h3, decide_eq_true ⟨h1, h2⟩]; rfl)
        clear hm h3
        go_wp2
        go_ret
        exact ⟨ret_boq hm2.out.symm, rfl⟩
    · have hm2 : Hid (plainC c = false) := Lib.hid (by rw [hm.out, decide_eq_false (p := (33 : Int) ≤ (c.toNat : Int) ∧ (c.toNat : Int) ≤ 126) (by omega), Bool.false_and])
      clear hm
      go_wp2
      go_ret
      exact ⟨ret_boq hm2.out.symm, rfl⟩
  · have hm2 : Hid (plainC c = false) := Lib.hid (by rw [hm.out, decide_eq_false (p := (33 : Int) ≤ (c.toNat : Int) ∧ (c.toNat : Int) ≤ 126) (by omega), Bool.false_and])
    clear hm
    go_wp2
    go_ret
    exact ⟨ret_boq hm2.out.symm, rfl⟩

theorem l11Plain_any (c : UInt8) (w : World) :
    Calls Try.prog 26 #[.int .u8 (c.toNat : Int)] w fun e w' => e = .returned (.bool (plainC c)) ∧ w = w' := by
  have hm : Hid (plainC c = (decide ((32 : Int) < (c.toNat : Int) ∧ (c.toNat : Int) ≤ 126) && decide ((c.toNat : Int) ≠ 61))) := Lib.hid (by
    unfold plainC; congr 1 <;> rw [decide_eq_decide] <;> omega)
  go_enter Try.func26, Try.ntmps26
  by_cases h1 : (32 : Int) < (c.toNat : Int)
  · by_cases h2 : (c.toNat : Int) ≤ 126
    · by_cases h3 : (c.toNat : Int) = 61
      · have e3 : ((c.toNat : Int) != 61) = false := by rw [bne_eq_false_iff_eq]; exact h3
        have hm2 : Hid (plainC c = false) := Lib.hid (by rw [hm.out, decide_eq_false (p := (c.toNat : Int) ≠ 61) (by omega), Bool.and_false])
        clear hm h3
        go_wp2
        go_ret
        exact ⟨ret_boq hm2.out.symm, rfl⟩
      · have e3 : ((c.toNat : Int) != 61) = true := by rw [bne_iff_ne]; exact h3
        have hm2 : Hid (plainC c = true) := Lib.hid (by rw [hm.out, decide_eq_true (p := (c.toNat : Int) ≠ 61) h3, decide_eq_true ⟨h1, h2⟩]; rfl)
        clear hm h3
        go_wp2
        go_ret
        exact ⟨ret_boq hm2.out.symm, rfl⟩
    · have hm2 : Hid (plainC c = false) := Lib.hid (by rw [hm.out, decide_eq_false (p := (32 : Int) < (c.toNat : Int) ∧ (c.toNat : Int) ≤ 126) (by omega), Bool.false_and])
      clear hm
      go_wp2
      go_ret
      exact ⟨ret_boq hm2.out.symm, rfl⟩
  · have hm2 : Hid (plainC c = false) := Lib.hid (by rw [hm.out, decide_eq_false (p := (32 : Int) < (c.toNat : Int) ∧ (c.toNat : Int) ≤ 126) (by omega), Bool.false_and])
    clear hm
    go_wp2
    go_ret
    exact ⟨ret_boq hm2.out.symm, rfl⟩

theorem l11Digit_any (c : UInt8) (w : World) :
    Calls Try.prog 23 #[.int .u8 (c.toNat : Int)] w fun e w' => e = .returned (.int .i64 (hexV c)) ∧ w = w' := by
  have hm : Hid (hexV c = if 48 ≤ c.toNat ∧ c.toNat ≤ 57 then (c.toNat : Int) - 48 else if 65 ≤ c.toNat ∧ c.toNat ≤ 70 then (c.toNat : Int) - 55 else -1) := Lib.hid rfl
  have h8 := c.toNat_lt
  generalize c.toNat = n at hm h8
  go_enter Try.func23, Try.ntmps23
  by_cases h1 : 48 ≤ n ∧ n ≤ 57
  · have hm2 : Hid (hexV c = (n : Int) - 48) := Lib.hid (by rw [hm.out, if_pos h1])
    obtain ⟨h1, h2⟩ := h1
    clear hm
    go_wp2
    go_ret
    exact ⟨ret_inq (by rw [hm2.out]; try go_num), rfl⟩
  · by_cases h3 : 65 ≤ n ∧ n ≤ 70
    · have hm2 : Hid (hexV c = (n : Int) - 55) := Lib.hid (by rw [hm.out, if_neg h1, if_pos h3])
      obtain ⟨h3, h4⟩ := h3
      have h5 : ¬ n ≤ 57 := by omega
      have h6 : 48 ≤ n := by omega
      clear hm h1
      go_wp2
      go_ret
      exact ⟨ret_inq (by rw [hm2.out]; try go_num), rfl⟩
    · have hm2 : Hid (hexV c = -1) := Lib.hid (by rw [hm.out, if_neg h1, if_neg h3])
      clear hm
      by_cases h5 : 48 ≤ n
      · have h6 : ¬ n ≤ 57 := by omega
        by_cases h7 : 65 ≤ n
        · have h8 : ¬ n ≤ 70 := by omega
          clear h1 h3
          go_wp2
          go_ret
          exact ⟨ret_inq hm2.out.symm, rfl⟩
        · clear h1 h3
          go_wp2
          go_ret
          exact ⟨ret_inq hm2.out.symm, rfl⟩
      · have h7 : ¬ 65 ≤ n := by omega
        clear h1 h3
        go_wp2
        go_ret
        exact ⟨ret_inq hm2.out.symm, rfl⟩

def hexS : ByteArray := { data := #[48, 49, 50, 51, 52, 53, 54, 55, 56, 57, 65, 66, 67, 68, 69, 70] }
theorem indexHex {p : Nat} (h : p < 16) : Lib.indexByte hexS.data.toList (hexC p) = p := by
  have : ∀ p < 16, Lib.indexByte hexS.data.toList (hexC p) = (p : Int) := by decide
  exact this p h
theorem indexHex_in (c : UInt8) : -1 ≤ Lib.indexByte hexS.data.toList c ∧ Lib.indexByte hexS.data.toList c < 16 := by
  have : ∀ n < 256, -1 ≤ Lib.indexByte hexS.data.toList (UInt8.ofNat n) ∧ Lib.indexByte hexS.data.toList (UInt8.ofNat n) < 16 := by decide +kernel
  have := this c.toNat c.toNat_lt
  rwa [UInt8.ofNat_toNat] at this
theorem u8_back (c : UInt8) : ((c.toNat : Int).toNat.toUInt8) = c := by
  rw [Int.toNat_natCast]; exact UInt8.ofNat_toNat
/-- Two figures are a byte; what is no figure is some byte. -/
def qByte (a b : UInt8) : UInt8 := UInt8.ofNat ((16 * Lib.indexByte hexS.data.toList a + Lib.indexByte hexS.data.toList b) % 256).toNat
theorem qByte_hex {a b : UInt8} {p q : Nat} (hp : p < 16) (hq : q < 16) (e1 : a = hexC p) (e2 : b = hexC q) : qByte a b = UInt8.ofNat (16 * p + q) := by
  unfold qByte
  rw [e1, e2, indexHex hp, indexHex hq]
  congr 1
  omega
theorem quotedByte_any (a b : UInt8) (w : World) :
    Calls Try.prog 28 #[.int .u8 (a.toNat : Int), .int .u8 (b.toNat : Int)] w fun e w' => e = .returned (.int .u8 ((qByte a b).toNat : Int)) ∧ w' = w := by
  have HQ : Hid (((qByte a b).toNat : Int) = (16 * Lib.indexByte hexS.data.toList a + Lib.indexByte hexS.data.toList b) % 256) := Lib.hid (by
    unfold qByte
    rw [UInt8.toNat_ofNat']
    omega)
  obtain ⟨k, hk⟩ : ∃ k, k = Lib.indexByte hexS.data.toList a := ⟨_, rfl⟩
  obtain ⟨l, hl⟩ : ∃ l, l = Lib.indexByte hexS.data.toList b := ⟨_, rfl⟩
  have ka : -1 ≤ k ∧ k < 16 := hk ▸ indexHex_in a
  have lb : -1 ≤ l ∧ l < 16 := hl ▸ indexHex_in b
  have CA : Hid (∀ w, Calls Try.prog 30 #[.string { data := #[48, 49, 50, 51, 52, 53, 54, 55, 56, 57, 65, 66, 67, 68, 69, 70] }, .int .u8 (a.toNat : Int)] w fun e w' => e = .returned (.int .i64 k) ∧ w' = w) := Lib.hid fun w => by
    have := Try.strings_IndexByte hexS (a.toNat : Int) w
    rw [u8_back, ← hk] at this
    exact this
  have CB : Hid (∀ w, Calls Try.prog 30 #[.string { data := #[48, 49, 50, 51, 52, 53, 54, 55, 56, 57, 65, 66, 67, 68, 69, 70] }, .int .u8 (b.toNat : Int)] w fun e w' => e = .returned (.int .i64 l) ∧ w' = w) := Lib.hid fun w => by
    have := Try.strings_IndexByte hexS (b.toNat : Int) w
    rw [u8_back, ← hl] at this
    exact this
  rw [← hk, ← hl] at HQ
  obtain ⟨k1, k2⟩ := ka
  obtain ⟨l1, l2⟩ := lb
  clear hk hl
  generalize ((qByte a b).toNat : Int) = z at HQ
  go_enter Try.func28, Try.ntmps28
  go_wp2_with fail
  refine (CA.out _).mono ?_
  rintro e w1 ⟨rfl, rfl⟩
  go_wp2_with fail
  refine (CB.out _).mono ?_
  rintro e w1 ⟨rfl, rfl⟩
  go_wp2
  go_ret
  refine ⟨?_, rfl⟩
  rw [HQ.out]
  try go_num
end Go.Proofs.Ytmigcglcacpboaa
