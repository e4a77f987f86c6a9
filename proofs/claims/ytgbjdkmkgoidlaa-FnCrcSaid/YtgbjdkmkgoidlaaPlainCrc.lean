/- The plain sum of a text, and what is true of it. -/
import Derived.Test.YtgbjdkmkgoidlaaPlain
namespace Go.Proofs.Ytgbjdkmkgoidlaa
open Go

def crcBit (c : Nat) : Nat := if c % 2 = 1 then (c / 2) ^^^ 3988292384 else c / 2
def crcN : Nat → Nat → Nat
  | 0, c => c
  | k + 1, c => crcBit (crcN k c)
def crcByte (c b : Nat) : Nat := crcN 8 (c ^^^ b)
def crcL (c : Nat) : List UInt8 → Nat
  | [] => c
  | b :: r => crcL (crcByte c b.toNat) r
def crcB (s : ByteArray) : Nat := crcL 4294967295 s.data.toList ^^^ 4294967295

theorem crcBit_lt {c : Nat} (h : c < 4294967296) : crcBit c < 4294967296 := by
  unfold crcBit
  split
  · exact Nat.xor_lt_two_pow (n := 32) (by omega) (by decide)
  · omega
theorem crcN_lt {c : Nat} (h : c < 4294967296) (k : Nat) : crcN k c < 4294967296 := by
  induction k with
  | zero => exact h
  | succ k ih => exact crcBit_lt ih
theorem crcByte_lt {c : Nat} (h : c < 4294967296) (b : UInt8) : crcByte c b.toNat < 4294967296 :=
  crcN_lt (Nat.xor_lt_two_pow (n := 32) h (by have := b.toNat_lt; omega)) 8
theorem crcL_lt {c : Nat} (h : c < 4294967296) (l : List UInt8) : crcL c l < 4294967296 := by
  induction l generalizing c with
  | nil => exact h
  | cons b r ih => exact ih (crcByte_lt h b)
theorem crcB_lt (s : ByteArray) : crcB s < 4294967296 := Nat.xor_lt_two_pow (n := 32) (crcL_lt (by decide) _) (by decide)
theorem crcL_append (c : Nat) (l m : List UInt8) : crcL c (l ++ m) = crcL (crcL c l) m := by
  induction l generalizing c with
  | nil => rfl
  | cons b r ih => exact ih _
theorem crcL_snoc {s : ByteArray} {k : Nat} (hk : k < s.size) : crcL 4294967295 (s.data.toList.take (k + 1)) = crcByte (crcL 4294967295 (s.data.toList.take k)) s[k].toNat := by
  have hk' : k < s.data.toList.length := by simpa using hk
  rw [List.take_succ_eq_append_getElem hk', crcL_append]
  rfl

theorem xor_ne {a b c : Nat} (h : a ≠ b) : a ^^^ c ≠ b ^^^ c := fun e => h (by
  have := congrArg (· ^^^ c) e
  simpa [Nat.xor_assoc] using this)
theorem xor_ne' {a b c : Nat} (h : a ≠ b) : c ^^^ a ≠ c ^^^ b := fun e => h (by
  have := congrArg (c ^^^ ·) e
  simpa [← Nat.xor_assoc] using this)
theorem top_bit {a : Nat} (h : a < 2147483648) : 2147483648 ≤ a ^^^ 3988292384 := by
  have h1 : (a ^^^ 3988292384) = (a ^^^ 1840808736) ^^^ 2147483648 := by rw [Nat.xor_assoc]; congr 1
  have h2 : a ^^^ 1840808736 < 2 ^ 31 := Nat.xor_lt_two_pow (by omega) (by decide)
  have h3 := Nat.two_pow_add_eq_or_of_lt h2 1
  have h4 : (a ^^^ 1840808736) ^^^ 2147483648 = 2147483648 + (a ^^^ 1840808736) := by
    have : Nat.testBit (a ^^^ 1840808736) 31 = false := Nat.testBit_lt_two_pow h2
    rw [show (2147483648 : Nat) = 2 ^ 31 from rfl]
    rw [show (2 ^ 31 : Nat) + (a ^^^ 1840808736) = 2 ^ 31 * 1 + (a ^^^ 1840808736) by omega, h3]
    apply Nat.eq_of_testBit_eq
    intro i
    rw [Nat.testBit_xor, Nat.testBit_or, Nat.mul_one, Nat.testBit_two_pow]
    by_cases hi : 31 = i
    · subst hi; rw [this]; simp
    · simp [hi]
  omega
theorem crcBit_ne {a b : Nat} (ha : a < 4294967296) (hb : b < 4294967296) (h : a ≠ b) : crcBit a ≠ crcBit b := by
  unfold crcBit
  split
  · split
    · exact xor_ne (by omega)
    · have := top_bit (a := a / 2) (by omega); omega
  · split
    · have := top_bit (a := b / 2) (by omega); omega
    · omega
theorem crcN_ne {a b : Nat} (ha : a < 4294967296) (hb : b < 4294967296) (h : a ≠ b) (k : Nat) : crcN k a ≠ crcN k b := by
  induction k with
  | zero => exact h
  | succ k ih => exact crcBit_ne (crcN_lt ha k) (crcN_lt hb k) ih
theorem crcByte_ne {a b : Nat} (ha : a < 4294967296) (hb : b < 4294967296) (h : a ≠ b) (x : UInt8) : crcByte a x.toNat ≠ crcByte b x.toNat :=
  crcN_ne (Nat.xor_lt_two_pow (n := 32) ha (by have := x.toNat_lt; omega)) (Nat.xor_lt_two_pow (n := 32) hb (by have := x.toNat_lt; omega)) (xor_ne h) 8
theorem crcByte_ne' {c : Nat} (hc : c < 4294967296) {x y : UInt8} (h : x ≠ y) : crcByte c x.toNat ≠ crcByte c y.toNat :=
  crcN_ne (Nat.xor_lt_two_pow (n := 32) hc (by have := x.toNat_lt; omega)) (Nat.xor_lt_two_pow (n := 32) hc (by have := y.toNat_lt; omega)) (xor_ne' fun e => h (UInt8.toNat_inj.1 e)) 8
theorem crcL_ne {a b : Nat} (ha : a < 4294967296) (hb : b < 4294967296) (h : a ≠ b) (l : List UInt8) : crcL a l ≠ crcL b l := by
  induction l generalizing a b with
  | nil => exact h
  | cons x r ih => exact ih (crcByte_lt ha x) (crcByte_lt hb x) (crcByte_ne ha hb h x)
/-- With one byte another the sum is another. -/
theorem crcL_turned (l : List UInt8) (k : Nat) (hk : k < l.length) (y : UInt8) (hy : y ≠ l[k]) (c : Nat) (hc : c < 4294967296) : crcL c (l.set k y) ≠ crcL c l := by
  induction l generalizing k c with
  | nil => simp at hk
  | cons x r ih =>
    cases k with
    | zero =>
      show crcL (crcByte c y.toNat) r ≠ crcL (crcByte c x.toNat) r
      exact crcL_ne (crcByte_lt hc y) (crcByte_lt hc x) (crcByte_ne' hc hy) r
    | succ k =>
      show crcL (crcByte c x.toNat) (r.set k y) ≠ crcL (crcByte c x.toNat) r
      exact ih k (by simpa using hk) (by simpa using hy) _ (crcByte_lt hc x)
theorem crcB_turned {s t : ByteArray} {k : Nat} (hk : k < s.size) {y : UInt8} (hy : y ≠ s[k]) (ht : t.data.toList = s.data.toList.set k y) : crcB t ≠ crcB s := by
  unfold crcB
  rw [ht]
  exact xor_ne (crcL_turned _ _ (by simpa using hk) _ hy _ (by decide))
theorem crcB_check : crcB ⟨#[49, 50, 51, 52, 53, 54, 55, 56, 57]⟩ = 3421780262 := by decide +kernel
theorem crcB_empty {s : ByteArray} (h : s.size = 0) : crcB s = 0 := by
  have : s.data.toList = [] := List.eq_nil_of_length_eq_zero (by simpa using h)
  unfold crcB
  rw [this]
  decide
end Go.Proofs.Ytgbjdkmkgoidlaa
