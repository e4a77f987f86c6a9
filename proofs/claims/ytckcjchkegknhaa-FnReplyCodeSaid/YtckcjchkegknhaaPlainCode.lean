/- Plain facts: numbers written in figures, the code of a reply. No program in this text. -/
import Derived.Test.YtckcjchkegknhaaPlain
namespace Go.Proofs.Ytckcjchkegknhaa
open Go

def figC (c : UInt8) : Bool := decide (48 ≤ c.toNat ∧ c.toNat ≤ 57)
theorem figC_true {c : UInt8} (h : 48 ≤ c.toNat ∧ c.toNat ≤ 57) : figC c = true := decide_eq_true h
theorem figC_false {c : UInt8} (h : ¬ (48 ≤ c.toNat ∧ c.toNat ≤ 57)) : figC c = false := decide_eq_false h
def valL (l : List UInt8) : Nat := l.foldl (fun n c => n * 10 + (c.toNat - 48)) 0
theorem valL_snoc {s : ByteArray} {k : Nat} (hk : k < s.size) : valL (s.data.toList.take (k + 1)) = valL (s.data.toList.take k) * 10 + (s[k].toNat - 48) := by
  unfold valL
  rw [List.take_succ_eq_append_getElem (by simpa using hk), List.foldl_append]
  rfl
/-- The number that figures are, as the model reads it: -1 if they are none. -/
def numB (s : ByteArray) : Int :=
  if s.data.toList.all figC && decide (1 ≤ s.size ∧ s.size ≤ 9) && !(decide (1 < s.size) && s.data.toList.head? == some 48) then (valL s.data.toList : Int) else -1

/-- A reply's code. -/
def codeB (s : ByteArray) : Int :=
  if h : 4 ≤ s.size then
    if s[3].toNat = 32 ∧ (50 ≤ s[0].toNat ∧ s[0].toNat ≤ 53) ∧ (48 ≤ s[1].toNat ∧ s[1].toNat ≤ 57) ∧ (48 ≤ s[2].toNat ∧ s[2].toNat ≤ 57) then
      100 * ((s[0].toNat : Int) - 48) + 10 * ((s[1].toNat : Int) - 48) + ((s[2].toNat : Int) - 48)
    else 0
  else 0
theorem codeB_short {s : ByteArray} (h : s.size < 4) : codeB s = 0 := by unfold codeB; rw [dif_neg (by omega)]
theorem codeB_no {s : ByteArray} (h : 4 ≤ s.size) (hc : ¬ (s[3].toNat = 32 ∧ (50 ≤ s[0].toNat ∧ s[0].toNat ≤ 53) ∧ (48 ≤ s[1].toNat ∧ s[1].toNat ≤ 57) ∧ (48 ≤ s[2].toNat ∧ s[2].toNat ≤ 57))) : codeB s = 0 := by
  unfold codeB; rw [dif_pos h, if_neg hc]
theorem codeB_yes {s : ByteArray} (h : 4 ≤ s.size) (h3 : s[3].toNat = 32) (h0 : 50 ≤ s[0].toNat ∧ s[0].toNat ≤ 53) (h1 : 48 ≤ s[1].toNat ∧ s[1].toNat ≤ 57) (h2 : 48 ≤ s[2].toNat ∧ s[2].toNat ≤ 57) :
    codeB s = 100 * ((s[0].toNat : Int) - 48) + 10 * ((s[1].toNat : Int) - 48) + ((s[2].toNat : Int) - 48) := by
  unfold codeB; rw [dif_pos h, if_pos ⟨h3, h0, h1, h2⟩]
theorem numB_bad {s : ByteArray} {k : Nat} (hk : k < s.size) (hc : figC s[k] = false) : numB s = -1 := by
  unfold numB; rw [all_miss hk hc]; rfl
theorem numB_long {s : ByteArray} (h : ¬ (1 ≤ s.size ∧ s.size ≤ 9)) : numB s = -1 := by
  unfold numB; rw [decide_eq_false h]; simp
theorem head_get {s : ByteArray} (h : 0 < s.size) : s.data.toList.head? = some s[0] := by
  rw [List.head?_eq_getElem?]
  exact Lib.data_getElem? s 0 h
theorem numB_yes {s : ByteArray} {n : Nat} (hf : (s.data.toList.take s.size).all figC = true) (hv : n = valL (s.data.toList.take s.size)) (h : 1 ≤ s.size ∧ s.size ≤ 9) (hz : ∀ h : 1 < s.size, ¬ s[0].toNat = 48) : numB s = n := by
  rw [List.take_of_length_le (by simp)] at hf hv
  unfold numB
  rw [hf, decide_eq_true h, hv]
  by_cases h1 : 1 < s.size
  · have : (s.data.toList.head? == some 48) = false := by
      rw [head_get (by omega), beq_eq_false_iff_ne]
      intro e
      exact hz h1 (by rw [Option.some.inj e]; rfl)
    rw [this]; simp
  · rw [decide_eq_false h1]; simp
theorem numB_zero {s : ByteArray} (h : 1 < s.size) (hz : s[0].toNat = 48) : numB s = -1 := by
  have : (s.data.toList.head? == some 48) = true := by
    rw [head_get (by omega), beq_iff_eq]
    exact congrArg some (UInt8.toNat_inj.1 (by rw [hz]; rfl))
  unfold numB
  rw [this, decide_eq_true h]; simp
theorem three {s : ByteArray} (h : 4 ≤ s.size) : (s.extract 0 3).data.toList = [s[0], s[1], s[2]] := by
  apply List.ext_getElem?
  intro j
  have h3 : (s.extract 0 3).size = 3 := by rw [ByteArray.size_extract]; omega
  match j with
  | 0 => rw [Lib.data_getElem? _ 0 (by omega)]; simp [ByteArray.getElem_extract]
  | 1 => rw [Lib.data_getElem? _ 1 (by omega)]; simp [ByteArray.getElem_extract]
  | 2 => rw [Lib.data_getElem? _ 2 (by omega)]; simp [ByteArray.getElem_extract]
  | j + 3 => rw [List.getElem?_eq_none (by rw [← Lib.size_eq]; omega)]; simp
/-- The model's reading of the three figures. -/
theorem code_num {s : ByteArray} (h : 4 ≤ s.size) (h3 : s[3].toNat = 32) (h0 : 50 ≤ s[0].toNat ∧ s[0].toNat ≤ 53) :
    (numB (s.extract 0 3) < 200 ∧ codeB s = 0) ∨ (200 ≤ numB (s.extract 0 3) ∧ codeB s = numB (s.extract 0 3)) := by
  have hsz : (s.extract 0 3).size = 3 := by rw [ByteArray.size_extract]; omega
  have h3l := three h
  by_cases hb : (48 ≤ s[1].toNat ∧ s[1].toNat ≤ 57) ∧ (48 ≤ s[2].toNat ∧ s[2].toNat ≤ 57)
  · right
    have hn : numB (s.extract 0 3) = 100 * ((s[0].toNat : Int) - 48) + 10 * ((s[1].toNat : Int) - 48) + ((s[2].toNat : Int) - 48) := by
      unfold numB
      rw [h3l, hsz]
      have hz : (some s[0] == some (48 : UInt8)) = false := by
        rw [beq_eq_false_iff_ne]; intro e
        have := congrArg UInt8.toNat (Option.some.inj e)
        have e48 : (48 : UInt8).toNat = 48 := rfl
        omega
      have f0 : figC s[0] = true := figC_true (by omega)
      have f1 : figC s[1] = true := figC_true hb.1
      have f2 : figC s[2] = true := figC_true hb.2
      simp only [List.all_cons, List.all_nil, f0, f1, f2, List.head?_cons, hz, valL, List.foldl_cons, List.foldl_nil]
      simp
      omega
    refine ⟨by omega, ?_⟩
    rw [hn]
    exact codeB_yes h h3 h0 hb.1 hb.2
  · left
    refine ⟨?_, codeB_no h (fun hh => hb ⟨hh.2.2.1, hh.2.2.2⟩)⟩
    have : numB (s.extract 0 3) = -1 := by
      unfold numB
      have hf : ([s[0], s[1], s[2]] : List UInt8).all figC = false := by
        by_cases h1 : 48 ≤ s[1].toNat ∧ s[1].toNat ≤ 57
        · have h2 : ¬ (48 ≤ s[2].toNat ∧ s[2].toNat ≤ 57) := fun h2 => hb ⟨h1, h2⟩
          simp [figC_false h2]
        · simp [figC_false h1]
      rw [h3l, hf]; rfl
    omega
end Go.Proofs.Ytckcjchkegknhaa
