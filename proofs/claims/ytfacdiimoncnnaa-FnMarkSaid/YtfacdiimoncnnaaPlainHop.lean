/- Plain facts: lines of hosts. No program in this text. -/
import Derived.Test.YtfacdiimoncnnaaPlain
import Derived.Lib.Strings
namespace Go.Proofs.Ytfacdiimoncnnaa
open Go

def hopS : ByteArray := { data := #[72, 111, 112, 58, 32] }
def marked (s : ByteArray) : Bool := Lib.hasPrefix s.data.toList hopS.data.toList
def hopB (s : ByteArray) : Bool := marked s && domB (s.extract 5 s.size)
def hopsN (xs : List ByteArray) : Nat := (xs.takeWhile hopB).length

theorem domB_empty {s : ByteArray} (h : s.size = 0) : domB s = false := by
  have e : piecesB 46 3 s = [s] := by
    unfold piecesB
    exact Lib.splitB_miss _ _ _ _ (indexB_none fun j _ hj => by omega)
  unfold domB
  rw [e, List.all_cons, wordB_size (by omega)]
  rfl
theorem marked_take (s : ByteArray) : marked s = (s.data.toList.take 5 == [72, 111, 112, 58, 32]) := by
  unfold marked Lib.hasPrefix hopS
  rw [Bool.eq_iff_iff, List.isPrefixOf_iff_prefix, List.prefix_iff_eq_take, beq_iff_eq]
  exact ⟨fun h => h.symm, fun h => h.symm⟩
theorem marked_short {s : ByteArray} (h : s.size ≤ 5) : hopB s = false := by
  unfold hopB
  rw [domB_empty (by rw [ByteArray.size_extract]; omega), Bool.and_false]
theorem marked_piece (s : ByteArray) : ((s.extract 0 5).toList == [72, 111, 112, 58, 32]) = marked s := by
  rw [marked_take, Lib.toList_data, Lib.extract_from_zero]
theorem hopB_no {s : ByteArray} (h : marked s = false) : hopB s = false := by unfold hopB; rw [h, Bool.false_and]
theorem hopB_yes {s : ByteArray} (h : marked s = true) : hopB s = domB (s.extract 5 s.size) := by unfold hopB; rw [h, Bool.true_and]
theorem marked_rest {s : ByteArray} (h : marked s = true) : (⟨(Lib.trimPrefix s.data.toList hopS.data.toList).toArray⟩ : ByteArray) = s.extract 5 s.size := by
  unfold marked at h
  unfold Lib.trimPrefix
  rw [if_pos h]
  apply ByteArray.ext
  apply Array.ext'
  rw [Lib.extract_to_end]
  rfl
theorem hopsN_le (xs : List ByteArray) : hopsN xs ≤ xs.length := by
  unfold hopsN
  exact (List.takeWhile_sublist hopB).length_le
theorem hopsN_at : ∀ (xs : List ByteArray) (k : Nat), (xs.take k).all hopB = true → (k = xs.length ∨ ∃ x, xs[k]? = some x ∧ hopB x = false) → hopsN xs = k
  | [], k, _, h => by
    rcases h with rfl | ⟨x, hx, _⟩
    · rfl
    · simp at hx
  | y :: ys, 0, _, h => by
    rcases h with h | ⟨x, hx, hf⟩
    · simp at h
    · simp at hx
      subst hx
      unfold hopsN
      rw [List.takeWhile_cons, hf]
      rfl
  | y :: ys, k + 1, ha, h => by
    rw [List.take_succ_cons, List.all_cons, Bool.and_eq_true] at ha
    have := hopsN_at ys k ha.2 (by
      rcases h with h | ⟨x, hx, hf⟩
      · left; simpa using h
      · right; exact ⟨x, by simpa using hx, hf⟩)
    unfold hopsN at this ⊢
    rw [List.takeWhile_cons, ha.1]
    simpa using this
end Go.Proofs.Ytfacdiimoncnnaa
