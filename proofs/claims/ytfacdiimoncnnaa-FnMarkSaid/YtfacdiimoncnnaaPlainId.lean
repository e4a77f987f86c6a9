/- Plain facts: the line by which a mail is known. No program in this text. -/
import Derived.Test.YtfacdiimoncnnaaPlain
import Derived.Lib.Strings
namespace Go.Proofs.Ytfacdiimoncnnaa
open Go

def idS : ByteArray := { data := #[73, 100, 58, 32] }
def idP (s : ByteArray) : Bool := Lib.hasPrefix s.data.toList idS.data.toList
def knownB (s : ByteArray) : Bool := decide (4 < s.size) && idP s
def idAt (xs : List ByteArray) : Int := match xs.findIdx? knownB with | some k => k | none => -1
def markR (xs : List ByteArray) : ByteArray := (xs.find? knownB).getD { data := #[] }
def markOfB (xs : List ByteArray) : ByteArray := if bodyB xs then markR xs else { data := #[] }
/-- No line of these is one by which a mail is known. -/
def noId (xs : List ByteArray) : Bool := xs.all fun x => !knownB x

theorem idP_take (s : ByteArray) : idP s = (s.data.toList.take 4 == [73, 100, 58, 32]) := by
  unfold idP Lib.hasPrefix idS
  rw [Bool.eq_iff_iff, List.isPrefixOf_iff_prefix, List.prefix_iff_eq_take, beq_iff_eq]
  exact ⟨fun h => h.symm, fun h => h.symm⟩
theorem idP_piece (s : ByteArray) : ((s.extract 0 4).toList == [73, 100, 58, 32]) = idP s := by
  rw [idP_take, Lib.toList_data, Lib.extract_from_zero]
theorem known_short {s : ByteArray} (h : s.size ≤ 4) : knownB s = false := by unfold knownB; rw [decide_eq_false (by omega), Bool.false_and]
theorem known_long {s : ByteArray} (h : 4 < s.size) : knownB s = idP s := by unfold knownB; rw [decide_eq_true h, Bool.true_and]
theorem known_size {s : ByteArray} (h : knownB s = true) : 4 < s.size := by
  unfold knownB at h
  rw [Bool.and_eq_true, decide_eq_true_eq] at h
  exact h.1

theorem noId_find : ∀ {xs : List ByteArray}, noId xs = true → xs.find? knownB = none
  | [], _ => rfl
  | x :: xs, h => by
    unfold noId at h
    rw [List.all_cons, Bool.and_eq_true, Bool.not_eq_true'] at h
    rw [List.find?_cons, h.1]
    exact noId_find (xs := xs) (by unfold noId; exact h.2)
theorem noId_append {xs ys : List ByteArray} (h : noId xs = true) : (xs ++ ys).find? knownB = ys.find? knownB := by
  rw [List.find?_append, noId_find h]; rfl
theorem markR_none {xs : List ByteArray} {k : Nat} (hk : xs.length ≤ k) (h : noId (xs.take k) = true) : markR xs = { data := #[] } := by
  rw [List.take_of_length_le hk] at h
  unfold markR
  rw [noId_find h]; rfl
theorem split_at {α : Type} {xs : List α} {k : Nat} {x : α} (hx : xs[k]? = some x) : xs = xs.take k ++ x :: xs.drop (k + 1) := by
  obtain ⟨hk, e⟩ := List.getElem?_eq_some_iff.1 hx
  have h2 := List.take_append_drop k xs
  rw [List.drop_eq_getElem_cons hk, e] at h2
  exact h2.symm
theorem markR_at {xs : List ByteArray} {k : Nat} {x : ByteArray} (hx : xs[k]? = some x) (h : noId (xs.take k) = true) (hc : knownB x = true) : markR xs = x := by
  unfold markR
  rw [split_at hx, noId_append h, List.find?_cons, hc]; rfl
theorem noId_succ {xs : List ByteArray} {k : Nat} {x : ByteArray} (hx : xs[k]? = some x) (h : noId (xs.take k) = true) (hc : knownB x = false) : noId (xs.take (k + 1)) = true := by
  unfold noId at h ⊢
  exact list_all_succ hx h (by rw [hc]; rfl)

theorem findIdx?_none_of {xs : List ByteArray} (h : noId xs = true) : xs.findIdx? knownB = none := by
  rw [List.findIdx?_eq_none_iff]
  intro x hx
  unfold noId at h
  have := List.all_eq_true.1 h x hx
  simpa using this
theorem idAt_none {xs : List ByteArray} {k : Nat} (hk : xs.length ≤ k) (h : noId (xs.take k) = true) : idAt xs = -1 := by
  rw [List.take_of_length_le hk] at h
  unfold idAt
  rw [findIdx?_none_of h]
theorem idAt_at {xs : List ByteArray} {k : Nat} {x : ByteArray} (hx : xs[k]? = some x) (h : noId (xs.take k) = true) (hc : knownB x = true) : idAt xs = k := by
  obtain ⟨hk, e⟩ := List.getElem?_eq_some_iff.1 hx
  unfold idAt
  have : xs.findIdx? knownB = some k := by
    rw [List.findIdx?_eq_some_iff_getElem]
    refine ⟨hk, by rw [e]; exact hc, fun j hj => ?_⟩
    unfold noId at h
    have := List.all_eq_true.1 h xs[j] (by rw [List.mem_take_iff_getElem]; exact ⟨j, by omega, rfl⟩)
    simpa using this
  rw [this]
/-- Where the first such line stands, or that there is none. -/
theorem id_cases (xs : List ByteArray) : (idAt xs = -1 ∧ markR xs = { data := #[] }) ∨ ∃ k x, k < xs.length ∧ xs[k]? = some x ∧ idAt xs = (k : Int) ∧ markR xs = x ∧ knownB x = true := by
  by_cases h : noId xs = true
  · left
    exact ⟨idAt_none (k := xs.length) (Nat.le_refl _) (by rwa [List.take_length]), markR_none (k := xs.length) (Nat.le_refl _) (by rwa [List.take_length])⟩
  · right
    obtain ⟨x, hx⟩ : ∃ x, xs.find? knownB = some x := by
      cases e : xs.find? knownB with
      | some x => exact ⟨x, rfl⟩
      | none =>
        exfalso
        apply h
        unfold noId
        rw [List.all_eq_true]
        intro x hx
        have := List.find?_eq_none.1 e x hx
        simpa using this
    obtain ⟨hc, as, bs, e, hn⟩ := List.find?_eq_some_iff_append.1 hx
    have hk : xs[as.length]? = some x := by rw [e]; simp
    have hno : noId (xs.take as.length) = true := by
      rw [e]
      unfold noId
      rw [List.take_left', List.all_eq_true]
      · intro y hy; exact hn y hy
      · rfl
    exact ⟨as.length, x, (List.getElem?_eq_some_iff.1 hk).1, hk, idAt_at hk hno hc, markR_at hk hno hc, hc⟩
theorem markOf_no {xs : List ByteArray} (h : bodyB xs = false) : markOfB xs = { data := #[] } := by unfold markOfB; rw [h]; rfl
theorem markOf_yes {xs : List ByteArray} (h : bodyB xs = true) : markOfB xs = markR xs := by unfold markOfB; rw [h]; rfl
theorem markOf_size {xs : List ByteArray} (h : bodyB xs = true) : (markOfB xs).size ≤ 40 := by
  rw [markOf_yes h]
  rcases id_cases xs with ⟨_, e⟩ | ⟨k, x, _, hx, _, e, _⟩
  · rw [e]; simp [ByteArray.size]
  · rw [e]
    unfold bodyB at h
    rw [Bool.and_eq_true] at h
    have := List.all_eq_true.1 h.1 x (List.mem_of_getElem? hx)
    unfold lineB at this
    rw [Bool.and_eq_true, decide_eq_true_eq] at this
    exact this.2
end Go.Proofs.Ytfacdiimoncnnaa
