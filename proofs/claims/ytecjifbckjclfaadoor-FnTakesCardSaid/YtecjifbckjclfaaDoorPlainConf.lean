/- Plain facts: hosts, and where their mail goes. No program in this text. -/
import Derived.Test.YtecjifbckjclfaaDoorPlainAddr
namespace Go.Proofs.YtecjifbckjclfaaDoor
open Go

structure ConfD where
  name : ByteArray
  own : List ByteArray
  ways : List (ByteArray × ByteArray)
def wayOkB (p : ByteArray × ByteArray) : Bool := domB p.1 && domB p.2
def confB (c : ConfD) : Bool := domB c.name && (c.own.all domB && decide (c.own.length ≤ 3)) && (c.ways.all wayOkB && decide (c.ways.length ≤ 4))
theorem confB_own {c : ConfD} {k : Nat} {x : ByteArray} (hx : c.own[k]? = some x) (h : domB x = false) : confB c = false := by
  unfold confB; rw [list_all_miss hx h]; simp
theorem confB_ways {c : ConfD} {k : Nat} {p : ByteArray × ByteArray} (hx : c.ways[k]? = some p) (h : wayOkB p = false) : confB c = false := by
  unfold confB; rw [list_all_miss hx h]; simp
theorem confB_end {c : ConfD} (h1 : c.own.all domB = true) (h2 : c.ways.all wayOkB = true) : confB c = (domB c.name && (decide (c.own.length ≤ 3) && decide (c.ways.length ≤ 4))) := by
  unfold confB; rw [h1, h2]; simp [Bool.and_assoc]
theorem confB_true {c : ConfD} (h : confB c = true) : domB c.name = true ∧ (∀ x ∈ c.own, domB x = true) ∧ c.own.length ≤ 3 ∧ (∀ p ∈ c.ways, domB p.1 = true ∧ domB p.2 = true) ∧ c.ways.length ≤ 4 := by
  unfold confB at h
  simp only [Bool.and_eq_true, decide_eq_true_eq, List.all_eq_true] at h
  refine ⟨h.1.1, h.1.2.1, h.1.2.2, fun p hp => ?_, h.2.2⟩
  have := h.2.1 p hp
  unfold wayOkB at this
  rwa [Bool.and_eq_true] at this

/-- The best way so far, by the longest end. -/
def betterB (dom : ByteArray) (b p : ByteArray × ByteArray) : ByteArray × ByteArray := if endB dom p.1 && decide (b.1.size < p.1.size) then p else b
def bestB (dom : ByteArray) (ps : List (ByteArray × ByteArray)) : ByteArray × ByteArray := ps.foldl (betterB dom) (ByteArray.empty, ByteArray.empty)
theorem bestB_snoc {dom : ByteArray} {ps : List (ByteArray × ByteArray)} {k : Nat} {p : ByteArray × ByteArray} (hp : ps[k]? = some p) : bestB dom (ps.take (k + 1)) = betterB dom (bestB dom (ps.take k)) p := by
  obtain ⟨hk, e⟩ := List.getElem?_eq_some_iff.1 hp
  unfold bestB
  rw [List.take_succ_eq_append_getElem hk, List.foldl_append, e]; rfl
theorem betterB_yes {dom : ByteArray} {b p : ByteArray × ByteArray} (h1 : endB dom p.1 = true) (h2 : b.1.size < p.1.size) : betterB dom b p = p := by
  unfold betterB; rw [h1, decide_eq_true h2]; rfl
theorem betterB_no {dom : ByteArray} {b p : ByteArray × ByteArray} (h : endB dom p.1 = false ∨ p.1.size ≤ b.1.size) : betterB dom b p = b := by
  unfold betterB
  rcases h with h | h
  · rw [h]; rfl
  · rw [decide_eq_false (by omega), Bool.and_false]; rfl
/-- A domain is one of a list. -/
def hasB (xs : List ByteArray) (x : ByteArray) : Bool := xs.any fun y => y.toList == x.toList
theorem hasB_hit {xs : List ByteArray} {x y : ByteArray} {k : Nat} (hy : xs[k]? = some y) (h : y.toList = x.toList) : hasB xs x = true := by
  unfold hasB
  rw [List.any_eq_true]
  exact ⟨y, List.mem_of_getElem? hy, by rw [h]; simp⟩
theorem hasB_end {xs : List ByteArray} {x : ByteArray} {k : Nat} (hk : xs.length ≤ k) (h : (xs.take k).any (fun y => y.toList == x.toList) = false) : hasB xs x = false := by
  rwa [List.take_of_length_le hk] at h
theorem any_take_succ {α : Type} {p : α → Bool} {l : List α} {k : Nat} {x : α} (hx : l[k]? = some x) (h : (l.take k).any p = false) (hc : p x = false) : (l.take (k + 1)).any p = false := by
  obtain ⟨hk, e⟩ := List.getElem?_eq_some_iff.1 hx
  rw [List.take_succ_eq_append_getElem hk, List.any_append, h, e]
  simp [hc]
def wayB (c : ConfD) (dom : ByteArray) : ByteArray := if confB c && domB dom && !hasB c.own dom then (bestB dom c.ways).2 else ByteArray.empty
def takesB (c : ConfD) (u d : ByteArray) : Bool := confB c && addrB u d && (hasB c.own d || !(bestB d c.ways).2.toList.isEmpty)
def helloB (c : ConfD) : ByteArray := if confB c then { data := #[50, 50, 48, 32] } ++ c.name else { data := #[] }
end Go.Proofs.YtecjifbckjclfaaDoor
