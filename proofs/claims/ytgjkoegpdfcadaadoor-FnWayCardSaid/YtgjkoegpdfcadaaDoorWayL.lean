/- Plain: who takes mail, and the longest end. -/
import Derived.Test.YtgjkoegpdfcadaaDoorWayOf
namespace Go.Proofs.YtgjkoegpdfcadaaDoor
open Go

theorem bestB_from {d : ByteArray} : ∀ (ps : List Pair) (b : Pair), ps.foldl (betterB d) b = b ∨ (ps.foldl (betterB d) b ∈ ps ∧ endB d (ps.foldl (betterB d) b).1 = true) := by
  intro ps
  induction ps with
  | nil => intro b; exact .inl rfl
  | cons p ps ih =>
    intro b
    rw [List.foldl_cons]
    rcases ih (betterB d b p) with h | ⟨h1, h2⟩
    · rw [h]
      by_cases hp : (endB d p.1 && decide (b.1.size < p.1.size)) = true
      · have e : betterB d b p = p := by unfold betterB; rw [if_pos hp]
        rw [e]
        rw [Bool.and_eq_true] at hp
        exact .inr ⟨List.mem_cons_self .., hp.1⟩
      · have e : betterB d b p = b := by unfold betterB; rw [if_neg hp]
        rw [e]
        exact .inl rfl
    · exact .inr ⟨List.mem_cons_of_mem _ h1, h2⟩
theorem bestB_is {d : ByteArray} {ps : List Pair} : bestB d ps = (ByteArray.empty, ByteArray.empty) ∨ (bestB d ps ∈ ps ∧ endB d (bestB d ps).1 = true) := bestB_from ps _

def isOne (d t : ByteArray) (n : Nat) (p : Pair) : Bool := !t.toList.isEmpty && (t.toList == p.2.toList && (decide (p.1.size = n) && inDomB d p.1))
def isB (d t : ByteArray) (n : Nat) (b : Bool) (ps : List Pair) : Bool := b || ps.any (isOne d t n)
theorem isB_snoc {d t : ByteArray} {n : Nat} {b : Bool} {ps : List Pair} {k : Nat} {p : Pair} (hp : ps[k]? = some p) : isB d t n b (ps.take (k + 1)) = (isB d t n b (ps.take k) || isOne d t n p) := by
  obtain ⟨hk, e⟩ := List.getElem?_eq_some_iff.1 hp
  unfold isB
  rw [List.take_succ_eq_append_getElem hk, List.any_append, e, Bool.or_assoc]
  simp
theorem hasB_snoc {xs : List ByteArray} {d x : ByteArray} {k : Nat} (hx : xs[k]? = some x) : hasB (xs.take (k + 1)) d = (hasB (xs.take k) d || (x.toList == d.toList)) := by
  obtain ⟨hk, e⟩ := List.getElem?_eq_some_iff.1 hx
  unfold hasB
  rw [List.take_succ_eq_append_getElem hk, List.any_append, e]
  simp

theorem empty_list : (ByteArray.empty).toList = [] := by decide +kernel
theorem empty_lit : ({ data := #[] } : ByteArray).toList.isEmpty = true := by decide +kernel
theorem addrB_a {d : ByteArray} (h : domB d = true) : addrB ⟨#[97]⟩ d = true := by
  have hz : wordB ⟨#[97]⟩ = true := by decide +kernel
  unfold addrB; rw [hz, h]; rfl
theorem takes_own {c : ConfD} {d : ByteArray} (h1 : confB c = true) (h2 : domB d = true) (h3 : hasB c.own d = true) : takesB c ⟨#[97]⟩ d = true ∧ (wayB c d).toList.isEmpty = true := by
  constructor
  · unfold takesB; rw [h1, addrB_a h2, h3]; rfl
  · rw [wayB_no (.inr (.inr h3))]; exact empty_lit
theorem toList_ne {s : ByteArray} (h : domB s = true) : s.toList.isEmpty = false := by
  cases he : s.toList.isEmpty with
  | false => rfl
  | true =>
    have e : s.toList = (ByteArray.empty).toList := by rw [List.isEmpty_iff.1 he, empty_list]
    rw [ba_ext e, domB_empty rfl] at h
    exact absurd h (by decide)
theorem takes_way {c : ConfD} {d : ByteArray} (h1 : confB c = true) (h2 : domB d = true) (h3 : hasB c.own d = false) :
    takesB c ⟨#[97]⟩ d = decide (0 < (bestB d c.ways).1.size) ∧ isB d (wayB c d) (bestB d c.ways).1.size (decide ((bestB d c.ways).1.size = 0) && (wayB c d).toList.isEmpty) c.ways = true := by
  have et : wayB c d = (bestB d c.ways).2 := wayB_yes h1 h2 h3
  have ek : takesB c ⟨#[97]⟩ d = !(bestB d c.ways).2.toList.isEmpty := by unfold takesB; rw [h1, addrB_a h2, h3]; rfl
  rw [et, ek]
  rcases bestB_is (d := d) (ps := c.ways) with h | ⟨hm, he⟩
  · rw [h]; exact ⟨by simp, by unfold isB; simp⟩
  · obtain ⟨_, _, _, hw, _⟩ := confB_true h1
    obtain ⟨d1, d2⟩ := hw _ hm
    have n2 := toList_ne d2
    have n1 : 0 < (bestB d c.ways).1.size := by
      rcases Nat.eq_zero_or_pos (bestB d c.ways).1.size with hz | hz
      · rw [domB_empty hz] at d1; exact absurd d1 (by decide)
      · exact hz
    refine ⟨by rw [n2, decide_eq_true n1]; rfl, ?_⟩
    unfold isB
    rw [Bool.or_eq_true, List.any_eq_true]
    refine .inr ⟨_, hm, ?_⟩
    unfold isOne inDomB
    rw [n2, d1, h2, he, decide_eq_true rfl]
    simp
theorem inDom_end {c : ConfD} {d : ByteArray} {k : Nat} {p : Pair} (h1 : confB c = true) (h2 : domB d = true) (hp : c.ways[k]? = some p) : inDomB d p.1 = endB d p.1 := by
  obtain ⟨_, _, _, hw, _⟩ := confB_true h1
  unfold inDomB; rw [h2, (hw p (List.mem_of_getElem? hp)).1]; rfl
end Go.Proofs.YtgjkoegpdfcadaaDoor
