/- Contracts: HopPut, of the model and of the program; the walk of its law. -/
import Derived.Test.YtcaknjdolfheaaaDoorHop
import Derived.Test.YtcaknjdolfheaaaDoorBasis
import Derived.Laws.AppendOwnNone
namespace Go.Proofs.YtcaknjdolfheaaaDoor
open Go Go.RowKit

theorem bodyB_bd {xs : List ByteArray} (h : bodyB xs = true) : xs.length ≤ 12 ∧ ∀ x ∈ xs, x.size ≤ 40 := by
  unfold bodyB at h
  rw [Bool.and_eq_true, List.all_eq_true, decide_eq_true_eq] at h
  refine ⟨h.2, fun x hx => ?_⟩
  have := h.1 x hx
  unfold lineB at this
  rw [Bool.and_eq_true, decide_eq_true_eq] at this
  exact this.2

def hopPutR (nm : ByteArray) (xs : List ByteArray) : List ByteArray × Bool := if domB nm && bodyB xs && decide (xs.length < 12) then ((hopS ++ nm) :: xs, true) else ([], false)
theorem hopPutR_no {nm : ByteArray} {xs : List ByteArray} (h : domB nm = false ∨ bodyB xs = false ∨ 12 ≤ xs.length) : hopPutR nm xs = ([], false) := by
  unfold hopPutR
  rcases h with h | h | h
  · rw [h]; rfl
  · rw [h, Bool.and_false]; rfl
  · rw [decide_eq_false (by omega), Bool.and_false]; rfl
theorem hopPutR_yes {nm : ByteArray} {xs : List ByteArray} (h1 : domB nm = true) (h2 : bodyB xs = true) (h3 : xs.length < 12) : hopPutR nm xs = ((hopS ++ nm) :: xs, true) := by
  unfold hopPutR; rw [h1, h2, decide_eq_true h3]; rfl

/-- Two results: a row of the call's own, and whether there is one. -/
def RowOkPost (w : World) (r : List ByteArray × Bool) (e : Ending) (w' : World) : Prop :=
  ∃ ao cap, e = .returned (.tuple #[.slice ao r.1.length cap, .bool r.2]) ∧ w'.ownsRow w.heap.size 9 1 (.slice ao r.1.length cap) r.1.length (r.1.map Value.string) ∧ Below w.heap.size w w'
theorem RowOkPost.nil {w w' : World} {r : List ByteArray × Bool} (h : r = ([], false)) (hb : Below w.heap.size w w') : RowOkPost w r (.returned (.tuple #[.slice none 0 0, .bool false])) w' := by
  subst h
  exact ⟨none, 0, rfl, World.ownsRow_nil _ _ _ _, hb⟩

theorem RowOkPost.cons {w w' : World} {r : List ByteArray × Bool} {y : ByteArray} {xs : List ByteArray} {ao : Option Addr} {cap : Nat} (h : r = (y :: xs, true)) (ho : w'.ownsRow w.heap.size 9 1 (.slice ao (1 + xs.length) cap) (1 + xs.length) (.string y :: xs.map Value.string)) (hb : Below w.heap.size w w') :
    RowOkPost w r (.returned (.tuple #[.slice ao (1 + xs.length) cap, .bool true])) w' := by
  subst h
  refine ⟨ao, cap, by simp [Nat.add_comm], ?_, hb⟩
  rw [Nat.add_comm] at ho
  exact ho
theorem shape_of {w : World} {base : Nat} {e : TypeId} {size : Nat} {v : Value} {n : Nat} {xs : List Value} (h : w.ownsRow base e size v n xs) : ∃ ao cap, v = .slice ao n cap := by
  rcases h.2 with ⟨h', rfl⟩ | ⟨g, cap, cur, h', _⟩
  · exact ⟨_, _, h'⟩
  · exact ⟨_, _, h'⟩

theorem row_lit (w : World) (x : ByteArray) (B : Nat) (hB : B ≤ w.heap.size) : (w.alloc (.cells #[.string x] 9)).ownsRow B 9 1 (.slice (some ⟨w.heap.size, 0, none⟩) 1 1) 1 [.string x] :=
  World.ownsRow_lit w #[.string x] 1 hB (by unfold maxLen; omega) rfl

theorem news_row {w : World} {ad : Addr} {xs : List ByteArray} (hr : StrRow w (some ad) xs) : ∀ j u, (xs.map Value.string)[j]? = some u → w.cell? (ad.add j) = some u := by
  intro j u hj
  rw [List.getElem?_map] at hj
  obtain ⟨x, hx, rfl⟩ := Option.map_eq_some_iff.1 hj
  obtain ⟨b, off, e, hc⟩ := hr j x hx
  injection e with e
  subst e
  by_cases h0 : j = 0
  · subst h0; simpa [Addr.add] using hc
  · simpa [Addr.add, h0] using hc
theorem strs_one (xs : List ByteArray) : ∀ u ∈ xs.map Value.string, u.oneCell' = true := by
  intro u hu
  obtain ⟨x, _, rfl⟩ := List.mem_map.1 hu
  rfl

end Go.Proofs.YtcaknjdolfheaaaDoor
