/- Contract: a number of a list drawn, one of the list's. -/
import Derived.Test.YtcaknjdolfheaaaDoorDraws
import Derived.WalkSpells
namespace Go.Proofs.YtcaknjdolfheaaaDoor
open Go Go.RowKit

theorem pick_at1 {B b P : Nat} (N : Nat) {v : Int} {w : World} (h : Rd B b P w) (hv : v = (N : Int)) (hP : P ≤ 1000000) (h0 : 1 ≤ N) (h1 : N ≤ 1000000) :
    Calls Tryd.prog 59 #[.pointer (some ⟨b, 0, none⟩), .int .i64 v] w fun e w' => ∃ k : Nat, e = .returned (.int .i64 (k : Int)) ∧ k < N ∧ Rd B b (P + 1) w' ∧ w.grownBy w' (some b) := by
  subst hv
  exact pick_any B b P N w h hP h0 h1

/-- 'one': one of the numbers. -/
theorem one_int {B b P n k : Nat} {cs : Array Value} (xs : List Int) {w : World} (h : Rd B b P w) (hk : k = w.heap.size) (hP : P ≤ 1000000) (hcs : cs.toList = xs.map (Value.int .i64)) (hn : n = xs.length) (h0 : 1 ≤ xs.length) (h1 : xs.length ≤ 1000000) :
    Calls Tryd.prog 42 #[.pointer (some ⟨b, 0, none⟩), .slice (some ⟨k, 0, none⟩) n n] (w.alloc (.cells cs 3)) fun e w' => ∃ x : Int, x ∈ xs ∧ e = .returned (.int .i64 x) ∧ Rd B b (P + 1) w' ∧ w.grownBy w' (some b) := by
  subst hk hn
  have hbw := h.lt.2
  have H := Lib.hid (h.later ((Below.refl _ _).alloc (Nat.le_refl _) (.cells cs 3)))
  have hc : ∀ (j : Nat) (x : Int), xs[j]? = some x → (w.alloc (.cells cs 3)).cell? ⟨w.heap.size, j, none⟩ = some (.int .i64 x) := fun j x hx => by
    rw [World.cell?_alloc_new w cs 3 j, ← Array.getElem?_toList, hcs, List.getElem?_map, hx]; rfl
  have HC := Lib.hid hc
  have HG : Hid (∀ w', (w.alloc (.cells cs 3)).grownBy w' (some b) → w.grownBy w' (some b)) := Lib.hid fun w' g => grow_alloc g
  clear hc hcs h
  generalize hW : w.alloc (.cells cs 3) = W at *
  go_enter Tryd.func42, Tryd.ntmps42
  go_wp2_with fail
  refine (pick_at1 xs.length H.out rfl hP h0 h1).mono ?_
  rintro e w1 ⟨i, rfl, hi, h2, g2⟩
  obtain ⟨x, hx⟩ : ∃ x, xs[i]? = some x := ⟨_, List.getElem?_eq_getElem hi⟩
  have hc1 : w1.cell? ⟨w.heap.size, i, none⟩ = some (.int .i64 x) := g2.cell (HC.out i x hx) (fun e => by have := Option.some.inj e; simp at this; omega)
  have HX := Lib.hid (List.mem_of_getElem? hx)
  have H2 := Lib.hid h2
  have G2 := Lib.hid g2
  clear hx h2 g2
  go_wp2
  go_ret
  exact ⟨x, HX.out, rfl, H2.out, HG.out _ G2.out⟩
end Go.Proofs.YtcaknjdolfheaaaDoor
