/- Contracts: whether each of a queue meets what is asked; whether an item is valid, of the program. -/
import Derived.Test.YtgjkoegpdfcadaaDoorSpoolFind
namespace Go.Proofs.YtgjkoegpdfcadaaDoor
open Go Go.RowKit

set_option maxRecDepth 100000 in
theorem everyOneRcpt_any (a : Addr) (x : RcptD) (w : World) (hc : w.cell? a = some (.func (.func 102) #[] #[])) :
    Calls Tryd.prog 241 #[.agg (rcptV x), .pointer (some a)] w fun e w' => e = .returned (.bool (!tryB x)) ∧ Below w.heap.size w w' := by
  have b0 : Seal (Below w.heap.size w (w.alloc (.cells (rcptV x) 66))) := ⟨(Below.refl _ _).alloc (Nat.le_refl _) _⟩
  have c1 := heldc hc b0.out
  obtain ⟨v, hv⟩ : ∃ v, tryB x = v := ⟨_, rfl⟩
  have HV : Seal _ := ⟨hv⟩
  rw [hv]
  clear hc hv
  go_enter Tryd.func241, Tryd.ntmps241
  go_wp2_with fail
  refine (rcptValid_any x _).mono ?_
  rintro e w1 ⟨rfl, hb1⟩
  rw [HV.out]
  have B1 : Seal _ := ⟨b0.out.trans (hb1.mono b0.out.size)⟩
  clear hb1
  go_wp2
  go_ret
  exact ⟨rfl, B1.out⟩

/-- Which place does not meet what is asked. -/
def badAt {α : Type} (f : α → Bool) (xs : List α) (k : Nat) : Bool := match xs[k]? with
  | some x => !f x
  | none => false
theorem badAt_of {α : Type} {f : α → Bool} {xs : List α} {k : Nat} {x : α} (h : xs[k]? = some x) : badAt f xs k = !f x := by unfold badAt; rw [h]
theorem all_of_none {α : Type} {f : α → Bool} {xs : List α} (h : ∀ j, j < xs.length → badAt f xs j = false) : xs.all f = true := by
  rw [List.all_eq_true]
  intro x hx
  obtain ⟨k, hk⟩ := List.getElem?_of_mem hx
  have := h k (List.getElem?_eq_some_iff.1 hk).1
  rw [badAt_of hk] at this
  simpa using this
theorem not_all_of {α : Type} {f : α → Bool} {xs : List α} {k : Nat} (hk : k < xs.length) (h : badAt f xs k = true) : xs.all f = false := by
  obtain ⟨x, hx⟩ : ∃ x, xs[k]? = some x := ⟨_, List.getElem?_eq_getElem hk⟩
  rw [badAt_of hx] at h
  exact list_all_miss hx (by simpa using h)

set_option maxHeartbeats 1600000 in
set_option maxRecDepth 100000 in
theorem everyRcpt_any (ao : Option Addr) (cap : Nat) (xs : List RcptD) (w : World) (hr : RcptRow w ao xs) (hl : xs.length ≤ 1048576) :
    Calls Tryd.prog 188 #[.slice ao xs.length cap, .func (.func 102) #[] #[]] w fun e w' => e = .returned (.bool (xs.all tryB)) ∧ Below w.heap.size w w' := by
  have S0 : Seal (St w (w.alloc (.cells #[.func (.func 102) #[] #[]] 197)) [Res.cells w.heap.size [.func (.func 102) #[] #[]]]) := ⟨(St.start w).alloc #[.func (.func 102) #[] #[]] 197⟩
  have HR : Seal _ := ⟨hr⟩
  have C : Seal _ := ⟨findRcpt_any 241 ⟨w.heap.size, 0, none⟩ ao cap xs (badAt tryB xs) (fun _ W => St w W [Res.cells w.heap.size [.func (.func 102) #[] #[]]]) (fun _ W => St w W [Res.cells w.heap.size [.func (.func 102) #[] #[]]]) _
    (enters_of Tryd.func241 (by kernel_rfl) rfl) hl S0.out (fun k W W' h hb => h.later hb) w hr (fun k W h => h.below)
    (fun k x W hx h => by
      refine (everyOneRcpt_any ⟨w.heap.size, 0, none⟩ x W (h.head.c 0 _ rfl)).mono ?_
      rintro e w1 ⟨rfl, hb1⟩
      rw [badAt_of hx]
      exact ⟨rfl, fun _ => h.later hb1, fun _ => h.later hb1⟩)⟩
  clear hr
  go_enter Tryd.func188, Tryd.ntmps188
  go_wp2_with fail
  refine C.out.mono ?_
  rintro e w1 ⟨r, rfl, h⟩
  rcases h with ⟨k, hk, rfl, hq, _, hs⟩ | ⟨rfl, hn, hs⟩
  · have hm : Seal (xs.all tryB = false) := ⟨not_all_of hk hq⟩
    have B1 : Seal _ := ⟨hs.below⟩
    clear hs hq C
    go_wp2
    go_ret
    exact ⟨ret_b hm.out.symm, B1.out⟩
  · have hm : Seal (xs.all tryB = true) := ⟨all_of_none hn⟩
    have B1 : Seal _ := ⟨hs.below⟩
    clear hs hn C
    go_wp2
    go_ret
    exact ⟨ret_b hm.out.symm, B1.out⟩
end Go.Proofs.YtgjkoegpdfcadaaDoor
