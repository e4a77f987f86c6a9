/- Contracts: DotPut, of the model and of the program. -/
import Derived.Test.YtckcjchkegknhaaDoorDots
import Derived.Test.YtckcjchkegknhaaDoorCopy
namespace Go.Proofs.YtckcjchkegknhaaDoor
open Go Go.RowKit

theorem bodyB_bounds {xs : List ByteArray} (h : bodyB xs = true) : xs.length ≤ 12 ∧ ∀ x ∈ xs, x.size ≤ 40 := by
  unfold bodyB at h
  rw [Bool.and_eq_true, List.all_eq_true, decide_eq_true_eq] at h
  refine ⟨h.2, fun x hx => ?_⟩
  have := h.1 x hx
  unfold lineB at this
  rw [Bool.and_eq_true, decide_eq_true_eq] at this
  exact this.2
def dotPutB (xs : List ByteArray) : ByteArray := if bodyB xs then ⟨(dotsAll xs).toArray⟩ else { data := #[] }

theorem StrRow.lt {w : World} {ao : Option Addr} {xs : List ByteArray} (h : StrRow w ao xs) : ∀ a, xs ≠ [] → ao = some a → a.block < w.heap.size := by
  intro a hne e
  cases xs with
  | nil => exact absurd rfl hne
  | cons x l =>
    obtain ⟨b, off, e2, hc⟩ := h 0 x rfl
    rw [e] at e2
    injection e2 with e2
    rw [e2]
    exact World.block_lt_of_cell? w _ hc

theorem dotsAll_ne (xs : List ByteArray) : dotsAll xs ≠ [] := by unfold dotsAll; simp

theorem implDotPut_any (ao : Option Addr) (cap : Nat) (xs : List ByteArray) (w : World) (hr : StrRow w ao xs) (hl : xs.length ≤ maxLen) (hs : ∀ x ∈ xs, x.size ≤ maxLen) :
    Calls Tryd.prog 262 #[.slice ao xs.length cap] w fun e w' => e = .returned (.string (dotPutB xs)) ∧ Below w.heap.size w w' := by
  have HR := Lib.hid hr
  have HS := Lib.hid hs
  clear hr hs
  cases hb : bodyB xs
  · have hm : Hid (dotPutB xs = { data := #[] }) := Lib.hid (by unfold dotPutB; rw [hb]; rfl)
    have HB := Lib.hid hb
    clear hb
    go_enter Tryd.func262, Tryd.ntmps262
    go_wp2_with (go_at_call 85; refine (isBody_any ao cap xs _ HR.out hl HS.out).mono ?_; rintro e w1 ⟨rfl, rfl⟩; rw [HB.out])
    go_ret
    exact ⟨ret_st hm.out.symm, Below.refl _ _⟩
  · have hm : Hid (dotPutB xs = ⟨(dotsAll xs).toArray⟩) := Lib.hid (by unfold dotPutB; rw [hb]; rfl)
    have HB := Lib.hid hb
    clear hb
    have hbw : Below w.heap.size w (w.alloc (.cells #[.pointer none, .slice none 0 0] 119)) := (Below.refl _ _).alloc (Nat.le_refl _) _
    have hr2 := Lib.hid (HR.out.below hbw (Nat.le_refl _))
    have hh := Lib.hid (Lib.fresh_isBuilder 119 5 w)
    have hbw' := Lib.hid hbw
    clear hbw
    go_enter Tryd.func262, Tryd.ntmps262
    go_wp2_with fail
    refine (isBody_any ao cap xs _ HR.out hl HS.out).mono ?_
    rintro e w1 ⟨rfl, rfl⟩
    rw [HB.out]
    go_wp2_with fail
    refine (body_any ao cap w.heap.size w.heap.size [] xs _ hr2.out HR.out.lt (bodyB_bounds HB.out).1 (bodyB_bounds HB.out).2 (by simp) hh.out (by simp)).mono ?_
    rintro e w1 ⟨rfl, h1, hb1⟩
    go_wp2_with fail
    refine (string_any w.heap.size w.heap.size _ _ h1 (by simpa using dotsAll_ne xs)).mono ?_
    rintro e w2 ⟨rfl, hb2⟩
    go_wp2
    go_ret
    exact ⟨ret_st (by rw [hm.out]), (hbw'.out.trans hb1).trans hb2⟩
end Go.Proofs.YtckcjchkegknhaaDoor
