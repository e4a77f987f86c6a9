/- Contracts of the functions that look at one word: for every text the answer is the plain one, and memory is as it was. -/
import Derived.Test.YtecjifbckjclfaaProg
import Derived.Test.YtecjifbckjclfaaPlain
import Derived.WalkKit
import Derived.Lib.Hide
import Derived.Outline
namespace Go.Proofs.Ytecjifbckjclfaa
open Go Go.RowKit

theorem ret_b {a b : Bool} (h : a = b) : Ending.returned (.bool a) = .returned (.bool b) := by rw [h]

theorem l1In_any (n lo hi : Int) (w : World) :
    Calls Try.prog 17 #[.int .i64 n, .int .i64 lo, .int .i64 hi] w fun e w' => e = .returned (.bool (inB n lo hi)) ∧ w = w' := by
  rcases (show n < lo ∨ (lo ≤ n ∧ n ≤ hi) ∨ (lo ≤ n ∧ hi < n) by omega) with h | ⟨h, h'⟩ | ⟨h, h'⟩
  · have hm : Hid (inB n lo hi = false) := Lib.hid (inB_false (by omega))
    go_enter Try.func17, Try.ntmps17
    go_wp2
    go_ret
    exact ⟨ret_b hm.out.symm, rfl⟩
  · have hm : Hid (inB n lo hi = true) := Lib.hid (inB_true (by omega))
    go_enter Try.func17, Try.ntmps17
    go_wp2
    go_ret
    exact ⟨ret_b hm.out.symm, rfl⟩
  · have d1 : decide (n ≤ hi) = false := decide_eq_false (by omega)
    have hm : Hid (inB n lo hi = false) := Lib.hid (inB_false (by omega))
    go_enter Try.func17, Try.ntmps17
    go_wp2
    go_ret
    exact ⟨ret_b hm.out.symm, rfl⟩

end Go.Proofs.Ytecjifbckjclfaa
