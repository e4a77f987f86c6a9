/- Small facts that the walks of the laws share. -/
import Derived.Test.YtfacdiimoncnnaaCopy
namespace Go.Proofs.Ytfacdiimoncnnaa
open Go Go.RowKit

theorem leftB_small {xs : List ByteArray} (h : ¬ leftB xs 1048576 < 0) : xs.length ≤ 1048576 ∧ ∀ x ∈ xs, x.size ≤ 1048576 := by
  unfold leftB at h
  split at h
  · refine ⟨by omega, fun x hx => ?_⟩
    have := sumB_mem hx
    omega
  · exact absurd (show (-1 : Int) < 0 by decide) h

theorem drewN_below {B : Nat} {a w : World} (h : Below B a w) : ∀ n, Below B a (w.drewN n)
  | 0 => h
  | n + 1 => (drewN_below h n).drew

end Go.Proofs.Ytfacdiimoncnnaa
