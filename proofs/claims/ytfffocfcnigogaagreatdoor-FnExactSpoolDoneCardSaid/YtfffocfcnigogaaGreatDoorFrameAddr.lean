/- An argument that is an address (a struct of two strings), opened. -/
import Derived.Test.YtfffocfcnigogaaGreatDoorFrame
import Derived.Lib.SmallJoins
namespace Go.Proofs.YtfffocfcnigogaaGreatDoor
open Go.ChangeShapes Go.WideShapes Go.ChangeAt Go.RowKit Go.Joins

theorem cellsAddr : Tryz.prog.cellsOf 61 = 2 := by kernel_rfl
set_option maxRecDepth 100000 in
theorem open_addr {H : Type} {enc : TypeId × Value → H} {W : World} {base : Nat} {v : Value} {d : DataW H} {p : List MemPlace}
    (hv : Value.okWide Tryz.prog W .any base 61 v) (h : DataW.Trod enc Tryz.prog W 0 (fun _ => true) true 61 v d p) :
    ∃ u g : ByteArray, v = .agg #[.string u, .string g] ∧ u.size ≤ maxLen ∧ g.size ≤ maxLen := by
  obtain ⟨c0, c1, y0, y1, m, rfl, rfl, rfl, hy0, hy1⟩ := open_agg2 Tryz.underlying61 (by kernel_rfl) cellsAddr hv h
  obtain ⟨u, e0, _, hu⟩ := DataW.trod_string Tryz.underlying9 hy0
  obtain ⟨g, e1, _, hg⟩ := DataW.trod_string Tryz.underlying9 hy1
  simp at e0 e1
  subst e0 e1
  exact ⟨u, g, rfl, hu, hg⟩
end Go.Proofs.YtfffocfcnigogaaGreatDoor
