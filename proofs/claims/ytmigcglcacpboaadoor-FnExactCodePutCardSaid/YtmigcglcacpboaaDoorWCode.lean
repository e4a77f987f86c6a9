/- The walk of FnExactCodePut. -/
import Derived.Test.YtmigcglcacpboaaDoorCodePut
import Derived.Test.YtmigcglcacpboaaDoorSixes
namespace Go.Proofs.YtmigcglcacpboaaDoor
open Go Go.RowKit

theorem wFnExactCodePut.walk (s : ByteArray) (w : World) (hs : s.size ≤ maxLen) (hf : FigCell w) :
    Calls Tryd.prog 7 #[.string s] w fun e w' => e = .returned (.bool true) ∧ Below w.heap.size w w' := by
  have C := Lib.hid (fun w => specCodePut_any s w hs)
  have D := Lib.hid (fun w hf => implCodePut_any s w hs hf)
  have HF := Lib.hid hf
  clear hf
  unfold maxLen at hs
  by_cases hbig : 1048576 < s.size
  · go_enter Tryd.func7, Tryd.ntmps7
    go_wp2
    go_ret
    exact ⟨rfl, Below.refl _ _⟩
  · have q : ((codePutB s).toList == (codePutB s).toList) = true := by simp
    generalize codePutB s = p at C D q
    go_enter Tryd.func7, Tryd.ntmps7
    go_wp2_with fail
    refine (C.out _).mono ?_
    rintro e w1 ⟨rfl, b1⟩
    have B1 := Lib.hid b1
    have F1 := Lib.hid (HF.out.below b1 (.inl (Nat.le_refl _)))
    clear b1
    go_wp2_with fail
    refine (D.out _ F1.out).mono ?_
    rintro e w2 ⟨rfl, b2⟩
    have B2 := Lib.hid (B1.out.trans (b2.mono B1.out.size))
    clear b2 B1
    go_wp2
    go_ret
    exact ⟨rfl, B2.out⟩
end Go.Proofs.YtmigcglcacpboaaDoor
