/- The walk of FnExactDotPut. -/
import Derived.Test.YtaobhhjdkdoceaaDotPut
namespace Go.Proofs.Ytaobhhjdkdoceaa
open Go Go.RowKit

theorem leftB_small {xs : List ByteArray} (h : ¬ leftB xs 1048576 < 0) : xs.length ≤ 1048576 ∧ ∀ x ∈ xs, x.size ≤ 1048576 := by
  unfold leftB at h
  split at h
  · refine ⟨by omega, fun x hx => ?_⟩
    have := sumB_mem hx
    omega
  · exact absurd (show (-1 : Int) < 0 by decide) h

theorem drewN_below {B : Nat} {a w : World} (h : Below B a w) : ∀ n, Below B a (w.drewN n)
  | 0 => h
  | n + 1 => (drewN_below h n).drew

theorem wFnExactDotPut.walk (ao : Option Addr) (cap : Nat) (xs : List ByteArray) (w : World) (hr : StrRow w ao xs) (hl : xs.length ≤ maxLen) (hs : ∀ x ∈ xs, x.size ≤ maxLen) (_hm : ∃ m : Int, w.cell? ⟨0, 0, none⟩ = some (.int .i64 m)) :
    Calls Try.prog 6 #[.slice ao xs.length cap] w fun e w' => e = .returned (.bool true) ∧ Below w.heap.size w w' := by
  have HR := Lib.hid hr
  have HS := Lib.hid hs
  clear hr hs
  by_cases hneg : leftB xs 1048576 < 0
  · go_enter Try.func6, Try.ntmps6
    go_wp2_with fail
    refine (szStringS_any ao cap xs 1048576 _ HR.out hl (by omega) (by omega) HS.out).mono ?_
    rintro e w1 ⟨rfl, rfl⟩
    go_wp2
    go_ret
    exact ⟨rfl, Below.refl _ _⟩
  · obtain ⟨hl2, hs2⟩ := leftB_small hneg
    have HS2 := Lib.hid (fun x hx => Nat.le_trans (hs2 x hx) (show 1048576 ≤ maxLen by unfold maxLen; omega))
    clear hs2
    go_enter Try.func6, Try.ntmps6
    go_wp2_with fail
    refine (szStringS_any ao cap xs 1048576 _ HR.out hl (by omega) (by omega) HS.out).mono ?_
    rintro e w1 ⟨rfl, rfl⟩
    go_wp2_with fail
    refine (toStringS_any ao cap xs _ HR.out hl2).mono ?_
    rintro e w1 ⟨a1, c1, rfl, ho1, hb1⟩
    have R1 := Lib.hid (StrRow.of_own ho1)
    clear ho1
    go_wp2_with fail
    refine (specDotPut_any a1 c1 xs _ R1.out hl HS2.out).mono ?_
    rintro e w2 ⟨rfl, rfl⟩
    go_wp2_with fail
    refine (toStringS_any ao cap xs _ (HR.out.below hb1 (Nat.le_refl _)) hl2).mono ?_
    rintro e w2 ⟨a2, c2, rfl, ho2, hb2⟩
    have R2 := Lib.hid (StrRow.of_own ho2)
    have B2 := hb1.trans (hb2.mono hb1.size)
    clear ho2 hb2
    go_wp2_with fail
    refine (implDotPut_any a2 c2 xs _ R2.out hl HS2.out).mono ?_
    rintro e w3 ⟨rfl, hb3⟩
    have R3 := Lib.hid (R2.out.below hb3 (Nat.le_refl _))
    have B3 := B2.trans (hb3.mono B2.size)
    clear hb3
    go_wp2_with fail
    refine (toStringS_any ao cap xs _ (HR.out.below B3 (Nat.le_refl _)) hl2).mono ?_
    rintro e w4 ⟨a4, c4, rfl, ho4, hb4⟩
    have R4 := Lib.hid (StrRow.of_own ho4)
    have R5 := Lib.hid (R3.out.below hb4 (Nat.le_refl _))
    have B4 := B3.trans (hb4.mono B3.size)
    clear ho4 hb4
    go_wp2_with fail
    refine (eqStringS_same a2 a4 c2 c4 xs _ R5.out R4.out hl2).mono ?_
    rintro e w5 ⟨rfl, n, rfl⟩
    go_wp2
    go_ret
    exact ⟨rfl, drewN_below B4 n⟩
end Go.Proofs.Ytaobhhjdkdoceaa
