/- The walk of FnExactMarkOf. -/
import Derived.Test.YtfacdiimoncnnaaMarkOf
import Derived.Test.YtfacdiimoncnnaaCopy
import Derived.Test.YtfacdiimoncnnaaSmall
namespace Go.Proofs.Ytfacdiimoncnnaa
open Go Go.RowKit

theorem wFnExactMarkOf.walk (ao : Option Addr) (cap : Nat) (xs : List ByteArray) (w : World) (hr : StrRow w ao xs) (hl : xs.length ≤ maxLen) (hs : ∀ x ∈ xs, x.size ≤ maxLen) (_hm : True) :
    Calls Try.prog 3 #[.slice ao xs.length cap] w fun e w' => e = .returned (.bool true) ∧ Below w.heap.size w w' := by
  have HR := Lib.hid hr
  have HS := Lib.hid hs
  clear hr hs
  by_cases hneg : leftB xs 1048576 < 0
  · go_enter Try.func3, Try.ntmps3
    go_wp2_with fail
    refine (szStringS_any ao cap xs 1048576 _ HR.out hl (by omega) (by omega) HS.out).mono ?_
    rintro e w1 ⟨rfl, rfl⟩
    go_wp2
    go_ret
    exact ⟨rfl, Below.refl _ _⟩
  · obtain ⟨hl2, hs2⟩ := leftB_small hneg
    have HS2 := Lib.hid hs2
    clear hs2
    go_enter Try.func3, Try.ntmps3
    go_wp2_with fail
    refine (szStringS_any ao cap xs 1048576 _ HR.out hl (by omega) (by omega) HS.out).mono ?_
    rintro e w1 ⟨rfl, rfl⟩
    go_wp2_with fail
    refine (toStringS_any ao cap xs _ HR.out hl2).mono ?_
    rintro e w1 ⟨a1, c1, rfl, ho1, B1⟩
    have R1 := Lib.hid (StrRow.of_own ho1)
    clear ho1
    go_wp2_with fail
    refine (specMarkOf_any a1 c1 xs _ R1.out hl2 HS2.out).mono ?_
    rintro e w2 ⟨rfl, rfl⟩
    go_wp2_with fail
    refine (toStringS_any ao cap xs _ (HR.out.below B1 (Nat.le_refl _)) hl2).mono ?_
    rintro e w3 ⟨a2, c2, rfl, ho2, hb2⟩
    have R2 := Lib.hid (StrRow.of_own ho2)
    have B2 := B1.trans (hb2.mono B1.size)
    clear ho2 hb2
    go_wp2_with fail
    refine (implMarkOf_any a2 c2 xs _ R2.out hl2 HS2.out).mono ?_
    rintro e w4 ⟨rfl, rfl⟩
    go_wp2_with fail
    refine (toStringS_any ao cap xs _ (HR.out.below B2 (Nat.le_refl _)) hl2).mono ?_
    rintro e w5 ⟨a4, c4, rfl, ho4, hb4⟩
    have R4 := Lib.hid (StrRow.of_own ho4)
    have R5 := Lib.hid (R2.out.below hb4 (Nat.le_refl _))
    have B4 := B2.trans (hb4.mono B2.size)
    clear ho4 hb4
    go_wp2_with fail
    refine (eqStringS_same a2 a4 c2 c4 xs _ R5.out R4.out hl2).mono ?_
    rintro e w6 ⟨rfl, n, rfl⟩
    go_wp2
    go_ret
    exact ⟨rfl, drewN_below B4 n⟩
end Go.Proofs.Ytfacdiimoncnnaa
