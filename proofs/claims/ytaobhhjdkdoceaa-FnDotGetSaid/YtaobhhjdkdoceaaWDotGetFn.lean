/- The walk of FnDotGet. -/
import Derived.Test.YtaobhhjdkdoceaaSa
namespace Go.Proofs.Ytaobhhjdkdoceaa
open Go Go.RowKit

set_option maxHeartbeats 2000000 in
set_option maxRecDepth 100000 in
theorem wFnDotGet.walk (ao : Option Addr) (len cap : Nat) (w : World) (hr : ByteRow w ao len) (hl : len ≤ cap) (hc : cap ≤ maxLen) (hm : MaxCell w) :
    Calls Try.prog 4 #[.slice ao len cap] w fun e w' => e = .returned (.bool true) ∧ Below w.heap.size w w' := by
  have HM := Lib.hid hm
  have hc' := hc
  unfold maxLen at hc'
  clear hm
  by_cases hbig : 1048576 < len
  · clear hr
    go_enter Try.func4, Try.ntmps4
    go_wp2
    go_ret
    exact ⟨rfl, Below.refl _ _⟩
  have CD := Lib.hid (drawDotGet_any ao len cap w hr hl hc)
  clear hr hc
  go_enter Try.func4, Try.ntmps4
  go_wp2_with fail
  refine CD.out.mono ?_
  rintro e w1 ⟨s, zs, rfl, b1⟩
  have B1 := Lib.hid b1
  have M1 := Lib.hid (HM.out.below b1 (.inl (Nat.le_refl _)))
  clear b1 CD
  have hlr : (dotGetR s).1.length ≤ 800 := dotGetR_len s
  have CI := Lib.hid (fun W hW => implDotGet_any s W hW (by omega))
  have CS := Lib.hid (fun W => specDotGet_any s W (by omega))
  have HQ := Lib.hid (fun xs (h : dotGetR s = (xs, true)) => dotGetR_put h)
  have HQ2 := Lib.hid (fun xs (h : dotGetR s = (xs, true)) => dotGetR_more h)
  have HQ3 := Lib.hid (fun xs (h : dotGetR s = (xs, true)) => bodyB_bounds (dotGetR_inv h).2.1)
  have hz2 : (moreDot s).size ≤ 800 := by unfold moreDot; rw [ByteArray.size_append]; show s.size + 3 ≤ 800; omega
  have CM := Lib.hid (fun W hW => implDotGet_any (moreDot s) W hW (by omega))
  generalize dotGetR s = Q at hlr CI CS HQ HQ2 HQ3
  obtain ⟨xs, ok⟩ := Q
  go_wp2_with fail
  refine (CI.out _ M1.out).mono ?_
  rintro e w2 ⟨a2, c2, rfl, r2, b2⟩
  have R2 := Lib.hid (StrRow.of_own r2)
  have B2 := Lib.hid (B1.out.trans (b2.mono B1.out.size))
  have M2 := Lib.hid (M1.out.below b2 (.inl (Nat.le_refl _)))
  clear r2 b2 CI
  go_wp2_with fail
  refine (CS.out _).mono ?_
  rintro e w3 ⟨a3, c3, rfl, r3, b3⟩
  have R3 := Lib.hid (StrRow.of_own r3)
  have R23 := Lib.hid (R2.out.below b3 (Nat.le_refl _))
  have B3 := Lib.hid (B2.out.trans (b3.mono B2.out.size))
  have M3 := Lib.hid (M2.out.below b3 (.inl (Nat.le_refl _)))
  clear r3 b3 CS
  cases ok
  · go_wp2_with fail
    refine (saTexts_same a2 a3 c2 c3 xs _ R23.out R3.out (by omega)).mono ?_
    rintro e w4 ⟨rfl, n4, rfl⟩
    have b4 := below_drewN w3.heap.size w3 n4
    have R34 := Lib.hid (R3.out.below b4 (Nat.le_refl _))
    have R24 := Lib.hid (R23.out.below b4 (Nat.le_refl _))
    have B4 := Lib.hid (B3.out.trans (b4.mono B3.out.size))
    clear b4
    go_wp2_with fail
    refine (saTexts_same a2 a3 c2 c3 xs _ R24.out R34.out (by omega)).mono ?_
    rintro e w5 ⟨rfl, n5, rfl⟩
    have B5 := Lib.hid (B4.out.trans ((below_drewN _ _ n5).mono B4.out.size))
    go_wp2
    go_ret
    exact ⟨rfl, B3.out.trans ((below_drewN _ w3 (n4 + n5)).mono B3.out.size)⟩
  · have hput := HQ.out xs rfl
    rw [HQ2.out xs rfl] at CM
    obtain ⟨h12, h40⟩ := HQ3.out xs rfl
    have H40 : Hid (∀ x ∈ xs, x.size ≤ maxLen) := Lib.hid fun x hx => Nat.le_trans (h40 x hx) (by unfold maxLen; omega)
    have HPut := Lib.hid hput
    clear h40 hput
    go_wp2_with fail
    refine (saTexts_same a2 a3 c2 c3 xs _ R23.out R3.out (by omega)).mono ?_
    rintro e w4 ⟨rfl, n4, rfl⟩
    have b4 := below_drewN w3.heap.size w3 n4
    have R24 := Lib.hid (R23.out.below b4 (Nat.le_refl _))
    have B4 := Lib.hid (B3.out.trans (b4.mono B3.out.size))
    have M4 := Lib.hid (M3.out.below b4 (.inl (Nat.le_refl _)))
    clear b4
    go_wp2_with fail
    refine (CM.out _ M4.out).mono ?_
    rintro e w5 ⟨a5, c5, rfl, r5, b5⟩
    have R25 := Lib.hid (R24.out.below b5 (Nat.le_refl _))
    have B5 := Lib.hid (B4.out.trans (b5.mono B4.out.size))
    clear r5 b5
    go_wp2_with fail
    refine (implDotPut_any a2 c2 xs _ R25.out (by unfold maxLen; omega) H40.out).mono ?_
    rintro e w6 ⟨rfl, b6⟩
    rw [HPut.out]
    have B6 := Lib.hid (B5.out.trans (b6.mono B5.out.size))
    clear b6
    go_wp2
    go_ret
    exact ⟨rfl, B6.out⟩
end Go.Proofs.Ytaobhhjdkdoceaa
