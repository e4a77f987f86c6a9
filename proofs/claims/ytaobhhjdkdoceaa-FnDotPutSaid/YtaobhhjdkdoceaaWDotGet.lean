/- The walk of FnExactDotGet. -/
import Derived.Test.YtaobhhjdkdoceaaDotGetS
import Derived.Test.YtaobhhjdkdoceaaDotGetI
namespace Go.Proofs.Ytaobhhjdkdoceaa
open Go Go.RowKit

theorem dotGetR_len (s : ByteArray) : (dotGetR s).1.length ≤ 800 := by
  by_cases h : 800 < s.size
  · rw [dotGetR_big h]; exact Nat.zero_le _
  · have := outs_len s
    rw [dotGetR_steps h]
    split
    · show (outsB s).length ≤ 800; omega
    · exact Nat.zero_le _

set_option maxHeartbeats 1600000 in
set_option maxRecDepth 100000 in
theorem wFnExactDotGet.walk (s : ByteArray) (w : World) (hs : s.size ≤ maxLen) (hm : MaxCell w) :
    Calls Try.prog 8 #[.string s] w fun e w' => e = .returned (.bool true) ∧ Below w.heap.size w w' := by
  unfold maxLen at hs
  have HM := Lib.hid hm
  clear hm
  by_cases hbig : 1048576 < s.size
  · go_enter Try.func8, Try.ntmps8
    go_wp2
    go_ret
    exact ⟨rfl, Below.refl _ _⟩
  have hlr : (dotGetR s).1.length ≤ 800 := dotGetR_len s
  have C1 := Lib.hid (fun W => specDotGet_any s W (by omega))
  have C2 := Lib.hid (fun W hW => implDotGet_any s W hW (by omega))
  generalize dotGetR s = Q at hlr C1 C2
  obtain ⟨R, okR⟩ := Q
  go_enter Try.func8, Try.ntmps8
  go_wp2_with fail
  refine (C1.out _).mono ?_
  rintro e w1 ⟨a1, c1, rfl, r1, b1⟩
  have R1 : Hid (Row w1 w.heap.size a1 c1 R) := Lib.hid r1
  have z1 := b1.size
  clear r1
  go_wp2_with fail
  refine (C2.out _ (HM.out.below b1 (.inl (Nat.le_refl _)))).mono ?_
  rintro e w2 ⟨a2, c2, rfl, r2, b2⟩
  have R2 : Hid (Row w2 w1.heap.size a2 c2 R) := Lib.hid r2
  have z2 := b2.size
  have N12 := Lib.hid (R1.out.ne r2 (Nat.le_refl _))
  have R12 := Lib.hid (R1.out.later b2)
  have B2 := b1.trans (b2.mono b1.size)
  clear r2 b1 b2
  go_wp2_with fail
  refine (eqStringS_same a2 a1 c2 c1 R _ R2.out.strs R12.out.strs (by omega)).mono ?_
  rintro e w3 ⟨rfl, n3, rfl⟩
  have b3 := below_drewN w2.heap.size w2 n3
  have z3 := b3.size
  have R13 := Lib.hid (R12.out.later b3)
  have R23 := Lib.hid (R2.out.later b3)
  have B3 := B2.trans (b3.mono B2.size)
  clear b3
  -- the answer is marked, and holds its marks
  go_wp2_with fail
  refine (markStringS_own w1.heap.size c2 1 a2 R _ R23.out (by omega) (by omega)).mono ?_
  rintro e w4 ⟨rfl, r4, g4⟩
  have z4 := g4.size
  have R24 := Lib.hid r4
  have R14 := Lib.hid (R13.out.other g4 N12.out.1)
  have B4 := B3.trans (below_grown R23.out g4 (by omega) B3.size)
  clear r4 g4
  go_wp2_with fail
  refine (heldStringS_own a2 c2 1 R.length _ R24.out.strs (by omega)).mono ?_
  rintro e w5 ⟨rfl, b5⟩
  have z5 := b5.size
  have R25 := Lib.hid (R24.out.later b5)
  have R15 := Lib.hid (R14.out.later b5)
  have B5 := B4.trans (b5.mono B4.size)
  clear b5
  -- another call's answer shares nothing with it
  go_wp2_with fail
  refine (C2.out _ (HM.out.below B5 (.inl (Nat.le_refl _)))).mono ?_
  rintro e w6 ⟨a6, c6, rfl, r6, b6⟩
  have R6 : Hid (Row w6 w5.heap.size a6 c6 R) := Lib.hid r6
  have R26 := Lib.hid (R25.out.later b6)
  have R16 := Lib.hid (R15.out.later b6)
  have B6 := B5.trans (b6.mono B5.size)
  clear r6 b6
  go_wp2_with fail
  refine (eqStringS_same a6 a1 c6 c1 R _ R6.out.strs R16.out.strs (by omega)).mono ?_
  rintro e w7 ⟨rfl, n7, rfl⟩
  have b7 := below_drewN w6.heap.size w6 n7
  have R27 := Lib.hid (R26.out.later b7)
  have B7 := B6.trans (b7.mono B6.size)
  clear b7
  go_wp2_with fail
  refine (heldStringS_own a2 c2 1 R.length _ R27.out.strs (by omega)).mono ?_
  rintro e w8 ⟨rfl, b8⟩
  have B8 := B7.trans (b8.mono B7.size)
  clear b8
  go_wp2
  go_ret
  exact ⟨rfl, B8⟩
end Go.Proofs.Ytaobhhjdkdoceaa
