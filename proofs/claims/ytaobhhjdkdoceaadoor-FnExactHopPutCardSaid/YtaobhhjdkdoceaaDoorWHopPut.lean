/- The walk of FnExactHopPut. -/
import Derived.Test.YtaobhhjdkdoceaaDoorHopPut
import Derived.Test.YtaobhhjdkdoceaaDoorOwn
namespace Go.Proofs.YtaobhhjdkdoceaaDoor
open Go Go.RowKit

theorem hopPutR_len {nm : ByteArray} {xs : List ByteArray} (h : xs.length ≤ 1048576) : (hopPutR nm xs).1.length ≤ 1048576 := by
  unfold hopPutR
  split
  · rename_i hc
    simp only [Bool.and_eq_true, decide_eq_true_eq] at hc
    simp only [List.length_cons]; omega
  · exact Nat.zero_le _

set_option maxHeartbeats 1600000 in
set_option maxRecDepth 100000 in
theorem wFnExactHopPut.walk (nm : ByteArray) (ao : Option Addr) (cap : Nat) (xs : List ByteArray) (w : World) (hnm : nm.size ≤ maxLen) (hr : StrRow w ao xs) (hl : xs.length ≤ maxLen) (hs : ∀ x ∈ xs, x.size ≤ maxLen) (hm : HasMax w) :
    Calls Tryd.prog 16 #[.string nm, .slice ao xs.length cap] w fun e w' => e = .returned (.bool true) ∧ Below w.heap.size w w' := by
  unfold maxLen at hnm
  have HM := Lib.hid hm
  have HR := Lib.hid hr
  have HS := Lib.hid hs
  clear hr hs hm
  by_cases hbig : 1048576 < nm.size
  · go_enter Tryd.func16, Tryd.ntmps16
    go_wp2
    go_ret
    exact ⟨rfl, Below.refl _ _⟩
  by_cases hneg : leftB xs 1048576 < 0
  · go_enter Tryd.func16, Tryd.ntmps16
    go_wp2_with fail
    refine (szStringS_any ao cap xs 1048576 _ HR.out hl (by omega) (by omega) HS.out).mono ?_
    rintro e w1 ⟨rfl, rfl⟩
    go_wp2
    go_ret
    exact ⟨rfl, Below.refl _ _⟩
  obtain ⟨hl2, hs2⟩ := leftB_small hneg
  have HS2 := Lib.hid hs2
  have hlr := hopPutR_len (nm := nm) hl2
  generalize hR : hopPutR nm xs = R at hlr
  have HRe := Lib.hid hR
  clear hs2 hR
  go_enter Tryd.func16, Tryd.ntmps16
  go_wp2_with fail
  refine (szStringS_any ao cap xs 1048576 _ HR.out hl (by omega) (by omega) HS.out).mono ?_
  rintro e w1 ⟨rfl, rfl⟩
  -- what the model answers
  go_wp2_with fail
  refine (toStringS_row ao cap xs _ HR.out hl2).mono ?_
  rintro e w1 ⟨a1, c1, rfl, r1, b1⟩
  have z1 := b1.size
  have R1 := Lib.hid r1
  clear r1
  go_wp2_with fail
  refine (specHopPut_any nm a1 c1 xs _ (by omega) R1.out.strs hl2 HS2.out).mono ?_
  rw [HRe.out]
  rintro e w2 ⟨a2, c2, rfl, r2, b2⟩
  have z2 := b2.size
  have R2 : Hid (Row w2 w1.heap.size a2 c2 R.1) := Lib.hid r2
  have B2 := b1.trans (b2.mono b1.size)
  clear r2 b2
  -- what the program answers
  go_wp2_with fail
  refine (toStringS_row ao cap xs _ (HR.out.below B2 (Nat.le_refl _)) hl2).mono ?_
  rintro e w3 ⟨a3, c3, rfl, r3, b3⟩
  have z3 := b3.size
  have R3 := Lib.hid r3
  have R23 := Lib.hid (R2.out.later b3)
  have N23 := Lib.hid (R2.out.ne r3 (Nat.le_refl _))
  have B3 := B2.trans (b3.mono B2.size)
  clear r3 b3
  go_wp2_with fail
  refine (implHopPut_any nm a3 c3 xs _ (HM.out.below B3 (Nat.le_refl _)) (by omega) R3.out.strs hl2 HS2.out).mono ?_
  rw [HRe.out]
  rintro e w4 ⟨a4, c4, rfl, r4, b4⟩
  have z4 := b4.size
  have R4 : Hid (Row w4 w3.heap.size a4 c4 R.1) := Lib.hid r4
  have R24 := Lib.hid (R23.out.later b4)
  have R34 := Lib.hid (R3.out.later b4)
  have N34 := Lib.hid (R3.out.ne R4.out (Nat.le_refl _))
  have N24 := Lib.hid (R23.out.ne R4.out (Nat.le_refl _))
  have B4 := B3.trans (b4.mono B3.size)
  clear r4 b4
  -- they are the same
  go_wp2_with fail
  refine (eqStringS_same a4 a2 c4 c2 R.1 _ R4.out.strs R24.out.strs hlr).mono ?_
  rintro e w5 ⟨rfl, n5, rfl⟩
  have b5 := below_drewN w4.heap.size w4 n5
  have z5 := b5.size
  have R25 := Lib.hid (R24.out.later b5)
  have R35 := Lib.hid (R34.out.later b5)
  have R45 := Lib.hid (R4.out.later b5)
  have B5 := B4.trans (b5.mono B4.size)
  clear b5
  -- the argument reads as it did
  go_wp2_with fail
  refine (toStringS_row ao cap xs _ (HR.out.below B5 (Nat.le_refl _)) hl2).mono ?_
  rintro e w6 ⟨a6, c6, rfl, r6, b6⟩
  have z6 := b6.size
  have R6 := Lib.hid r6
  have R26 := Lib.hid (R25.out.later b6)
  have R36 := Lib.hid (R35.out.later b6)
  have R46 := Lib.hid (R45.out.later b6)
  have B6 := B5.trans (b6.mono B5.size)
  clear r6 b6
  go_wp2_with fail
  refine (eqStringS_same a3 a6 c3 c6 xs _ R36.out.strs R6.out.strs hl2).mono ?_
  rintro e w7 ⟨rfl, n7, rfl⟩
  have b7 := below_drewN w6.heap.size w6 n7
  have z7 := b7.size
  have R27 := Lib.hid (R26.out.later b7)
  have R37 := Lib.hid (R36.out.later b7)
  have R47 := Lib.hid (R46.out.later b7)
  have B7 := B6.trans (b7.mono B6.size)
  clear b7 R6
  -- the argument is marked: the answer stays
  have hk1 : w2.heap.size ≤ (w6.drewN n7).heap.size := by omega
  go_wp2_with fail
  refine (markStringS_own w2.heap.size c3 1 a3 xs _ R37.out hk1 (by omega)).mono ?_
  rintro e w8 ⟨rfl, r8, g8⟩
  have z8 := g8.size
  have R28 := Lib.hid (R27.out.other g8 N23.out.1)
  have R48 := Lib.hid (R47.out.other g8 N34.out.2)
  have B8 := B7.trans (below_grown R37.out g8 (by omega) B7.size)
  have G8 := Lib.hid g8
  clear r8 g8
  go_wp2_with fail
  refine (eqStringS_same a4 a2 c4 c2 R.1 _ R48.out.strs R28.out.strs hlr).mono ?_
  rintro e w9 ⟨rfl, n9, rfl⟩
  have b9 := below_drewN w8.heap.size w8 n9
  have z9 := b9.size
  have R29 := Lib.hid (R28.out.later b9)
  have R49 := Lib.hid (R48.out.later b9)
  have B9 := B8.trans (b9.mono B8.size)
  clear b9
  -- the answer is marked, and holds its marks
  have hk2 : w3.heap.size ≤ (w8.drewN n9).heap.size := by omega
  go_wp2_with fail
  refine (markStringS_own w3.heap.size c4 1 a4 R.1 _ R49.out hk2 (by omega)).mono ?_
  rintro e w10 ⟨rfl, r10, g10⟩
  have z10 := g10.size
  have R410 := Lib.hid r10
  have R210 := Lib.hid (R29.out.other g10 N24.out.1)
  have B10 := B9.trans (below_grown R49.out g10 (by omega) B9.size)
  clear r10 g10
  go_wp2_with fail
  refine (heldStringS_own a4 c4 1 R.1.length _ R410.out.strs (by omega)).mono ?_
  rintro e w11 ⟨rfl, b11⟩
  have z11 := b11.size
  have R411 := Lib.hid (R410.out.later b11)
  have R211 := Lib.hid (R210.out.later b11)
  have B11 := B10.trans (b11.mono B10.size)
  clear b11
  -- another call's answer shares nothing with it
  go_wp2_with fail
  refine (toStringS_row ao cap xs _ (HR.out.below B11 (Nat.le_refl _)) hl2).mono ?_
  rintro e w12 ⟨a12, c12, rfl, r12, b12⟩
  have z12 := b12.size
  have R12 := Lib.hid r12
  have R412 := Lib.hid (R411.out.later b12)
  have R212 := Lib.hid (R211.out.later b12)
  have B12 := B11.trans (b12.mono B11.size)
  clear r12 b12
  go_wp2_with fail
  refine (implHopPut_any nm a12 c12 xs _ (HM.out.below B12 (Nat.le_refl _)) (by omega) R12.out.strs hl2 HS2.out).mono ?_
  rw [HRe.out]
  rintro e w13 ⟨a13, c13, rfl, r13, b13⟩
  have z13 := b13.size
  have R13 : Hid (Row w13 w12.heap.size a13 c13 R.1) := Lib.hid r13
  have R413 := Lib.hid (R412.out.later b13)
  have R213 := Lib.hid (R212.out.later b13)
  have B13 := B12.trans (b13.mono B12.size)
  clear r13 b13
  go_wp2_with fail
  refine (eqStringS_same a13 a2 c13 c2 R.1 _ R13.out.strs R213.out.strs hlr).mono ?_
  rintro e w14 ⟨rfl, n14, rfl⟩
  have b14 := below_drewN w13.heap.size w13 n14
  have R414 := Lib.hid (R413.out.later b14)
  have B14 := B13.trans (b14.mono B13.size)
  clear b14
  go_wp2_with fail
  refine (heldStringS_own a4 c4 1 R.1.length _ R414.out.strs (by omega)).mono ?_
  rintro e w15 ⟨rfl, b15⟩
  have B15 := B14.trans (b15.mono B14.size)
  clear b15
  go_wp2
  go_ret
  exact ⟨rfl, B15⟩
end Go.Proofs.YtaobhhjdkdoceaaDoor
