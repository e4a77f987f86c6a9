/- Contracts: how an address is written; the walks of the laws on addresses. -/
import Derived.Test.YtaobhhjdkdoceaaDoorAddr
namespace Go.Proofs.YtaobhhjdkdoceaaDoor
open Go Go.RowKit

theorem specAddrPut_any (u d : ByteArray) (w : World) (hu : u.size ≤ 1048576) (hd : d.size ≤ 1048576) :
    Calls Tryd.prog 36 #[.agg #[.string u, .string d]] w fun e w' => e = .returned (.string (putB u d)) ∧ Below w.heap.size w w' := by
  cases ha : addrB u d
  · cases hn : nullB u d
    · have hq : Hid (putB u d = { data := #[] }) := Lib.hid (by unfold putB; rw [hn, ha]; rfl)
      have HA := Lib.hid ha
      have HN := Lib.hid hn
      clear ha hn
      go_enter Tryd.func36, Tryd.ntmps36
      go_wp2_with (first | (go_at_call 69; refine (l1AddrOk_any u d _ (by omega) (by omega)).mono ?_; rintro e w1 ⟨rfl, hb1⟩; rw [HA.out]; have hc1 := hb1.cell (p := ⟨w.heap.size, 0, none⟩) (by simp); have hc2 := hb1.cell (p := ⟨w.heap.size, 1, none⟩) (by simp)) | (go_at_call 83; refine (l1Null_is u d false HN.out _).mono ?_; rintro e w2 ⟨rfl, hb2⟩))
      go_ret
      exact ⟨ret_s hq.out.symm, (((Below.refl _ _).alloc (Nat.le_refl _) _).trans (hb1.mono (by simp))).trans (hb2.mono (by have := hb1.size; simp at this; omega))⟩
    · have hq : Hid (putB u d = l1PutB u d) := Lib.hid (by unfold putB l1PutB; rw [hn]; rfl)
      have HA := Lib.hid ha
      have HN := Lib.hid hn
      clear ha hn
      go_enter Tryd.func36, Tryd.ntmps36
      go_wp2_with (first | (go_at_call 69; refine (l1AddrOk_any u d _ (by omega) (by omega)).mono ?_; rintro e w1 ⟨rfl, hb1⟩; rw [HA.out]; have hc1 := hb1.cell (p := ⟨w.heap.size, 0, none⟩) (by simp); have hc2 := hb1.cell (p := ⟨w.heap.size, 1, none⟩) (by simp); have hz1 := hb1.size; simp only [World.size_alloc] at hz1) | (go_at_call 83; refine (l1Null_is u d true HN.out _).mono ?_; rintro e w2 ⟨rfl, hb2⟩; have hc3 := hb2.cell (p := ⟨w.heap.size, 0, none⟩) (by simp; omega); have hc4 := hb2.cell (p := ⟨w.heap.size, 1, none⟩) (by simp; omega)) | (go_at_call 84; refine (l1Put_any u d _ hu hd).mono ?_; rintro e w3 ⟨rfl, hb3⟩))
      go_ret
      exact ⟨ret_s hq.out.symm, (((((Below.refl _ _).alloc (Nat.le_refl _) _).trans (hb1.mono (by simp))).trans (hb2.mono (by omega)))).trans (hb3.mono (by have := hb2.size; omega))⟩
  · cases hn : nullB u d
    · have hq : Hid (putB u d = l1PutB u d) := Lib.hid (by unfold putB l1PutB; rw [hn, ha]; rfl)
      have HA := Lib.hid ha
      clear ha hn
      go_enter Tryd.func36, Tryd.ntmps36
      go_wp2_with (first | (go_at_call 69; refine (l1AddrOk_any u d _ (by omega) (by omega)).mono ?_; rintro e w1 ⟨rfl, hb1⟩; rw [HA.out]; have hc1 := hb1.cell (p := ⟨w.heap.size, 0, none⟩) (by simp); have hc2 := hb1.cell (p := ⟨w.heap.size, 1, none⟩) (by simp); have hz1 := hb1.size; simp only [World.size_alloc] at hz1) | (go_at_call 84; refine (l1Put_any u d _ hu hd).mono ?_; rintro e w3 ⟨rfl, hb3⟩))
      go_ret
      exact ⟨ret_s hq.out.symm, ((((Below.refl _ _).alloc (Nat.le_refl _) _).trans (hb1.mono (by simp)))).trans (hb3.mono (by omega))⟩
    · rw [addrB_null hn] at ha
      cases ha

theorem implAddrPut_any (u d : ByteArray) (w : World) (hm : HasMax w) (hu : u.size ≤ 1048576) (hd : d.size ≤ 1048576) :
    Calls Tryd.prog 22 #[.agg #[.string u, .string d]] w fun e w' => e = .returned (.string (putB u d)) ∧ Below w.heap.size w w' := by
  have hm1 := hm.below ((Below.refl w.heap.size w).alloc (Nat.le_refl _) (.cells #[.string u, .string d] 25)) (Nat.le_refl _)
  have HM := Lib.hid hm1
  clear hm hm1
  cases hn : nullB u d
  · have HN := Lib.hid hn
    cases ha : addrB u d
    · have hq : Hid (putB u d = { data := #[] }) := Lib.hid (by unfold putB; rw [hn, ha]; rfl)
      have HA := Lib.hid ha
      clear ha hn
      go_enter Tryd.func22, Tryd.ntmps22
      go_wp2_with (first | (go_at_call 70; refine (isNull_is u d false HN.out _).mono ?_; rintro e w1 ⟨rfl, hb1⟩; have hc1 := hb1.cell (p := ⟨w.heap.size, 0, none⟩) (by simp); have hc2 := hb1.cell (p := ⟨w.heap.size, 1, none⟩) (by simp); have hz1 := hb1.size; simp only [World.size_alloc] at hz1; have hmx := Lib.hid (HM.out.below hb1 (Nat.le_refl _))) | (go_at_call 37; refine (implAddrOk_any u d _ hmx.out (by omega) (by omega)).mono ?_; rintro e w2 ⟨rfl, hb2⟩; rw [HA.out]))
      go_ret
      exact ⟨ret_s hq.out.symm, (((Below.refl _ _).alloc (Nat.le_refl _) _).trans (hb1.mono (by simp))).trans (hb2.mono (by omega))⟩
    · have hq : Hid (putB u d = wireB u d) := Lib.hid (by unfold putB; rw [hn, ha]; rfl)
      have HA := Lib.hid ha
      clear ha hn
      go_enter Tryd.func22, Tryd.ntmps22
      go_wp2_with (first | (go_at_call 70; refine (isNull_is u d false HN.out _).mono ?_; rintro e w1 ⟨rfl, hb1⟩; have hc1 := hb1.cell (p := ⟨w.heap.size, 0, none⟩) (by simp); have hc2 := hb1.cell (p := ⟨w.heap.size, 1, none⟩) (by simp); have hz1 := hb1.size; simp only [World.size_alloc] at hz1; have hmx := Lib.hid (HM.out.below hb1 (Nat.le_refl _))) | (go_at_call 37; refine (implAddrOk_any u d _ hmx.out (by omega) (by omega)).mono ?_; rintro e w2 ⟨rfl, hb2⟩; rw [HA.out]; have hc3 := hb2.cell (p := ⟨w.heap.size, 0, none⟩) (by simp; omega); have hc4 := hb2.cell (p := ⟨w.heap.size, 1, none⟩) (by simp; omega)))
      go_ret
      exact ⟨ret_s (by rw [hq.out]; rfl), (((Below.refl _ _).alloc (Nat.le_refl _) _).trans (hb1.mono (by simp))).trans (hb2.mono (by omega))⟩
  · have HN := Lib.hid hn
    have hq : Hid (putB u d = { data := #[60, 62] }) := Lib.hid (by unfold putB; rw [hn]; rfl)
    clear hn
    go_enter Tryd.func22, Tryd.ntmps22
    go_wp2_with (go_at_call 70; refine (isNull_is u d true HN.out _).mono ?_; rintro e w1 ⟨rfl, hb1⟩)
    go_ret
    exact ⟨ret_s hq.out.symm, ((Below.refl _ _).alloc (Nat.le_refl _) _).trans (hb1.mono (by simp))⟩

theorem wFnExactAddrOk.walk (u d : ByteArray) (w : World) (hu : u.size ≤ maxLen) (hd : d.size ≤ maxLen) (hm : HasMax w) :
    Calls Tryd.prog 10 #[.agg #[.string u, .string d]] w fun e w' => e = .returned (.bool true) ∧ Below w.heap.size w w' := by
  unfold maxLen at hu hd
  have HM := Lib.hid hm
  clear hm
  by_cases hl : (u.size : Int) + d.size ≤ 1048576
  · have hq : Hid (leftA u d 1048576 = 1048576 - u.size - d.size) := Lib.hid (by unfold leftA; rw [if_pos hl])
    go_enter Tryd.func10, Tryd.ntmps10
    go_wp2_with fail
    refine (szAddr_any u d 1048576 _ (by omega) (by omega) hu hd).mono ?_
    rintro e w1 ⟨rfl, hb1⟩
    rw [hq.out]
    have hc1 := hb1.cell (p := ⟨w.heap.size, 0, none⟩) (by simp)
    have hc2 := hb1.cell (p := ⟨w.heap.size, 1, none⟩) (by simp)
    have hz1 := hb1.size
    simp only [World.size_alloc] at hz1
    go_wp2_with fail
    refine (toAddr_any u d _).mono ?_
    rintro e w2 ⟨rfl, hb2⟩
    have hc3 := hb2.cell (p := ⟨w.heap.size, 0, none⟩) (by simp; omega)
    have hc4 := hb2.cell (p := ⟨w.heap.size, 1, none⟩) (by simp; omega)
    have hz2 := hb2.size
    go_wp2_with fail
    refine (specAddrOk_any u d _ (by omega) (by omega)).mono ?_
    rintro e w3 ⟨rfl, hb3⟩
    have hc5 := hb3.cell (p := ⟨w.heap.size, 0, none⟩) (by simp; omega)
    have hc6 := hb3.cell (p := ⟨w.heap.size, 1, none⟩) (by simp; omega)
    have hz3 := hb3.size
    go_wp2_with fail
    refine (toAddr_any u d _).mono ?_
    rintro e w4 ⟨rfl, hb4⟩
    have hz4 := hb4.size
    have hall : Below w.heap.size w w4 := ((((Below.refl _ _).alloc (Nat.le_refl _) _).trans (hb1.mono (by simp))).trans (hb2.mono (by omega))).trans ((hb3.mono (by omega)).trans (hb4.mono (by omega)))
    go_wp2_with fail
    refine (implAddrOk_any u d _ (HM.out.below hall (Nat.le_refl _)) (by omega) (by omega)).mono ?_
    rintro e w5 ⟨rfl, hb5⟩
    go_wp2
    go_ret
    exact ⟨rfl, hall.trans (hb5.mono (by omega))⟩
  · have hq : Hid (leftA u d 1048576 = -1) := Lib.hid (by unfold leftA; rw [if_neg hl])
    go_enter Tryd.func10, Tryd.ntmps10
    go_wp2_with fail
    refine (szAddr_any u d 1048576 _ (by omega) (by omega) hu hd).mono ?_
    rintro e w1 ⟨rfl, hb1⟩
    rw [hq.out]
    go_wp2
    go_ret
    exact ⟨rfl, ((Below.refl _ _).alloc (Nat.le_refl _) _).trans (hb1.mono (by simp))⟩

theorem wFnExactAddrPut.walk (u d : ByteArray) (w : World) (hu : u.size ≤ maxLen) (hd : d.size ≤ maxLen) (hm : HasMax w) :
    Calls Tryd.prog 11 #[.agg #[.string u, .string d]] w fun e w' => e = .returned (.bool true) ∧ Below w.heap.size w w' := by
  unfold maxLen at hu hd
  have HM := Lib.hid hm
  clear hm
  by_cases hl : (u.size : Int) + d.size ≤ 1048576
  · have hq : Hid (leftA u d 1048576 = 1048576 - u.size - d.size) := Lib.hid (by unfold leftA; rw [if_pos hl])
    go_enter Tryd.func11, Tryd.ntmps11
    go_wp2_with fail
    refine (szAddr_any u d 1048576 _ (by omega) (by omega) hu hd).mono ?_
    rintro e w1 ⟨rfl, hb1⟩
    rw [hq.out]
    have hc1 := hb1.cell (p := ⟨w.heap.size, 0, none⟩) (by simp)
    have hc2 := hb1.cell (p := ⟨w.heap.size, 1, none⟩) (by simp)
    have hz1 := hb1.size
    simp only [World.size_alloc] at hz1
    go_wp2_with fail
    refine (toAddr_any u d _).mono ?_
    rintro e w2 ⟨rfl, hb2⟩
    have hc3 := hb2.cell (p := ⟨w.heap.size, 0, none⟩) (by simp; omega)
    have hc4 := hb2.cell (p := ⟨w.heap.size, 1, none⟩) (by simp; omega)
    have hz2 := hb2.size
    go_wp2_with fail
    refine (specAddrPut_any u d _ (by omega) (by omega)).mono ?_
    rintro e w3 ⟨rfl, hb3⟩
    have hc5 := hb3.cell (p := ⟨w.heap.size, 0, none⟩) (by simp; omega)
    have hc6 := hb3.cell (p := ⟨w.heap.size, 1, none⟩) (by simp; omega)
    have hz3 := hb3.size
    go_wp2_with fail
    refine (toAddr_any u d _).mono ?_
    rintro e w4 ⟨rfl, hb4⟩
    have hz4 := hb4.size
    have hall : Below w.heap.size w w4 := ((((Below.refl _ _).alloc (Nat.le_refl _) _).trans (hb1.mono (by simp))).trans (hb2.mono (by omega))).trans ((hb3.mono (by omega)).trans (hb4.mono (by omega)))
    go_wp2_with fail
    refine (implAddrPut_any u d _ (HM.out.below hall (Nat.le_refl _)) (by omega) (by omega)).mono ?_
    rintro e w5 ⟨rfl, hb5⟩
    go_wp2
    go_ret
    exact ⟨rfl, hall.trans (hb5.mono (by omega))⟩
  · have hq : Hid (leftA u d 1048576 = -1) := Lib.hid (by unfold leftA; rw [if_neg hl])
    go_enter Tryd.func11, Tryd.ntmps11
    go_wp2_with fail
    refine (szAddr_any u d 1048576 _ (by omega) (by omega) hu hd).mono ?_
    rintro e w1 ⟨rfl, hb1⟩
    rw [hq.out]
    go_wp2
    go_ret
    exact ⟨rfl, ((Below.refl _ _).alloc (Nat.le_refl _) _).trans (hb1.mono (by simp))⟩
end Go.Proofs.YtaobhhjdkdoceaaDoor
