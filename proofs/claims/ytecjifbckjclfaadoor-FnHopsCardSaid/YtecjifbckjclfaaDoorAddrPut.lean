/- Contracts: how an address is written; the walks of the laws on addresses. -/
import Derived.Test.YtecjifbckjclfaaDoorAddr
namespace Go.Proofs.YtecjifbckjclfaaDoor
open Go Go.RowKit

theorem implAddrPut_any (u d : ByteArray) (w : World) (hm : HasMax w) (hu : u.size ≤ 1048576) (hd : d.size ≤ 1048576) :
    Calls Tryd.prog 92 #[.agg #[.string u, .string d]] w fun e w' => e = .returned (.string (putB u d)) ∧ Below w.heap.size w w' := by
  have hm1 := hm.below ((Below.refl w.heap.size w).alloc (Nat.le_refl _) (.cells #[.string u, .string d] 33)) (Nat.le_refl _)
  have HM := Lib.hid hm1
  clear hm hm1
  cases hn : nullB u d
  · have HN := Lib.hid hn
    cases ha : addrB u d
    · have hq : Hid (putB u d = { data := #[] }) := Lib.hid (by unfold putB; rw [hn, ha]; rfl)
      have HA := Lib.hid ha
      clear ha hn
      go_enter Tryd.func92, Tryd.ntmps92
      go_wp2_with (first | (go_at_call 163; refine (isNull_is u d false HN.out _).mono ?_; rintro e w1 ⟨rfl, hb1⟩; have hc1 := hb1.cell (p := ⟨w.heap.size, 0, none⟩) (by simp); have hc2 := hb1.cell (p := ⟨w.heap.size, 1, none⟩) (by simp); have hz1 := hb1.size; simp only [World.size_alloc] at hz1; have hmx := Lib.hid (HM.out.below hb1 (Nat.le_refl _))) | (go_at_call 44; refine (implAddrOk_any u d _ hmx.out (by omega) (by omega)).mono ?_; rintro e w2 ⟨rfl, hb2⟩; rw [HA.out]))
      go_ret
      exact ⟨ret_s hq.out.symm, (((Below.refl _ _).alloc (Nat.le_refl _) _).trans (hb1.mono (by simp))).trans (hb2.mono (by omega))⟩
    · have hq : Hid (putB u d = wireB u d) := Lib.hid (by unfold putB; rw [hn, ha]; rfl)
      have HA := Lib.hid ha
      clear ha hn
      go_enter Tryd.func92, Tryd.ntmps92
      go_wp2_with (first | (go_at_call 163; refine (isNull_is u d false HN.out _).mono ?_; rintro e w1 ⟨rfl, hb1⟩; have hc1 := hb1.cell (p := ⟨w.heap.size, 0, none⟩) (by simp); have hc2 := hb1.cell (p := ⟨w.heap.size, 1, none⟩) (by simp); have hz1 := hb1.size; simp only [World.size_alloc] at hz1; have hmx := Lib.hid (HM.out.below hb1 (Nat.le_refl _))) | (go_at_call 44; refine (implAddrOk_any u d _ hmx.out (by omega) (by omega)).mono ?_; rintro e w2 ⟨rfl, hb2⟩; rw [HA.out]; have hc3 := hb2.cell (p := ⟨w.heap.size, 0, none⟩) (by simp; omega); have hc4 := hb2.cell (p := ⟨w.heap.size, 1, none⟩) (by simp; omega)))
      go_ret
      exact ⟨ret_s (by rw [hq.out]; rfl), (((Below.refl _ _).alloc (Nat.le_refl _) _).trans (hb1.mono (by simp))).trans (hb2.mono (by omega))⟩
  · have HN := Lib.hid hn
    have hq : Hid (putB u d = { data := #[60, 62] }) := Lib.hid (by unfold putB; rw [hn]; rfl)
    clear hn
    go_enter Tryd.func92, Tryd.ntmps92
    go_wp2_with (go_at_call 163; refine (isNull_is u d true HN.out _).mono ?_; rintro e w1 ⟨rfl, hb1⟩)
    go_ret
    exact ⟨ret_s hq.out.symm, ((Below.refl _ _).alloc (Nat.le_refl _) _).trans (hb1.mono (by simp))⟩

end Go.Proofs.YtecjifbckjclfaaDoor
