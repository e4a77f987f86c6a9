/- Contracts: what a host says first, of the model and of the program. -/
import Derived.Test.YtckcjchkegknhaaDoorConfFns
namespace Go.Proofs.YtckcjchkegknhaaDoor
open Go Go.RowKit

set_option maxRecDepth 100000 in
theorem specSessHello_any (c : ConfD) (a1 : Option Addr) (c1 : Nat) (a2 : Option Addr) (c2 : Nat) (w : World) (hat : ConfAt w c a1 a2) (hsz : ConfSz 1048576 c) :
    Calls Tryd.prog 50 #[.agg (confV c a1 c1 a2 c2)] w fun e w' => e = .returned (.string (helloB c)) ∧ Below w.heap.size w w' := by
  have b0 : Below w.heap.size w (w.alloc (.cells (confV c a1 c1 a2 c2) 47)) := (Below.refl _ _).alloc (Nat.le_refl _) _
  have HA := Lib.hid (hat.below b0 (Nat.le_refl _))
  have HS := Lib.hid hsz
  have HF := Lib.hid (ThreeAt.new w (.string c.name) (.slice a1 c.own.length c1) (.slice a2 c.ways.length c2) 47)
  have z0 := hsz.nm
  clear hat hsz
  cases hc : confB c
  · have hq : Hid (helloB c = { data := #[] }) := Lib.hid (by unfold helloB; rw [hc]; rfl)
    have HC := Lib.hid hc
    clear hc
    go_enter Tryd.func50, Tryd.ntmps50
    go_wp2_with fail
    refine (l3ConfOk_any c a1 c1 a2 c2 _ HA.out HS.out).mono ?_
    rintro e w1 ⟨rfl, hb1⟩
    rw [HC.out]
    have B1 := b0.trans (hb1.mono b0.size)
    go_wp2
    go_ret
    exact ⟨ret_s hq.out.symm, B1⟩
  · have hq : Hid (helloB c = { data := #[50, 50, 48, 32] } ++ c.name) := Lib.hid (by unfold helloB; rw [hc]; rfl)
    have HC := Lib.hid hc
    clear hc
    go_enter Tryd.func50, Tryd.ntmps50
    go_wp2_with fail
    refine (l3ConfOk_any c a1 c1 a2 c2 _ HA.out HS.out).mono ?_
    rintro e w1 ⟨rfl, hb1⟩
    rw [HC.out]
    have B1 := b0.trans (hb1.mono b0.size)
    obtain ⟨g0, g1, g2⟩ := (HF.out.later hb1).cells
    go_wp2
    go_ret
    exact ⟨ret_s hq.out.symm, B1⟩

set_option maxRecDepth 100000 in
theorem implSessHello_any (c : ConfD) (a1 : Option Addr) (c1 : Nat) (a2 : Option Addr) (c2 : Nat) (w : World) (hm : HasMax w) (hat : ConfAt w c a1 a2) (hsz : ConfSz 1048576 c) :
    Calls Tryd.prog 49 #[.agg (confV c a1 c1 a2 c2)] w fun e w' => e = .returned (.string (helloB c)) ∧ Below w.heap.size w w' := by
  have b0 : Below w.heap.size w (w.alloc (.cells (confV c a1 c1 a2 c2) 47)) := (Below.refl _ _).alloc (Nat.le_refl _) _
  have HA := Lib.hid (hat.below b0 (Nat.le_refl _))
  have HS := Lib.hid hsz
  have HM := Lib.hid (hm.below b0 (Nat.le_refl _))
  have HF := Lib.hid (ThreeAt.new w (.string c.name) (.slice a1 c.own.length c1) (.slice a2 c.ways.length c2) 47)
  have z0 := hsz.nm
  clear hat hsz hm
  cases hc : confB c
  · have hq : Hid (helloB c = { data := #[] }) := Lib.hid (by unfold helloB; rw [hc]; rfl)
    have HC := Lib.hid hc
    clear hc
    go_enter Tryd.func49, Tryd.ntmps49
    go_wp2_with fail
    refine (implConfOk_any c a1 c1 a2 c2 _ HM.out HA.out HS.out).mono ?_
    rintro e w1 ⟨rfl, hb1⟩
    rw [HC.out]
    have B1 := b0.trans (hb1.mono b0.size)
    go_wp2
    go_ret
    exact ⟨ret_s hq.out.symm, B1⟩
  · have hq : Hid (helloB c = { data := #[50, 50, 48, 32] } ++ c.name) := Lib.hid (by unfold helloB; rw [hc]; rfl)
    have HC := Lib.hid hc
    clear hc
    go_enter Tryd.func49, Tryd.ntmps49
    go_wp2_with fail
    refine (implConfOk_any c a1 c1 a2 c2 _ HM.out HA.out HS.out).mono ?_
    rintro e w1 ⟨rfl, hb1⟩
    rw [HC.out]
    have B1 := b0.trans (hb1.mono b0.size)
    obtain ⟨g0, g1, g2⟩ := (HF.out.later hb1).cells
    go_wp2
    go_ret
    exact ⟨ret_s hq.out.symm, B1⟩
end Go.Proofs.YtckcjchkegknhaaDoor
