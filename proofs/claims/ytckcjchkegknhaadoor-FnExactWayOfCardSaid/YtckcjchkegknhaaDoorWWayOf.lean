/- The walk of FnExactWayOf. -/
import Derived.Test.YtckcjchkegknhaaDoorWayOf
import Derived.Deep.RegionWith
namespace Go.Proofs.YtckcjchkegknhaaDoor
open Go Go.RowKit

set_option maxHeartbeats 3200000 in
set_option maxRecDepth 100000 in
theorem wFnExactWayOf.walk (c : ConfD) (a1 : Option Addr) (c1 : Nat) (a2 : Option Addr) (c2 : Nat) (d : ByteArray) (w : World) (hat : ConfAt w c a1 a2) (hsz : ConfSz maxLen c) (hd : d.size ≤ maxLen) (hm : HasMax w) :
    Calls Tryd.prog 15 #[.agg (confV c a1 c1 a2 c2), .string d] w fun e w' => e = .returned (.bool true) ∧ Below w.heap.size w w' := by
  have HM := Lib.hid hm
  have HA := Lib.hid hat
  have HS := Lib.hid hsz
  have A0 := Lib.hid (ThreeAt.new w (.string c.name) (.slice a1 c.own.length c1) (.slice a2 c.ways.length c2) 89)
  have b0 : Below w.heap.size w (w.alloc (.cells (confV c a1 c1 a2 c2) 89)) := (Below.refl _ _).alloc (Nat.le_refl _) _
  clear hm hat hsz
  unfold maxLen at hd
  by_cases hbig : 1048576 < d.size
  · go_enter Tryd.func15, Tryd.ntmps15
    go_wp2
    go_ret
    exact ⟨rfl, b0⟩
  have hd1 : d.size ≤ 1048576 := by omega
  obtain ⟨l, hl⟩ : ∃ l, leftC c 1048576 = l := ⟨_, rfl⟩
  by_cases hneg : l < 0
  · have HL := Lib.hid hl
    clear hl
    go_enter Tryd.func15, Tryd.ntmps15
    go_wp2_with fail
    refine (szConf_any c a1 c1 a2 c2 1048576 _ (HA.out.below b0 (Nat.le_refl _)) HS.out (by omega) (by omega)).mono ?_
    rintro e w1 ⟨rfl, hb1⟩
    rw [HL.out]
    have B1 := b0.trans (hb1.mono b0.size)
    go_wp2
    go_ret
    exact ⟨rfl, B1⟩
  have HZ : Hid (ConfSz 1048576 c) := Lib.hid (leftC_small (left := 1048576) (by rw [hl]; exact hneg) (by omega) (by omega))
  have z1 := HZ.out.owl
  have z2 := HZ.out.wal
  have HL := Lib.hid hl
  obtain ⟨v, hv⟩ : ∃ v, wayB c d = v := ⟨_, rfl⟩
  have HV := Lib.hid hv
  clear hl hv
  go_enter Tryd.func15, Tryd.ntmps15
  go_wp2_with fail
  refine (szConf_any c a1 c1 a2 c2 1048576 _ (HA.out.below b0 (Nat.le_refl _)) HS.out (by omega) (by omega)).mono ?_
  rintro e w1 ⟨rfl, hb1⟩
  rw [HL.out]
  have B1 := b0.trans (hb1.mono b0.size)
  have A1 := Lib.hid (A0.out.later hb1)
  clear hb1 b0
  obtain ⟨g0, g1, g2⟩ := A1.out.cells
  go_wp2_with fail
  refine (toConf_any c a1 c1 a2 c2 _ (HA.out.below B1 (Nat.le_refl _)) HZ.out).mono ?_
  rintro e w2 ⟨e1, d1, e2, d2, rfl, o2, hb2⟩
  have B2 := B1.trans (hb2.mono B1.size)
  have A2 := Lib.hid (A1.out.later hb2)
  have O2 := Lib.hid o2.at
  clear hb2 B1 o2 g0 g1 g2
  go_wp2_with fail
  refine (specWayOf_any c e1 d1 e2 d2 d _ O2.out HZ.out hd1).mono ?_
  rintro e w3 ⟨rfl, hb3⟩
  rw [HV.out]
  have B3 := B2.trans (hb3.mono B2.size)
  have A3 := Lib.hid (A2.out.later hb3)
  clear hb3 B2
  obtain ⟨g0, g1, g2⟩ := A3.out.cells
  go_wp2_with fail
  refine (toConf_any c a1 c1 a2 c2 _ (HA.out.below B3 (Nat.le_refl _)) HZ.out).mono ?_
  rintro e w4 ⟨e3, d3, e4, d4, rfl, o4, hb4⟩
  have B4 := B3.trans (hb4.mono B3.size)
  have A4 := Lib.hid ((A3.out.later hb4).later ((Below.refl _ _).alloc (Nat.le_refl _) (.cells (confV c e3 d3 e4 d4) 47)))
  have O4 := Lib.hid (o4.at.later ((Below.refl _ _).alloc (Nat.le_refl _) (.cells (confV c e3 d3 e4 d4) 47)))
  have X4 := Lib.hid (ThreeAt.new w4 (.string c.name) (.slice e3 c.own.length d3) (.slice e4 c.ways.length d4) 47)
  have B4' := B4.alloc B4.size (.cells (confV c e3 d3 e4 d4) 47)
  have s4 := B4.size
  clear hb4 B3 o4 g0 g1 g2
  go_wp2_with fail
  refine (implWayOf_any c e3 d3 e4 d4 d _ (HM.out.below B4' (Nat.le_refl _)) O4.out HZ.out hd1).mono ?_
  rintro e w5 ⟨rfl, hb5⟩
  rw [HV.out]
  have B5 := B4'.trans (hb5.mono B4'.size)
  have A5 := Lib.hid (A4.out.later hb5)
  have X5 := Lib.hid (X4.out.later hb5)
  have O5 := Lib.hid (O4.out.later hb5)
  have z5 := hb5.size
  simp only [World.size_alloc] at z5
  clear hb5 B4 B4'
  have B5' : Below w.heap.size w w5.drew := B5.drew
  obtain ⟨g0, g1, g2⟩ := A5.out.cells
  obtain ⟨x0, x1, x2⟩ := X5.out.cells
  have HB5 := Lib.hid B5'
  have X5d := Lib.hid (X5.out.later ((Below.refl w5.heap.size w5).drew))
  clear B5 B5'
  all_goals
    go_wp2_with fail
    go_region_with (first | (go_at_call 68; refine (toConf_any c a1 c1 a2 c2 _ (HA.out.below HB5.out (Nat.le_refl _)) HZ.out).mono ?_; rintro e w6 ⟨e5, d5, e6, d6, rfl, o6, hb6⟩; obtain ⟨y0, y1, y2⟩ := (X5d.out.later hb6).cells; have O6 := Lib.hid o6.at; clear o6) | (go_at_call 69; refine (eqConf_same c e3 d3 e4 d4 _ _ _ _ _ ((O5.out.later ((Below.refl _ _).drew)).later hb6) O6.out z1 z2).mono ?_; rintro e w7 ⟨rfl, hb7⟩))
    all_goals
      have B6 := HB5.out.trans (hb6.mono HB5.out.size)
      have B7 := B6.trans (hb7.mono B6.size)
      go_wp2
      go_ret
      exact ⟨rfl, B7⟩
end Go.Proofs.YtckcjchkegknhaaDoor
