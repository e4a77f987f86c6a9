/- The walk of FnExactCliOk. -/
import Derived.Test.YtecjifbckjclfaaDoorCliOk
import Derived.Deep.RegionWith
namespace Go.Proofs.YtecjifbckjclfaaDoor
open Go Go.RowKit


set_option maxHeartbeats 3200000 in
set_option maxRecDepth 100000 in
theorem wFnExactCliOk.walk (s : CliD) (a1 : Option Addr) (c1 : Nat) (a2 : Option Addr) (c2 : Nat) (a3 : Option Addr) (c3 : Nat) (w : World) (hat : CliAt w s a1 a2 a3) (hsz : CliSz maxLen s) (hm : HasMax w) :
    Calls Tryd.prog 12 #[.agg (cliV s a1 c1 a2 c2 a3 c3)] w fun e w' => e = .returned (.bool true) ∧ Below w.heap.size w w' := by
  have HM := Lib.hid hm
  have HA := Lib.hid hat
  have HS := Lib.hid hsz
  have A0 := Lib.hid (CellsM.new w (cliV s a1 c1 a2 c2 a3 c3) 89)
  have b0 : Below w.heap.size w (w.alloc (.cells (cliV s a1 c1 a2 c2 a3 c3) 89)) := (Below.refl _ _).alloc (Nat.le_refl _) _
  clear hm hat hsz
  obtain ⟨l, hl⟩ : ∃ l, leftCl s 1048576 = l := ⟨_, rfl⟩
  by_cases hneg : l < 0
  · have HL := Lib.hid hl
    clear hl
    go_enter Tryd.func12, Tryd.ntmps12
    go_wp2_with fail
    refine (szCli_any s a1 c1 a2 c2 a3 c3 1048576 _ (HA.out.below b0 (Nat.le_refl _)) HS.out (by omega) (by omega)).mono ?_
    rintro e w1 ⟨rfl, hb1⟩
    rw [HL.out]
    have B1 := b0.trans (hb1.mono b0.size)
    go_wp2
    go_ret
    exact ⟨rfl, B1⟩
  have HZ : Hid (CliSz 1048576 s) := Lib.hid (leftCl_small (left := 1048576) (by rw [hl]; exact hneg) (by omega))
  have z1 := HZ.out.m.rcl
  have z2 := HZ.out.m.bol
  have z3 := HZ.out.outs
  have HL := Lib.hid hl
  obtain ⟨v, hv⟩ : ∃ v, cliB s = v := ⟨_, rfl⟩
  have HV := Lib.hid hv
  clear hl hv
  go_enter Tryd.func12, Tryd.ntmps12
  go_wp2_with fail
  refine (szCli_any s a1 c1 a2 c2 a3 c3 1048576 _ (HA.out.below b0 (Nat.le_refl _)) HS.out (by omega) (by omega)).mono ?_
  rintro e w1 ⟨rfl, hb1⟩
  rw [HL.out]
  have B1 := b0.trans (hb1.mono b0.size)
  have A1 := Lib.hid (A0.out.later hb1)
  clear hb1 b0
  have g0 := A1.out.c 0 _ rfl
  have g1 := A1.out.c 1 _ rfl
  have g2 := A1.out.c 2 _ rfl
  have g3 := A1.out.c 3 _ rfl
  have g4 := A1.out.c 4 _ rfl
  have g5 := A1.out.c 5 _ rfl
  have g6 := A1.out.c 6 _ rfl
  have g7 := A1.out.c 7 _ rfl
  -- what the model answers
  go_wp2_with fail
  refine (toCli_any s a1 c1 a2 c2 a3 c3 _ (HA.out.below B1 (Nat.le_refl _)) HZ.out).mono ?_
  rintro e w2 ⟨e1, d1, e2, d2, f1, k1, rfl, o2, hb2⟩
  have B2 := B1.trans (hb2.mono B1.size)
  have A2 := Lib.hid (A1.out.later hb2)
  have O2 := Lib.hid o2.at
  clear hb2 B1 o2 g0 g1 g2 g3 g4 g5 g6 g7
  go_wp2_with fail
  refine (specCliOk_any s e1 d1 e2 d2 f1 k1 _ O2.out HZ.out).mono ?_
  rintro e w3 ⟨rfl, hb3⟩
  rw [HV.out]
  have B3 := B2.trans (hb3.mono B2.size)
  have A3 := Lib.hid (A2.out.later hb3)
  clear hb3 B2
  have g0 := A3.out.c 0 _ rfl
  have g1 := A3.out.c 1 _ rfl
  have g2 := A3.out.c 2 _ rfl
  have g3 := A3.out.c 3 _ rfl
  have g4 := A3.out.c 4 _ rfl
  have g5 := A3.out.c 5 _ rfl
  have g6 := A3.out.c 6 _ rfl
  have g7 := A3.out.c 7 _ rfl
  -- what the program answers
  go_wp2_with fail
  refine (toCli_any s a1 c1 a2 c2 a3 c3 _ (HA.out.below B3 (Nat.le_refl _)) HZ.out).mono ?_
  rintro e w4 ⟨e3, d3, e4, d4, f3, k3, rfl, o4, hb4⟩
  have B4 := B3.trans (hb4.mono B3.size)
  have A4 := Lib.hid ((A3.out.later hb4).later ((Below.refl _ _).alloc (Nat.le_refl _) (.cells (cliV s e3 d3 e4 d4 f3 k3) 64)))
  have O4 := Lib.hid (o4.at.later ((Below.refl _ _).alloc (Nat.le_refl _) (.cells (cliV s e3 d3 e4 d4 f3 k3) 64)))
  have X4 := Lib.hid (CellsM.new w4 (cliV s e3 d3 e4 d4 f3 k3) 64)
  have B4' := B4.alloc B4.size (.cells (cliV s e3 d3 e4 d4 f3 k3) 64)
  have K4 := o4.m.rc.cap
  have s4 := B4.size
  clear hb4 B3 o4 g0 g1 g2 g3 g4 g5 g6 g7
  go_wp2_with fail
  refine (implCliOk_any s e3 d3 e4 d4 f3 k3 _ (HM.out.below B4' (Nat.le_refl _)) O4.out HZ.out K4).mono ?_
  rintro e w5 ⟨rfl, hb5⟩
  rw [HV.out]
  have B5 := B4'.trans (hb5.mono B4'.size)
  have A5 := Lib.hid (A4.out.later hb5)
  have X5 := Lib.hid (X4.out.later hb5)
  have O5 := Lib.hid (O4.out.later hb5)
  have z5 := hb5.size
  simp only [World.size_alloc] at z5
  clear hb5 B4 B4'
  have B5' : Below w.heap.size w w5.drew := B5.drew
  have g0 := A5.out.c 0 _ rfl
  have g1 := A5.out.c 1 _ rfl
  have g2 := A5.out.c 2 _ rfl
  have g3 := A5.out.c 3 _ rfl
  have g4 := A5.out.c 4 _ rfl
  have g5 := A5.out.c 5 _ rfl
  have g6 := A5.out.c 6 _ rfl
  have g7 := A5.out.c 7 _ rfl
  have x0 := X5.out.c 0 _ rfl
  have x1 := X5.out.c 1 _ rfl
  have x2 := X5.out.c 2 _ rfl
  have x3 := X5.out.c 3 _ rfl
  have x4 := X5.out.c 4 _ rfl
  have x5 := X5.out.c 5 _ rfl
  have x6 := X5.out.c 6 _ rfl
  have x7 := X5.out.c 7 _ rfl
  have hlt1 : w.heap.size < w5.heap.size := by omega
  have hlt2 : w4.heap.size < w5.heap.size := by omega
  have HB5 := Lib.hid B5'
  have X5d := Lib.hid (X5.out.later ((Below.refl w5.heap.size w5).drew))
  clear B5 B5'
  cases v
  all_goals
    go_wp2_with fail
    go_region_with (first | (go_at_call 63; refine (toCli_any s a1 c1 a2 c2 a3 c3 _ (HA.out.below HB5.out (Nat.le_refl _)) HZ.out).mono ?_; rintro e w6 ⟨e5, d5, e6, d6, f5, k5, rfl, o6, hb6⟩; have Y := X5d.out.later hb6; have y0 := Y.c 0 _ rfl; have y1 := Y.c 1 _ rfl; have y2 := Y.c 2 _ rfl; have y3 := Y.c 3 _ rfl; have y4 := Y.c 4 _ rfl; have y5 := Y.c 5 _ rfl; have y6 := Y.c 6 _ rfl; have y7 := Y.c 7 _ rfl; clear Y; have O6 := Lib.hid o6.at; clear o6) | (go_at_call 64; refine (eqCli_same s e3 d3 e4 d4 f3 k3 _ _ _ _ _ _ _ ((O5.out.later ((Below.refl _ _).drew)).later hb6) O6.out z1 z2 z3).mono ?_; rintro e w7 ⟨rfl, hb7⟩))
    all_goals
      have B6 := HB5.out.trans (hb6.mono HB5.out.size)
      have B7 := B6.trans (hb7.mono B6.size)
      go_wp2
      go_ret
      exact ⟨rfl, B7⟩
end Go.Proofs.YtecjifbckjclfaaDoor
