/- The walk of FnExactCliOuts. -/
import Derived.Test.YtecjifbckjclfaaDoorMarksM
import Derived.Test.YtecjifbckjclfaaDoorCliOk
import Derived.Deep.RegionWith
namespace Go.Proofs.YtecjifbckjclfaaDoor
open Go Go.RowKit

theorem outsR_len {c : CliD} (h : c.outs.length ≤ 1048576) : (outsR c).length ≤ 1048576 := by
  unfold outsR
  split
  · rw [setR_len]; exact h
  · exact Nat.zero_le _
theorem CliOwn.later {w w' : World} {B : Nat} {c : CliD} {a1 : Option Addr} {c1 : Nat} {a2 : Option Addr} {c2 : Nat} {a3 : Option Addr} {c3 : Nat} (h : CliOwn w B c a1 c1 a2 c2 a3 c3) (hb : Below w.heap.size w w') : CliOwn w' B c a1 c1 a2 c2 a3 c3 := ⟨h.m.later hb, own_later h.outs hb⟩
theorem CliOwn.span {w : World} {B : Nat} {c : CliD} {a1 : Option Addr} {c1 : Nat} {a2 : Option Addr} {c2 : Nat} {a3 : Option Addr} {c3 : Nat} (h : CliOwn w B c a1 c1 a2 c2 a3 c3) : ∀ i, cliS a1 a2 a3 c.outs.length c3 i → B ≤ i ∧ i < w.heap.size := by
  rintro i ((e | e) | e)
  · exact h.m.rc.lt e
  · exact h.m.body.lt e
  · exact World.ownsRow.lt h.outs i e
theorem two_rows {wA wB : World} {B1 B2 s1 s2 n1 n2 : Nat} {e1 e2 : TypeId} {v1 v2 : Value} {xs1 xs2 : List Value} (h1 : wA.ownsRow B1 e1 s1 v1 n1 xs1) (h2 : wB.ownsRow B2 e2 s2 v2 n2 xs2) (hs : wA.heap.size ≤ B2) : v1.ownBlock = none ∨ v1.ownBlock ≠ v2.ownBlock := by
  cases e : v1.ownBlock with
  | none => exact .inl rfl
  | some k =>
    refine .inr fun e2 => ?_
    have := (World.ownsRow.lt h1 k e).2
    have := (World.ownsRow.lt h2 k e2.symm).1
    omega

set_option maxHeartbeats 6400000 in
set_option maxRecDepth 100000 in
theorem wFnExactCliOuts.walk (s : CliD) (a1 : Option Addr) (c1 : Nat) (a2 : Option Addr) (c2 : Nat) (a3 : Option Addr) (c3 : Nat) (w : World) (hat : CliAt w s a1 a2 a3) (hsz : CliSz maxLen s) (hm : HasMax w) :
    Calls Tryd.prog 14 #[.agg (cliV s a1 c1 a2 c2 a3 c3)] w fun e w' => e = .returned (.bool true) ∧ Below w.heap.size w w' := by
  have HM := Lib.hid hm
  have HA := Lib.hid hat
  have HS := Lib.hid hsz
  have A0 := Lib.hid (CellsM.new w (cliV s a1 c1 a2 c2 a3 c3) 89)
  have b0 : Below w.heap.size w (w.alloc (.cells (cliV s a1 c1 a2 c2 a3 c3) 89)) := (Below.refl _ _).alloc (Nat.le_refl _) _
  clear hm hat hsz
  obtain ⟨l, hl⟩ : ∃ l, leftCl s 1048576 = l := ⟨_, rfl⟩
  by_cases hneg : l < 0
  · have HL := Lib.hid hl
    clear hl
    go_enter Tryd.func14, Tryd.ntmps14
    go_wp2_with fail
    refine (szCli_any s a1 c1 a2 c2 a3 c3 1048576 _ (HA.out.below b0 (Nat.le_refl _)) HS.out (by omega) (by omega)).mono ?_
    rintro e w1 ⟨rfl, hb1⟩
    rw [HL.out]
    have B1 := b0.trans (hb1.mono b0.size)
    go_wp2
    go_ret
    exact ⟨rfl, B1⟩
  have HZ : Hid (CliSz 1048576 s) := Lib.hid (leftCl_small (left := 1048576) (by rw [hl]; exact hneg) (by omega))
  have z1 := HZ.out.m.rcl
  have z2 := HZ.out.m.bol
  have z3 := HZ.out.outs
  have HL := Lib.hid hl
  have hRl := outsR_len z3
  obtain ⟨R, hR⟩ : ∃ R, outsR s = R := ⟨_, rfl⟩
  rw [hR] at hRl
  have HR := Lib.hid hR
  obtain ⟨N, hN⟩ : ∃ N, 1 + s.m.rc.length * 2 + s.m.body.length + s.outs.length = N := ⟨_, rfl⟩
  have HN := Lib.hid hN
  clear hl hR hN
  go_enter Tryd.func14, Tryd.ntmps14
  go_wp2_with fail
  refine (szCli_any s a1 c1 a2 c2 a3 c3 1048576 _ (HA.out.below b0 (Nat.le_refl _)) HS.out (by omega) (by omega)).mono ?_
  rintro e w1 ⟨rfl, hb1⟩
  rw [HL.out]
  have B1 := b0.trans (hb1.mono b0.size)
  have A1 := Lib.hid (A0.out.later hb1)
  clear hb1 b0
  have g0 := A1.out.c 0 _ rfl
  have g1 := A1.out.c 1 _ rfl
  have g2 := A1.out.c 2 _ rfl
  have g3 := A1.out.c 3 _ rfl
  have g4 := A1.out.c 4 _ rfl
  have g5 := A1.out.c 5 _ rfl
  have g6 := A1.out.c 6 _ rfl
  have g7 := A1.out.c 7 _ rfl
  -- what the model answers
  go_wp2_with fail
  refine (toCli_any s a1 c1 a2 c2 a3 c3 _ (HA.out.below B1 (Nat.le_refl _)) HZ.out).mono ?_
  rintro e w2 ⟨e1, d1, e2, d2, f1, k1, rfl, o2, hb2⟩
  have B2 := B1.trans (hb2.mono B1.size)
  have A2 := Lib.hid (A1.out.later hb2)
  have O2 := Lib.hid o2.at
  clear hb2 B1 o2 g0 g1 g2 g3 g4 g5 g6 g7
  go_wp2_with fail
  refine (specCliOuts_any s e1 d1 e2 d2 f1 k1 _ O2.out HZ.out).mono ?_
  rw [HR.out]
  rintro e w3 ⟨ro, rd, rfl, r3, hb3⟩
  have s3 := hb3.size
  have s2 := B2.size
  have B3 := B2.trans (hb3.mono B2.size)
  have A3 := Lib.hid (A2.out.later hb3)
  have R3 := Lib.hid r3
  have sA := A3.out.lt
  clear hb3 B2 r3
  have g0 := A3.out.c 0 _ rfl
  have g1 := A3.out.c 1 _ rfl
  have g2 := A3.out.c 2 _ rfl
  have g3 := A3.out.c 3 _ rfl
  have g4 := A3.out.c 4 _ rfl
  have g5 := A3.out.c 5 _ rfl
  have g6 := A3.out.c 6 _ rfl
  have g7 := A3.out.c 7 _ rfl
  -- what the program answers
  go_wp2_with fail
  refine (toCli_any s a1 c1 a2 c2 a3 c3 _ (HA.out.below B3 (Nat.le_refl _)) HZ.out).mono ?_
  rintro e w4 ⟨e3, d3, e4, d4, f3, k3, rfl, o4, hb4⟩
  have B4 := B3.trans (hb4.mono B3.size)
  have hal := (Below.refl w4.heap.size w4).alloc (Nat.le_refl _) (.cells (cliV s e3 d3 e4 d4 f3 k3) 64)
  have A4 := Lib.hid ((A3.out.later hb4).later hal)
  have O4 := Lib.hid (o4.later hal)
  have R4 := Lib.hid (own_later (own_later R3.out hb4) hal)
  have X4 := Lib.hid (CellsM.new w4 (cliV s e3 d3 e4 d4 f3 k3) 64)
  have SP := Lib.hid o4.span
  have B4' := B4.alloc B4.size (.cells (cliV s e3 d3 e4 d4 f3 k3) 64)
  have s4 := hb4.size
  have sx : (w4.alloc (.cells (cliV s e3 d3 e4 d4 f3 k3) 64)).heap.size = w4.heap.size + 1 := by simp
  clear hb4 B3 o4 hal g0 g1 g2 g3 g4 g5 g6 g7
  have x0 := X4.out.c 0 _ rfl
  have x1 := X4.out.c 1 _ rfl
  have x2 := X4.out.c 2 _ rfl
  have x3 := X4.out.c 3 _ rfl
  have x4 := X4.out.c 4 _ rfl
  have x5 := X4.out.c 5 _ rfl
  have x6 := X4.out.c 6 _ rfl
  have x7 := X4.out.c 7 _ rfl
  have HB4 := Lib.hid B4'
  go_wp2_with fail
  refine (implCliOuts_any w3.heap.size s e3 d3 e4 d4 f3 k3 _ (HM.out.below HB4.out (Nat.le_refl _)) O4.out HZ.out).mono ?_
  rw [HR.out]
  rintro e w5 ⟨go, gd, rfl, r5, hb5⟩
  have B5 := HB4.out.trans (hb5.mono HB4.out.size)
  have A5 := Lib.hid (A4.out.later hb5)
  have X5 := Lib.hid (X4.out.later hb5)
  have O5 := Lib.hid (O4.out.later hb5)
  have R5 := Lib.hid (own_later R4.out hb5)
  have G5 := Lib.hid r5
  have s5 := hb5.size
  rw [sx] at s5
  have NR : Hid (∀ g, (Value.slice ro R.length rd).ownBlock = some g → ¬ cliS e3 e4 f3 s.outs.length k3 g) := Lib.hid fun g h1 h2 => by
    have := (World.ownsRow.lt R3.out g h1).2
    have := (SP.out g h2).1
    omega
  have NG : Hid (∀ g, (Value.slice go R.length gd).ownBlock = some g → ¬ cliS e3 e4 f3 s.outs.length k3 g) := Lib.hid fun g h1 h2 => by
    have := (World.ownsRow.lt G5.out g h1).1
    have := (SP.out g h2).2
    rw [sx] at *
    omega
  have RG := Lib.hid (two_rows R4.out G5.out (Nat.le_refl _))
  have AG : Hid ((Value.slice go R.length gd).ownBlock ≠ some w.heap.size) := Lib.hid fun h1 => by
    have := (World.ownsRow.lt G5.out _ h1).1
    rw [sx] at this
    omega
  have HB5 := Lib.hid B5
  clear hb5 B4 B4' HB4 r5 x0 x1 x2 x3 x4 x5 x6 x7 sx A0 A1 A2 A3 A4 X4 R4 O4 O2
  -- they are the same
  go_wp2_with fail
  refine (eqIntS_same go ro gd rd R _ (IntRow.of_own G5.out) (IntRow.of_own R5.out) hRl).mono ?_
  rintro e w6 ⟨rfl, n6, rfl⟩
  have L6 := Lib.hid (below_drewN w5.heap.size w5 n6)
  generalize w5.drewN n6 = w6 at *
  have s6 := L6.out.size
  have A6 := Lib.hid (A5.out.later L6.out)
  have X6 := Lib.hid (X5.out.later L6.out)
  have O6 := Lib.hid (O5.out.later L6.out)
  have L6d := Lib.hid (L6.out.drew)
  have B6 := Lib.hid (HB5.out.trans (L6.out.mono HB5.out.size))
  have B6d := Lib.hid (B6.out.drew)
  have X6d := Lib.hid (X6.out.later ((Below.refl w6.heap.size w6).drew))
  have g0 := A6.out.c 0 _ rfl
  have g1 := A6.out.c 1 _ rfl
  have g2 := A6.out.c 2 _ rfl
  have g3 := A6.out.c 3 _ rfl
  have g4 := A6.out.c 4 _ rfl
  have g5 := A6.out.c 5 _ rfl
  have g6 := A6.out.c 6 _ rfl
  have g7 := A6.out.c 7 _ rfl
  have x0 := X6.out.c 0 _ rfl
  have x1 := X6.out.c 1 _ rfl
  have x2 := X6.out.c 2 _ rfl
  have x3 := X6.out.c 3 _ rfl
  have x4 := X6.out.c 4 _ rfl
  have x5 := X6.out.c 5 _ rfl
  have x6 := X6.out.c 6 _ rfl
  have x7 := X6.out.c 7 _ rfl
  have hlt1 : w.heap.size < w6.heap.size := by omega
  have hlt2 : w4.heap.size < w6.heap.size := by omega
  -- the argument reads as it did
  go_wp2_with fail
  go_region_with (first | (go_at_call 63; refine (toCli_any s a1 c1 a2 c2 a3 c3 _ (HA.out.below B6d.out (Nat.le_refl _)) HZ.out).mono ?_; rintro e w7 ⟨e5, d5, e6, d6, f5, k5, rfl, o7, hb7⟩; have Y := X6d.out.later hb7; have y0 := Y.c 0 _ rfl; have y1 := Y.c 1 _ rfl; have y2 := Y.c 2 _ rfl; have y3 := Y.c 3 _ rfl; have y4 := Y.c 4 _ rfl; have y5 := Y.c 5 _ rfl; have y6 := Y.c 6 _ rfl; have y7 := Y.c 7 _ rfl; clear Y; have O7 := Lib.hid o7.at; clear o7) | (go_at_call 64; refine (eqCli_same s e3 d3 e4 d4 f3 k3 _ _ _ _ _ _ _ ((O6.out.at.later ((Below.refl _ _).drew)).later hb7) O7.out z1 z2 z3).mono ?_; rintro e w8 ⟨rfl, hb8⟩))
  all_goals
    have L8 := Lib.hid ((L6d.out.trans (hb7.mono L6d.out.size)).trans (hb8.mono (L6d.out.trans (hb7.mono L6d.out.size)).size))
    have s8 := L8.out.size
    have X8 := L8.out |> X5.out.later
    have O8 := Lib.hid (O5.out.later L8.out)
    have A8 := Lib.hid (A5.out.later L8.out)
    have R8 := Lib.hid (own_later R5.out L8.out)
    have G8 := Lib.hid (own_later G5.out L8.out)
    have B8 := Lib.hid (HB5.out.trans (L8.out.mono HB5.out.size))
    clear hb7 hb8
    try clear g0 g1 g2 g3 g4 g5 g6 g7
    try clear x0 x1 x2 x3 x4 x5 x6 x7
    try clear y0 y1 y2 y3 y4 y5 y6 y7
    have x0 := X8.c 0 _ rfl
    have x1 := X8.c 1 _ rfl
    have x2 := X8.c 2 _ rfl
    have x3 := X8.c 3 _ rfl
    have x4 := X8.c 4 _ rfl
    have x5 := X8.c 5 _ rfl
    have x6 := X8.c 6 _ rfl
    have x7 := X8.c 7 _ rfl
    clear X8
    -- the argument is marked: the answer stays
    go_wp2_with fail
    refine (markCli_any w3.heap.size 1 s e3 d3 e4 d4 f3 k3 _ O8.out (by omega) (by omega)).mono ?_
    rw [HN.out]
    rintro e w9 ⟨rfl, q9⟩
    have s9 := q9.size
    have A9 := Lib.hid (q9.cells A8.out (fun h => by have := (SP.out _ h).1; omega))
    have R9 := Lib.hid (q9.own R8.out NR.out)
    have G9 := Lib.hid (q9.own G8.out NG.out)
    have B9 := Lib.hid (B8.out.trans (q9.below (by omega) (fun i h => by have := (SP.out _ h).1; omega)))
    clear q9 x0 x1 x2 x3 x4 x5 x6 x7 A8 R8 G8 B8
    have hnn : ¬ ((N : Int) < 0) := by omega
    go_wp2_with fail
    refine (eqIntS_same go ro gd rd R _ (IntRow.of_own G9.out) (IntRow.of_own R9.out) hRl).mono ?_
    rintro e w10 ⟨rfl, n10, rfl⟩
    have L10 := below_drewN w9.heap.size w9 n10
    generalize w9.drewN n10 = w10 at *
    have A10 := Lib.hid (A9.out.later L10)
    have R10 := Lib.hid (own_later R9.out L10)
    have G10 := Lib.hid (own_later G9.out L10)
    have B10 := Lib.hid (B9.out.trans (L10.mono B9.out.size))
    have s10 := L10.size
    clear L10 A9 R9 G9 B9
    -- the answer is marked, and holds its marks
    go_wp2_with fail
    refine (markIntS_any _ 1 go gd R _ G10.out (by omega)).mono ?_
    rintro e w11 ⟨rfl, r11, q11⟩
    have I11 := Lib.hid (IntRow.of_own (xs := markI 1 R.length) (by rw [markI_length]; exact r11))
    have R11 := Lib.hid (R10.out.kept q11 RG.out)
    have A11 := Lib.hid (A10.out.kept q11 AG.out)
    have B11 := Lib.hid (B10.out.grown q11 B10.out.size (fun g h => by have := (World.ownsRow.lt G10.out g h).1; simp only [World.size_alloc] at this; omega))
    clear r11 q11 A10 R10 G10 B10
    go_wp2_with fail
    refine (heldIntS_any go gd 1 R.length _ I11.out (by omega)).mono ?_
    rintro e w12 ⟨rfl, rfl⟩
    have g0 := A11.out.c 0 _ rfl
    have g1 := A11.out.c 1 _ rfl
    have g2 := A11.out.c 2 _ rfl
    have g3 := A11.out.c 3 _ rfl
    have g4 := A11.out.c 4 _ rfl
    have g5 := A11.out.c 5 _ rfl
    have g6 := A11.out.c 6 _ rfl
    have g7 := A11.out.c 7 _ rfl
    -- another call's answer shares nothing with it
    go_wp2_with fail
    refine (toCli_any s a1 c1 a2 c2 a3 c3 _ (HA.out.below B11.out (Nat.le_refl _)) HZ.out).mono ?_
    rintro e w13 ⟨e7, d7, e8, d8, f7, k7, rfl, o13, hb13⟩
    have B13 := Lib.hid (B11.out.trans (hb13.mono B11.out.size))
    have R13 := Lib.hid (own_later R11.out hb13)
    have I13 := Lib.hid (I11.out.below hb13 (Nat.le_refl _))
    have O13 := Lib.hid o13
    clear hb13 o13 g0 g1 g2 g3 g4 g5 g6 g7
    go_wp2_with fail
    refine (implCliOuts_any _ s e7 d7 e8 d8 f7 k7 _ (HM.out.below B13.out (Nat.le_refl _)) O13.out HZ.out).mono ?_
    rw [HR.out]
    rintro e w14 ⟨ho, hd, rfl, r14, hb14⟩
    have B14 := Lib.hid (B13.out.trans (hb14.mono B13.out.size))
    have R14 := Lib.hid (own_later R13.out hb14)
    have I14 := Lib.hid (I13.out.below hb14 (Nat.le_refl _))
    have H14 := Lib.hid (IntRow.of_own r14)
    clear hb14 r14
    go_wp2_with fail
    refine (eqIntS_same ho ro hd rd R _ H14.out (IntRow.of_own R14.out) hRl).mono ?_
    rintro e w15 ⟨rfl, n15, rfl⟩
    have L15 := below_drewN w14.heap.size w14 n15
    generalize w14.drewN n15 = w15 at *
    have I15 := Lib.hid (I14.out.below L15 (Nat.le_refl _))
    have B15 := Lib.hid (B14.out.trans (L15.mono B14.out.size))
    clear L15
    go_wp2_with fail
    refine (heldIntS_any go gd 1 R.length _ I15.out (by omega)).mono ?_
    rintro e w16 ⟨rfl, rfl⟩
    go_wp2
    go_ret
    exact ⟨rfl, B15.out⟩
end Go.Proofs.YtecjifbckjclfaaDoor
