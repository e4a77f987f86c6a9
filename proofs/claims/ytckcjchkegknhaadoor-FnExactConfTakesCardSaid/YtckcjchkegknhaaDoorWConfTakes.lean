/- The walk of FnExactConfTakes. -/
import Derived.Test.YtckcjchkegknhaaDoorWayOf
import Derived.Deep.RegionWith
import Derived.Deep.RegionHeld3
namespace Go.Proofs.YtckcjchkegknhaaDoor
open Go Go.RowKit

theorem heldC {a1 a2 a3 a4 a5 : Addr} {v1 v2 v3 v4 v5 : Value} {B : Nat} {w0 w1 w2 : World} (h1 : w1.cell? a1 = some v1) (h2 : w1.cell? a2 = some v2) (h3 : w1.cell? a3 = some v3) (h4 : w1.cell? a4 = some v4) (h5 : w1.cell? a5 = some v5) (hB : Below B w0 w1) (hBs : B ≤ w0.heap.size) (hb : Below w1.heap.size w1 w2) :
    w2.cell? a1 = some v1 ∧ w2.cell? a2 = some v2 ∧ w2.cell? a3 = some v3 ∧ w2.cell? a4 = some v4 ∧ w2.cell? a5 = some v5 ∧ Below B w0 w2 :=
  ⟨(hb.cell (World.block_lt_of_cell? w1 _ h1)).trans h1, (hb.cell (World.block_lt_of_cell? w1 _ h2)).trans h2, (hb.cell (World.block_lt_of_cell? w1 _ h3)).trans h3, (hb.cell (World.block_lt_of_cell? w1 _ h4)).trans h4, (hb.cell (World.block_lt_of_cell? w1 _ h5)).trans h5, hB.trans (hb.mono (Nat.le_trans hBs hB.size))⟩

theorem heldD {a1 a2 a3 a4 a5 a6 a7 a8 : Addr} {v1 v2 v3 v4 v5 v6 v7 v8 : Value} {B : Nat} {w0 w1 w2 : World} (h1 : w1.cell? a1 = some v1) (h2 : w1.cell? a2 = some v2) (h3 : w1.cell? a3 = some v3) (h4 : w1.cell? a4 = some v4) (h5 : w1.cell? a5 = some v5) (h6 : w1.cell? a6 = some v6) (h7 : w1.cell? a7 = some v7) (h8 : w1.cell? a8 = some v8) (hB : Below B w0 w1) (hBs : B ≤ w0.heap.size) (hb : Below w1.heap.size w1 w2) :
    w2.cell? a1 = some v1 ∧ w2.cell? a2 = some v2 ∧ w2.cell? a3 = some v3 ∧ w2.cell? a4 = some v4 ∧ w2.cell? a5 = some v5 ∧ w2.cell? a6 = some v6 ∧ w2.cell? a7 = some v7 ∧ w2.cell? a8 = some v8 ∧ Below B w0 w2 :=
  ⟨(hb.cell (World.block_lt_of_cell? w1 _ h1)).trans h1, (hb.cell (World.block_lt_of_cell? w1 _ h2)).trans h2, (hb.cell (World.block_lt_of_cell? w1 _ h3)).trans h3, (hb.cell (World.block_lt_of_cell? w1 _ h4)).trans h4, (hb.cell (World.block_lt_of_cell? w1 _ h5)).trans h5, (hb.cell (World.block_lt_of_cell? w1 _ h6)).trans h6, (hb.cell (World.block_lt_of_cell? w1 _ h7)).trans h7, (hb.cell (World.block_lt_of_cell? w1 _ h8)).trans h8, hB.trans (hb.mono (Nat.le_trans hBs hB.size))⟩

set_option maxHeartbeats 3200000 in
set_option maxRecDepth 100000 in
theorem wFnExactConfTakes.walk (c : ConfD) (a1 : Option Addr) (c1 : Nat) (a2 : Option Addr) (c2 : Nat) (u d : ByteArray) (w : World) (hat : ConfAt w c a1 a2) (hsz : ConfSz maxLen c) (hu : u.size ≤ maxLen) (hd : d.size ≤ maxLen) (hm : HasMax w) :
    Calls Tryd.prog 16 #[.agg (confV c a1 c1 a2 c2), .agg #[.string u, .string d]] w fun e w' => e = .returned (.bool true) ∧ Below w.heap.size w w' := by
  unfold maxLen at hu hd
  have HM := Lib.hid hm
  have HA := Lib.hid hat
  have HS := Lib.hid hsz
  have A0 := Lib.hid ((ThreeAt.new w (.string c.name) (.slice a1 c.own.length c1) (.slice a2 c.ways.length c2) 89).later ((Below.refl _ _).alloc (Nat.le_refl _) (.cells #[.string u, .string d] 79)))
  have b0 : Below w.heap.size w ((w.alloc (.cells (confV c a1 c1 a2 c2) 89)).alloc (.cells #[.string u, .string d] 79)) := ((Below.refl _ _).alloc (Nat.le_refl _) _).alloc (by simp) _
  clear hm hat hsz
  obtain ⟨l, hl⟩ : ∃ l, leftC c 1048576 = l := ⟨_, rfl⟩
  have hlL : l ≤ 1048576 := by
    rw [← hl]; unfold leftC
    split
    · omega
    · split
      · omega
      · rename_i h1 h2
        have := leftP_le (ps := c.ways) (left := leftB c.own (1048576 - c.name.size)) (by omega)
        have := leftB_le c.own (left := 1048576 - c.name.size) (by omega)
        omega
  by_cases hneg : l < 0
  · have HL := Lib.hid hl
    clear hl
    go_enter Tryd.func16, Tryd.ntmps16
    go_wp2_with fail
    refine (szConf_any c a1 c1 a2 c2 1048576 _ (HA.out.below b0 (Nat.le_refl _)) HS.out (by omega) (by omega)).mono ?_
    rintro e w1 ⟨rfl, hb1⟩
    rw [HL.out]
    have B1 := b0.trans (hb1.mono b0.size)
    go_wp2
    go_ret
    exact ⟨rfl, B1⟩
  have HZ : Hid (ConfSz 1048576 c) := Lib.hid (leftC_small (left := 1048576) (by rw [hl]; exact hneg) (by omega) (by omega))
  have z1 := HZ.out.owl
  have z2 := HZ.out.wal
  have HL := Lib.hid hl
  clear hl
  obtain ⟨l2, hl2⟩ : ∃ l2, leftA u d l = l2 := ⟨_, rfl⟩
  have HL2 := Lib.hid hl2
  by_cases hneg2 : l2 < 0
  · clear hl2
    go_enter Tryd.func16, Tryd.ntmps16
    go_wp2_with fail
    refine (szConf_any c a1 c1 a2 c2 1048576 _ (HA.out.below b0 (Nat.le_refl _)) HS.out (by omega) (by omega)).mono ?_
    rintro e w1 ⟨rfl, hb1⟩
    rw [HL.out]
    have B1 := b0.trans (hb1.mono b0.size)
    have d0 := (hb1.cell (p := ⟨w.heap.size + 1, 0, none⟩) (by simp)).trans (World.cell?_alloc_at _ _ _ 0 (by simp))
    have d1 := (hb1.cell (p := ⟨w.heap.size + 1, 1, none⟩) (by simp)).trans (World.cell?_alloc_at _ _ _ 1 (by simp))
    go_wp2_with fail
    refine (szAddr_any u d l _ (by omega) (by omega) hu hd).mono ?_
    rintro e w2 ⟨rfl, hb2⟩
    rw [HL2.out]
    have B2 := B1.trans (hb2.mono B1.size)
    go_wp2
    go_ret
    exact ⟨rfl, B2⟩
  have hud : u.size ≤ 1048576 ∧ d.size ≤ 1048576 := by
    unfold leftA at hl2
    split at hl2 <;> omega
  obtain ⟨hu1, hd1⟩ := hud
  clear hl2
  obtain ⟨v, hv⟩ : ∃ v, takesB c u d = v := ⟨_, rfl⟩
  have HV := Lib.hid hv
  clear hv
  go_enter Tryd.func16, Tryd.ntmps16
  go_wp2_with fail
  refine (szConf_any c a1 c1 a2 c2 1048576 _ (HA.out.below b0 (Nat.le_refl _)) HS.out (by omega) (by omega)).mono ?_
  rintro e w1 ⟨rfl, hb1⟩
  rw [HL.out]
  have B1 := b0.trans (hb1.mono b0.size)
  have A1 := Lib.hid (A0.out.later hb1)
  have d0 := (hb1.cell (p := ⟨w.heap.size + 1, 0, none⟩) (by simp)).trans (World.cell?_alloc_at _ _ _ 0 (by simp))
  have d1 := (hb1.cell (p := ⟨w.heap.size + 1, 1, none⟩) (by simp)).trans (World.cell?_alloc_at _ _ _ 1 (by simp))
  have k1 : w.heap.size + 1 < w1.heap.size := World.block_lt_of_cell? w1 _ d0
  clear hb1 b0
  go_wp2_with fail
  refine (szAddr_any u d l _ (by omega) (by omega) hu hd).mono ?_
  rintro e w2 ⟨rfl, hb2⟩
  rw [HL2.out]
  have B2 := Lib.hid (B1.trans (hb2.mono B1.size))
  have e0 := (hb2.cell (p := ⟨w.heap.size + 1, 0, none⟩) k1).trans d0
  have e1 := (hb2.cell (p := ⟨w.heap.size + 1, 1, none⟩) k1).trans d1
  have A2 := A1.out.later hb2
  clear hb2 B1 d0 d1
  obtain ⟨g0, g1, g2⟩ := A2.cells
  go_wp2_with fail
  go_region_held3 (fun w' => w'.cell? ⟨w.heap.size, 0, none⟩ = some (.string c.name) ∧ w'.cell? ⟨w.heap.size, 1, none⟩ = some (.slice a1 c.own.length c1) ∧ w'.cell? ⟨w.heap.size, 2, none⟩ = some (.slice a2 c.ways.length c2) ∧ w'.cell? ⟨w.heap.size + 1, 0, none⟩ = some (.string u) ∧ w'.cell? ⟨w.heap.size + 1, 1, none⟩ = some (.string d) ∧ Below w2.heap.size w2 w') (first | exact ⟨g0, g1, g2, e0, e1, (Below.refl _ _).drew⟩ | (go_split_ands; exact heldC (by assumption) (by assumption) (by assumption) (by assumption) (by assumption) (by assumption) (Nat.le_refl _) hb5) | (go_split_ands; exact heldC (by assumption) (by assumption) (by assumption) (by assumption) (by assumption) (by assumption) (Nat.le_refl _) hb4) | (go_split_ands; exact heldC (by assumption) (by assumption) (by assumption) (by assumption) (by assumption) (by assumption) (Nat.le_refl _) hb3) | (go_split_ands; exact ⟨by assumption, by assumption, by assumption, by assumption, by assumption, Below.drew (by assumption)⟩) | (go_split_ands; exact ⟨by assumption, by assumption, by assumption, by assumption, by assumption, by assumption⟩)) (first | (go_at_call 68; go_split_ands; have hbx := (by assumption : Below w2.heap.size w2 _); have B3 := B2.out.trans (hbx.mono B2.out.size); refine (toConf_any c a1 c1 a2 c2 _ (HA.out.below B3 (Nat.le_refl _)) HZ.out).mono ?_; rintro e w3 ⟨r1, m1, r2, m2, rfl, o3, hb3⟩; have O3 := Lib.hid o3.at; clear o3 B3 hbx) | (go_at_call 71; refine (toAddr_any u d _).mono ?_; rintro e w4 ⟨rfl, hb4⟩) | (go_at_call 46; refine (specConfTakes_any c _ _ _ _ u d _ (O3.out.later hb4) HZ.out hu1 hd1).mono ?_; rintro e w5 ⟨rfl, hb5⟩; rw [HV.out]))
  rename_i hh
  clear g0 g1 g2 e0 e1 hb3 hb4 hb5 O3
  obtain ⟨g0, g1, g2, e0, e1, hbx⟩ := hh
  have B5 := Lib.hid (B2.out.trans (hbx.mono B2.out.size))
  clear hbx
  go_wp2_with fail
  refine (toConf_any c a1 c1 a2 c2 _ (HA.out.below B5.out (Nat.le_refl _)) HZ.out).mono ?_
  rintro e w6 ⟨e3, d3, e4, d4, rfl, o6, hb6⟩
  have B6 := B5.out.trans (hb6.mono B5.out.size)
  have B7 := Lib.hid (B6.alloc B6.size (.cells (confV c e3 d3 e4 d4) 47))
  have O7 := Lib.hid (o6.at.later ((Below.refl _ _).alloc (Nat.le_refl _) (.cells (confV c e3 d3 e4 d4) 47)))
  have kk : w.heap.size + 1 < w5.heap.size := World.block_lt_of_cell? w5 _ e0
  have zz := hb6.size
  have x0 : (w6.alloc (.cells (confV c e3 d3 e4 d4) 47)).cell? ⟨w6.heap.size, 0, none⟩ = some (.string c.name) := World.cell?_alloc_at _ _ _ 0 rfl
  have x1 : (w6.alloc (.cells (confV c e3 d3 e4 d4) 47)).cell? ⟨w6.heap.size, 1, none⟩ = some (.slice e3 c.own.length d3) := World.cell?_alloc_at _ _ _ 1 rfl
  have x2 : (w6.alloc (.cells (confV c e3 d3 e4 d4) 47)).cell? ⟨w6.heap.size, 2, none⟩ = some (.slice e4 c.ways.length d4) := World.cell?_alloc_at _ _ _ 2 rfl
  have y0 : (w6.alloc (.cells (confV c e3 d3 e4 d4) 47)).cell? ⟨w.heap.size, 0, none⟩ = some (.string c.name) := (World.cell?_alloc_past _ _ _ (by omega)).trans ((hb6.cell (p := ⟨w.heap.size, 0, none⟩) (by simp; omega)).trans g0)
  have y1 : (w6.alloc (.cells (confV c e3 d3 e4 d4) 47)).cell? ⟨w.heap.size, 1, none⟩ = some (.slice a1 c.own.length c1) := (World.cell?_alloc_past _ _ _ (by omega)).trans ((hb6.cell (p := ⟨w.heap.size, 1, none⟩) (by simp; omega)).trans g1)
  have y2 : (w6.alloc (.cells (confV c e3 d3 e4 d4) 47)).cell? ⟨w.heap.size, 2, none⟩ = some (.slice a2 c.ways.length c2) := (World.cell?_alloc_past _ _ _ (by omega)).trans ((hb6.cell (p := ⟨w.heap.size, 2, none⟩) (by simp; omega)).trans g2)
  have t0 : (w6.alloc (.cells (confV c e3 d3 e4 d4) 47)).cell? ⟨w.heap.size + 1, 0, none⟩ = some (.string u) := (World.cell?_alloc_past _ _ _ (by omega)).trans ((hb6.cell (p := ⟨w.heap.size + 1, 0, none⟩) (by simp; omega)).trans e0)
  have t1 : (w6.alloc (.cells (confV c e3 d3 e4 d4) 47)).cell? ⟨w.heap.size + 1, 1, none⟩ = some (.string d) := (World.cell?_alloc_past _ _ _ (by omega)).trans ((hb6.cell (p := ⟨w.heap.size + 1, 1, none⟩) (by simp; omega)).trans e1)
  clear hb6 o6 B6 g0 g1 g2 e0 e1
  go_wp2_with fail
  generalize w6.alloc (.cells (confV c e3 d3 e4 d4) 47) = w7 at x0 x1 x2 y0 y1 y2 t0 t1 B7 O7 ⊢
  go_region_held3 (fun w' => w'.cell? ⟨w6.heap.size, 0, none⟩ = some (.string c.name) ∧ w'.cell? ⟨w6.heap.size, 1, none⟩ = some (.slice e3 c.own.length d3) ∧ w'.cell? ⟨w6.heap.size, 2, none⟩ = some (.slice e4 c.ways.length d4) ∧ w'.cell? ⟨w.heap.size, 0, none⟩ = some (.string c.name) ∧ w'.cell? ⟨w.heap.size, 1, none⟩ = some (.slice a1 c.own.length c1) ∧ w'.cell? ⟨w.heap.size, 2, none⟩ = some (.slice a2 c.ways.length c2) ∧ w'.cell? ⟨w.heap.size + 1, 0, none⟩ = some (.string u) ∧ w'.cell? ⟨w.heap.size + 1, 1, none⟩ = some (.string d) ∧ Below w7.heap.size w7 w') (first | exact ⟨x0, x1, x2, y0, y1, y2, t0, t1, (Below.refl _ _).drew⟩ | (go_split_ands; exact heldD (by assumption) (by assumption) (by assumption) (by assumption) (by assumption) (by assumption) (by assumption) (by assumption) (by assumption) (Nat.le_refl _) hb9) | (go_split_ands; exact heldD (by assumption) (by assumption) (by assumption) (by assumption) (by assumption) (by assumption) (by assumption) (by assumption) (by assumption) (Nat.le_refl _) hb8) | (go_split_ands; exact ⟨by assumption, by assumption, by assumption, by assumption, by assumption, by assumption, by assumption, by assumption, Below.drew (by assumption)⟩) | (go_split_ands; exact ⟨by assumption, by assumption, by assumption, by assumption, by assumption, by assumption, by assumption, by assumption, by assumption⟩)) (first | (go_at_call 71; refine (toAddr_any u d _).mono ?_; rintro e w8 ⟨rfl, hb8⟩) | (go_at_call 44; go_split_ands; have hbx := (by assumption : Below w7.heap.size w7 _); have B8 := B7.out.trans (hbx.mono B7.out.size); refine (implConfTakes_any c _ _ _ _ u d _ (HM.out.below B8 (Nat.le_refl _)) (O7.out.later hbx) HZ.out hu1 hd1).mono ?_; rintro e w9 ⟨rfl, hb9⟩; rw [HV.out]; clear hbx B8))
  rename_i hh
  clear x0 x1 x2 y0 y1 y2 t0 t1 hb8 hb9
  obtain ⟨x0, x1, x2, y0, y1, y2, t0, t1, hbx⟩ := hh
  have B9 := Lib.hid (B7.out.trans (hbx.mono B7.out.size))
  have O9 := Lib.hid (O7.out.later hbx)
  clear hbx
  cases v
  all_goals
    go_wp2_with fail
    go_region_held3 (fun w' => w'.cell? ⟨w6.heap.size, 0, none⟩ = some (.string c.name) ∧ w'.cell? ⟨w6.heap.size, 1, none⟩ = some (.slice e3 c.own.length d3) ∧ w'.cell? ⟨w6.heap.size, 2, none⟩ = some (.slice e4 c.ways.length d4) ∧ w'.cell? ⟨w.heap.size, 0, none⟩ = some (.string c.name) ∧ w'.cell? ⟨w.heap.size, 1, none⟩ = some (.slice a1 c.own.length c1) ∧ w'.cell? ⟨w.heap.size, 2, none⟩ = some (.slice a2 c.ways.length c2) ∧ w'.cell? ⟨w.heap.size + 1, 0, none⟩ = some (.string u) ∧ w'.cell? ⟨w.heap.size + 1, 1, none⟩ = some (.string d) ∧ Below w9.heap.size w9 w') (first | exact ⟨x0, x1, x2, y0, y1, y2, t0, t1, (Below.refl _ _).drew⟩ | (go_split_ands; exact heldD (by assumption) (by assumption) (by assumption) (by assumption) (by assumption) (by assumption) (by assumption) (by assumption) (by assumption) (Nat.le_refl _) hb11) | (go_split_ands; exact heldD (by assumption) (by assumption) (by assumption) (by assumption) (by assumption) (by assumption) (by assumption) (by assumption) (by assumption) (Nat.le_refl _) hb10) | (go_split_ands; exact ⟨by assumption, by assumption, by assumption, by assumption, by assumption, by assumption, by assumption, by assumption, Below.drew (by assumption)⟩) | (go_split_ands; exact ⟨by assumption, by assumption, by assumption, by assumption, by assumption, by assumption, by assumption, by assumption, by assumption⟩)) (first | (go_at_call 68; go_split_ands; have hbx := (by assumption : Below w9.heap.size w9 _); have B10 := B9.out.trans (hbx.mono B9.out.size); have O10 := Lib.hid (O9.out.later hbx); refine (toConf_any c a1 c1 a2 c2 _ (HA.out.below B10 (Nat.le_refl _)) HZ.out).mono ?_; rintro e w10 ⟨r3, m3, r4, m4, rfl, o10, hb10⟩; have P10 := Lib.hid o10.at; clear o10 B10 hbx) | (go_at_call 69; refine (eqConf_same c e3 d3 e4 d4 _ _ _ _ _ (O10.out.later hb10) P10.out z1 z2).mono ?_; rintro e w11 ⟨rfl, hb11⟩))
    rename_i hh
    have hbx := hh.2.2.2.2.2.2.2.2
    have B11 := B9.out.trans (hbx.mono B9.out.size)
    clear hh hb10 hb11 x0 x1 x2 y0 y1 y2 t0 t1 hbx
    go_wp2
    go_ret
    exact ⟨rfl, B11⟩
end Go.Proofs.YtckcjchkegknhaaDoor
