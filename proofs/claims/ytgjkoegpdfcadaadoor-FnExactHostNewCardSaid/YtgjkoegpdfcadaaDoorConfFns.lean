/- Contracts: the laws' helpers on configurations: what is left of a size, copies, comparisons. -/
import Derived.Test.YtgjkoegpdfcadaaDoorConfOkI
namespace Go.Proofs.YtgjkoegpdfcadaaDoor
open Go Go.RowKit

/-- Three cells of the call's own, in block k, that may be written. -/
structure ThreeM (w : World) (k : Nat) (x0 x1 x2 : Value) : Prop where
  at' : ThreeAt w k x0 x1 x2
  f0 : w.frozen? ⟨k, 0, none⟩ = false
  f1 : w.frozen? ⟨k, 1, none⟩ = false
  f2 : w.frozen? ⟨k, 2, none⟩ = false
theorem ThreeM.cells {w : World} {k : Nat} {x0 x1 x2 : Value} (h : ThreeM w k x0 x1 x2) : (w.cell? ⟨k, 0, none⟩ = some x0 ∧ w.cell? ⟨k, 1, none⟩ = some x1 ∧ w.cell? ⟨k, 2, none⟩ = some x2) ∧ (w.frozen? ⟨k, 0, none⟩ = false ∧ w.frozen? ⟨k, 1, none⟩ = false ∧ w.frozen? ⟨k, 2, none⟩ = false) := ⟨h.at'.cells, h.f0, h.f1, h.f2⟩
theorem ThreeM.lt {w : World} {k : Nat} {x0 x1 x2 : Value} (h : ThreeM w k x0 x1 x2) : k < w.heap.size := World.block_lt_of_cell? w _ h.at'.c0
theorem ThreeM.later {w w' : World} {k : Nat} {x0 x1 x2 : Value} (h : ThreeM w k x0 x1 x2) (hb : Below w.heap.size w w') : ThreeM w' k x0 x1 x2 :=
  ⟨h.at'.later hb, (hb.frozen (p := ⟨k, 0, none⟩) h.lt).trans h.f0, (hb.frozen (p := ⟨k, 1, none⟩) h.lt).trans h.f1, (hb.frozen (p := ⟨k, 2, none⟩) h.lt).trans h.f2⟩
theorem ThreeM.new (w : World) (x0 x1 x2 : Value) (t : TypeId) : ThreeM (w.alloc (.cells #[x0, x1, x2] t)) w.heap.size x0 x1 x2 :=
  ⟨ThreeAt.new w x0 x1 x2 t, by simp [go_sem], by simp [go_sem], by simp [go_sem]⟩
theorem ThreeM.set0 {w : World} {k : Nat} {x0 x1 x2 : Value} (h : ThreeM w k x0 x1 x2) (v : Value) : ThreeM (w.setCell ⟨k, 0, none⟩ v) k v x1 x2 :=
  ⟨⟨World.cell?_setCell_same _ _ _ h.at'.c0, (World.cell?_setCell_other _ _ _ _ (by simp)).trans h.at'.c1, (World.cell?_setCell_other _ _ _ _ (by simp)).trans h.at'.c2⟩, by simpa using h.f0, by simpa using h.f1, by simpa using h.f2⟩
theorem ThreeM.set1 {w : World} {k : Nat} {x0 x1 x2 : Value} (h : ThreeM w k x0 x1 x2) (v : Value) : ThreeM (w.setCell ⟨k, 1, none⟩ v) k x0 v x2 :=
  ⟨⟨(World.cell?_setCell_other _ _ _ _ (by simp)).trans h.at'.c0, World.cell?_setCell_same _ _ _ h.at'.c1, (World.cell?_setCell_other _ _ _ _ (by simp)).trans h.at'.c2⟩, by simpa using h.f0, by simpa using h.f1, by simpa using h.f2⟩
theorem ThreeM.far {w : World} {k k' j : Nat} {x0 x1 x2 : Value} (h : ThreeM w k x0 x1 x2) (v : Value) (hne : k' ≠ k) : ThreeM (w.setCell ⟨k', j, none⟩ v) k x0 x1 x2 := by
  obtain ⟨h1, f0, f1, f2⟩ := h
  exact ⟨h1.far v hne, by simpa using f0, by simpa using f1, by simpa using f2⟩

/-- What is left of a size behind a configuration. -/
def leftC (c : ConfD) (left : Int) : Int :=
  if left - c.name.size < 0 then -1 else if leftB c.own (left - c.name.size) < 0 then -1 else leftP c.ways (leftB c.own (left - c.name.size))
theorem leftC_small {c : ConfD} {left : Int} (h : ¬ leftC c left < 0) (h0 : 0 ≤ left) (h1 : left ≤ 1048576) : ConfSz 1048576 c := by
  unfold leftC at h
  split at h
  · exact absurd (show (-1 : Int) < 0 by decide) h
  · rename_i hA
    split at h
    · exact absurd (show (-1 : Int) < 0 by decide) h
    · rename_i hB
      have lB := leftB_le c.own (left := left - c.name.size) (by omega)
      obtain ⟨b1, b2⟩ := leftB_small2 hB (by omega)
      obtain ⟨p1, p2⟩ := leftP_small h (by omega)
      exact ⟨by omega, b1, b2, p1, p2⟩

set_option maxHeartbeats 800000 in
set_option maxRecDepth 100000 in
theorem szConf_any (c : ConfD) (a1 : Option Addr) (c1 : Nat) (a2 : Option Addr) (c2 : Nat) (left : Int) (w : World) (hat : ConfAt w c a1 a2) (hsz : ConfSz maxLen c) (h0 : 0 ≤ left) (h1 : left ≤ 1048576) :
    Calls Tryd.prog 64 #[.agg (confV c a1 c1 a2 c2), .int .i64 left] w fun e w' => e = .returned (.int .i64 (leftC c left)) ∧ Below w.heap.size w w' := by
  have hb0 : Below w.heap.size w (w.alloc (.cells (confV c a1 c1 a2 c2) 106)) := (Below.refl _ _).alloc (Nat.le_refl _) _
  have HAT := Lib.hid hat
  obtain ⟨z1, z2, z3, z4, z5⟩ := hsz
  unfold maxLen at z1 z2 z3 z4 z5
  have Z3 : Hid (∀ x ∈ c.own, x.size ≤ 9223372036854775807) := Lib.hid fun x hx => by have := z3 x hx; omega
  have Z5 : Hid (∀ p ∈ c.ways, p.1.size ≤ 9223372036854775807 ∧ p.2.size ≤ 9223372036854775807) := Lib.hid fun p hp => ⟨by have := (z5 p hp).1; omega, by have := (z5 p hp).2; omega⟩
  have HF := Lib.hid (ThreeAt.new w (.string c.name) (.slice a1 c.own.length c1) (.slice a2 c.ways.length c2) 106)
  clear hat z3 z5
  by_cases nA : left - c.name.size < 0
  · have hq : Hid (leftC c left = -1) := Lib.hid (by unfold leftC; rw [if_pos nA])
    go_enter Tryd.func64, Tryd.ntmps64
    go_wp2
    go_ret
    exact ⟨ret_i hq.out.symm, hb0⟩
  · obtain ⟨lB, hB⟩ : ∃ l, leftB c.own (left - c.name.size) = l := ⟨_, rfl⟩
    have LB := leftB_le c.own (left := left - c.name.size) (by omega)
    rw [hB] at LB
    have HB := Lib.hid hB
    by_cases nB : lB < 0
    · have hq : Hid (leftC c left = -1) := Lib.hid (by unfold leftC; rw [if_neg nA, hB, if_pos nB])
      clear hB
      go_enter Tryd.func64, Tryd.ntmps64
      go_wp2_with fail
      refine (szStringS_any a1 c1 c.own (left - c.name.size) _ (HAT.out.own.below hb0 (Nat.le_refl _)) (by omega) (by omega) (by omega) Z3.out).mono ?_
      rintro e w1 ⟨rfl, rfl⟩
      rw [HB.out]
      go_wp2
      go_ret
      exact ⟨ret_i hq.out.symm, hb0⟩
    · have hq : Hid (leftC c left = leftP c.ways lB) := Lib.hid (by unfold leftC; rw [if_neg nA, hB, if_neg nB])
      obtain ⟨lP, hP⟩ : ∃ l, leftP c.ways lB = l := ⟨_, rfl⟩
      have HP := Lib.hid hP
      clear hB hP
      go_enter Tryd.func64, Tryd.ntmps64
      go_wp2_with fail
      refine (szStringS_any a1 c1 c.own (left - c.name.size) _ (HAT.out.own.below hb0 (Nat.le_refl _)) (by omega) (by omega) (by omega) Z3.out).mono ?_
      rintro e w1 ⟨rfl, rfl⟩
      rw [HB.out]
      go_wp2_with fail
      refine (szWayS_any a2 c2 c.ways lB _ (HAT.out.ways.below hb0 (Nat.le_refl _)) (by omega) (by omega) (by omega) Z5.out).mono ?_
      rintro e w2 ⟨rfl, hb2⟩
      rw [HP.out]
      have B2 := hb0.trans (hb2.mono hb0.size)
      by_cases nP : lP < 0
      · have hq2 : Hid (leftC c left = -1) := Lib.hid (by
          have e1 := HP.out
          rw [hq.out, e1]
          unfold leftP at e1
          split at e1 <;> omega)
        go_wp2
        go_ret
        exact ⟨ret_i hq2.out.symm, B2⟩
      · have hq2 : Hid (leftC c left = lP) := Lib.hid (by rw [hq.out, HP.out])
        go_wp2
        go_ret
        exact ⟨ret_i hq2.out.symm, B2⟩

/-- A configuration of the call's own. -/
structure ConfOwn (w : World) (B : Nat) (c : ConfD) (a1 : Option Addr) (c1 : Nat) (a2 : Option Addr) (c2 : Nat) : Prop where
  own : Row w B a1 c1 c.own
  ways : PRow w B 34 a2 c2 c.ways
  ne : (blockOf a2 = none ∨ blockOf a2 ≠ blockOf a1) ∧ (blockOf a1 = none ∨ blockOf a1 ≠ blockOf a2)
theorem ConfOwn.at {w : World} {B : Nat} {c : ConfD} {a1 : Option Addr} {c1 : Nat} {a2 : Option Addr} {c2 : Nat} (h : ConfOwn w B c a1 c1 a2 c2) : ConfAt w c a1 a2 := ⟨h.own.strs, h.ways.pairs⟩
theorem Row.ne_prow {wA wB : World} {B1 B2 : Nat} {t : TypeId} {ao bo : Option Addr} {c1 c2 : Nat} {ps : List Pair} {ys : List ByteArray} (h1 : Row wA B1 ao c1 ys) (h2 : PRow wB B2 t bo c2 ps) (hs : wA.heap.size ≤ B2) : (blockOf bo = none ∨ blockOf bo ≠ blockOf ao) ∧ (blockOf ao = none ∨ blockOf ao ≠ blockOf bo) := by
  have key : ∀ k, blockOf ao = some k → blockOf bo = some k → False := fun k e1 e2 => by
    have := (h1.lt e1).2
    have := (h2.lt e2).1
    omega
  constructor
  · cases e : blockOf bo with
    | none => exact .inl rfl
    | some k => exact .inr fun e2 => key k e2.symm e
  · cases e : blockOf ao with
    | none => exact .inl rfl
    | some k => exact .inr fun e2 => key k e e2.symm

set_option maxHeartbeats 1600000 in
set_option maxRecDepth 100000 in
theorem toConf_any (c : ConfD) (a1 : Option Addr) (c1 : Nat) (a2 : Option Addr) (c2 : Nat) (w : World) (hat : ConfAt w c a1 a2) (hsz : ConfSz 1048576 c) :
    Calls Tryd.prog 65 #[.agg (confV c a1 c1 a2 c2)] w fun e w' => ∃ b1 d1 b2 d2, e = .returned (.agg (confV c b1 d1 b2 d2)) ∧ ConfOwn w' w.heap.size c b1 d1 b2 d2 ∧ Below w.heap.size w w' := by
  have HAT := Lib.hid hat
  have z1 := hsz.owl
  have z2 := hsz.wal
  have hA0 := (((ThreeAt.new w (.string c.name) (.slice a1 c.own.length c1) (.slice a2 c.ways.length c2) 106).later ((Below.refl _ _).alloc (Nat.le_refl _) (.cells #[.string ByteArray.empty, .slice none 0 0, .slice none 0 0] 26))).later ((Below.refl _ _).alloc (Nat.le_refl _) (.cells #[.string c.name, .slice none 0 0, .slice none 0 0] 26)))
  have hR0 := (ThreeM.new (w.alloc (.cells (confV c a1 c1 a2 c2) 106)) (.string ByteArray.empty) (.slice none 0 0) (.slice none 0 0) 26).later ((Below.refl _ _).alloc (Nat.le_refl _) (.cells #[.string c.name, .slice none 0 0, .slice none 0 0] 26))
  have hO0 := ThreeM.new ((w.alloc (.cells (confV c a1 c1 a2 c2) 106)).alloc (.cells #[.string ByteArray.empty, .slice none 0 0, .slice none 0 0] 26)) (.string c.name) (.slice none 0 0) (.slice none 0 0) 26
  have hb0 : Below w.heap.size w (((w.alloc (.cells (confV c a1 c1 a2 c2) 106)).alloc (.cells #[.string ByteArray.empty, .slice none 0 0, .slice none 0 0] 26)).alloc (.cells #[.string c.name, .slice none 0 0, .slice none 0 0] 26)) := (((Below.refl _ _).alloc (Nat.le_refl _) _).alloc (by simp) _).alloc (by simp; omega) _
  simp only [World.size_alloc] at hR0 hO0
  have hs0 := hb0.size
  have A0 := Lib.hid hA0
  have R0 := Lib.hid hR0
  have O0 := Lib.hid hO0
  have B1 := Lib.hid hb0
  clear hat hsz hA0 hR0 hO0 hb0 hs0
  go_enter Tryd.func65, Tryd.ntmps65
  go_wp2_with fail
  refine (toStringS_row a1 c1 c.own _ (HAT.out.own.below B1.out (Nat.le_refl _)) z1).mono ?_
  rintro e w2 ⟨b1, d1, rfl, ho2, hb2⟩
  have hz2 := hb2.size
  simp only [World.size_alloc] at hz2
  have A2 := Lib.hid (A0.out.later hb2)
  have R2 := Lib.hid (R0.out.later hb2)
  have O2 := Lib.hid (O0.out.later hb2)
  have B2 := Lib.hid ((B1.out.trans (hb2.mono B1.out.size)).setCell (p := ⟨w.heap.size + 1 + 1, 1, none⟩) (by simp; omega) (.slice b1 c.own.length d1))
  have P2 := Lib.hid (ho2.low (k := w.heap.size + 1 + 1) (j := 1) (by simp) (.slice b1 c.own.length d1))
  clear ho2 hb2
  obtain ⟨⟨o0, o1, o2⟩, p0, p1, p2⟩ := O2.out.cells
  obtain ⟨g0, g1, g2⟩ := A2.out.cells
  go_wp2_with fail
  refine (toWayS_any a2 c2 c.ways _ (HAT.out.ways.below B2.out (Nat.le_refl _)) z2).mono ?_
  rintro e w3 ⟨b2, d2, rfl, ho3, hb3⟩
  have hz3 := hb3.size
  simp only [World.size_setCell] at hz3
  have R3 := Lib.hid ((R2.out.far (k' := w.heap.size + 1 + 1) (j := 1) (.slice b1 c.own.length d1) (by omega)).later hb3)
  have O3 := Lib.hid ((O2.out.set1 (.slice b1 c.own.length d1)).later hb3)
  have B3 := Lib.hid ((B2.out.trans (hb3.mono B2.out.size)).setCell (p := ⟨w.heap.size + 1 + 1, 2, none⟩) (by simp; omega) (.slice b2 c.ways.length d2))
  have NE := Lib.hid (P2.out.ne_prow ho3 (Nat.le_refl _))
  have P3 := Lib.hid ((P2.out.later hb3).low (k := w.heap.size + 1 + 1) (j := 2) (by simp) (.slice b2 c.ways.length d2))
  have Q3 := Lib.hid (ho3.low (k := w.heap.size + 1 + 1) (j := 2) (by simp; omega) (.slice b2 c.ways.length d2))
  clear o0 o1 o2 p0 p1 p2 g0 g1 g2 ho3 hb3
  obtain ⟨⟨o0, o1, o2⟩, p0, p1, p2⟩ := O3.out.cells
  obtain ⟨⟨r0, r1, r2⟩, q0, q1, q2⟩ := R3.out.cells
  have hn : w.heap.size + 1 + 1 ≠ w.heap.size + 1 := by omega
  go_wp2
  refine bodyPost_ret (v := .agg (confV c b1 d1 b2 d2)) (by simp [results, Tryd.results65, go_sem, r0, r1, r2]) rfl ⟨b1, d1, b2, d2, rfl, ?_, ?_⟩
  · refine ⟨ownsRow_base ((((P3.out.low (k := w.heap.size + 1) (j := 0) (by simp) _).low (k := w.heap.size + 1) (j := 1) (by simp) _).low (k := w.heap.size + 1) (j := 2) (by simp) _)) (by simp; omega), ownsRow_base ((((Q3.out.low (k := w.heap.size + 1) (j := 0) (by simp; omega) _).low (k := w.heap.size + 1) (j := 1) (by simp; omega) _).low (k := w.heap.size + 1) (j := 2) (by simp; omega) _)) (by simp; omega), NE.out⟩
  · exact ((B3.out.setCell (p := ⟨w.heap.size + 1, 0, none⟩) (by simp) _).setCell (p := ⟨w.heap.size + 1, 1, none⟩) (by simp) _).setCell (p := ⟨w.heap.size + 1, 2, none⟩) (by simp) _

set_option maxHeartbeats 1600000 in
set_option maxRecDepth 100000 in
theorem eqConf_same (c : ConfD) (a1 : Option Addr) (c1 : Nat) (a2 : Option Addr) (c2 : Nat) (b1 : Option Addr) (d1 : Nat) (b2 : Option Addr) (d2 : Nat) (w : World) (ha : ConfAt w c a1 a2) (hb : ConfAt w c b1 b2) (h1 : c.own.length ≤ 1048576) (h2 : c.ways.length ≤ 1048576) :
    Calls Tryd.prog 67 #[.agg (confV c a1 c1 a2 c2), .agg (confV c b1 d1 b2 d2)] w fun e w' => e = .returned (.bool true) ∧ Below w.heap.size w w' := by
  have HA := Lib.hid ha
  have HB := Lib.hid hb
  have X0 := Lib.hid ((ThreeAt.new w (.string c.name) (.slice a1 c.own.length c1) (.slice a2 c.ways.length c2) 26).later ((Below.refl _ _).alloc (Nat.le_refl _) (.cells (confV c b1 d1 b2 d2) 26)))
  have Y0 := Lib.hid (ThreeAt.new (w.alloc (.cells (confV c a1 c1 a2 c2) 26)) (.string c.name) (.slice b1 c.own.length d1) (.slice b2 c.ways.length d2) 26)
  have hb0 : Below w.heap.size w ((w.alloc (.cells (confV c a1 c1 a2 c2) 26)).alloc (.cells (confV c b1 d1 b2 d2) 26)) := ((Below.refl _ _).alloc (Nat.le_refl _) _).alloc (by simp) _
  clear ha hb
  go_enter Tryd.func67, Tryd.ntmps67
  go_wp2_with fail
  refine (eqStringS_same a1 b1 c1 d1 c.own _ (HA.out.own.below hb0 (Nat.le_refl _)) (HB.out.own.below hb0 (Nat.le_refl _)) h1).mono ?_
  rintro e w2 ⟨rfl, n, rfl⟩
  have B2 := drewN_below hb0 n
  obtain ⟨x0, x1, x2⟩ := (X0.out.later (below_drewN _ _ n)).cells
  obtain ⟨y0, y1, y2⟩ := (Y0.out.later (below_drewN _ _ n)).cells
  simp only [World.size_alloc] at y0 y1 y2
  go_wp2_with fail
  refine (eqWayS_same a2 b2 c2 d2 c.ways _ (HA.out.ways.below B2 (Nat.le_refl _)) (HB.out.ways.below B2 (Nat.le_refl _)) h2).mono ?_
  rintro e w3 ⟨rfl, hb3⟩
  have B3 := B2.trans (hb3.mono B2.size)
  go_wp2
  go_ret
  exact ⟨rfl, B3⟩
end Go.Proofs.YtgjkoegpdfcadaaDoor
