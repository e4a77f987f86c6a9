/- Contracts: the laws' helpers on a client's state: what is left of a size, copies, comparisons. -/
import Derived.Test.YtecjifbckjclfaaDoorMailFns
import Derived.Test.YtecjifbckjclfaaDoorCells
import Derived.Test.YtecjifbckjclfaaDoorInts
import Derived.Test.YtecjifbckjclfaaDoorSessLow
namespace Go.Proofs.YtecjifbckjclfaaDoor
open Go Go.RowKit

structure CliD where
  nm : ByteArray
  m : MailD
  st : Int
  pos : Int
  outs : List Int
abbrev cliV (c : CliD) (a1 : Option Addr) (c1 : Nat) (a2 : Option Addr) (c2 : Nat) (a3 : Option Addr) (c3 : Nat) : Array Value := #[.string c.nm, .string c.m.fu, .string c.m.fd, .slice a1 c.m.rc.length c1, .slice a2 c.m.body.length c2, .int .i64 c.st, .int .i64 c.pos, .slice a3 c.outs.length c3]
structure CliSz (N : Nat) (c : CliD) : Prop where
  nm : c.nm.size ≤ N
  m : MailSz N c.m
  outs : c.outs.length ≤ N
structure CliAt (w : World) (c : CliD) (a1 a2 a3 : Option Addr) : Prop where
  m : MailAt w c.m a1 a2
  outs : IntRow w a3 c.outs
theorem CliAt.below {B : Nat} {w w' : World} {c : CliD} {a1 a2 a3 : Option Addr} (h : CliAt w c a1 a2 a3) (hb : Below B w w') (hB : w.heap.size ≤ B) : CliAt w' c a1 a2 a3 := ⟨h.m.below hb hB, h.outs.below hb hB⟩
theorem CliAt.later {w w' : World} {c : CliD} {a1 a2 a3 : Option Addr} (h : CliAt w c a1 a2 a3) (hb : Below w.heap.size w w') : CliAt w' c a1 a2 a3 := h.below hb (Nat.le_refl _)
def leftCl (c : CliD) (left : Int) : Int :=
  if left - c.nm.size < 0 then -1 else if leftM c.m (left - c.nm.size) < 0 then -1 else leftI c.outs (leftM c.m (left - c.nm.size))
theorem leftI_small {xs : List Int} {left : Int} (h : ¬ leftI xs left < 0) (h1 : left ≤ 1048576) : xs.length ≤ 1048576 := by
  unfold leftI at h
  split at h
  · omega
  · exact absurd (show (-1 : Int) < 0 by decide) h
theorem leftCl_small {c : CliD} {left : Int} (h : ¬ leftCl c left < 0) (h1 : left ≤ 1048576) : CliSz 1048576 c := by
  unfold leftCl at h
  split at h
  · exact absurd (show (-1 : Int) < 0 by decide) h
  · rename_i h2
    split at h
    · exact absurd (show (-1 : Int) < 0 by decide) h
    · rename_i h3
      have := leftM_le (m := c.m) (left := left - c.nm.size) (by omega)
      exact ⟨by omega, leftM_small h3 (by omega) (by omega), leftI_small h (by omega)⟩

set_option maxHeartbeats 800000 in
set_option maxRecDepth 100000 in
theorem szCli_any (c : CliD) (a1 : Option Addr) (c1 : Nat) (a2 : Option Addr) (c2 : Nat) (a3 : Option Addr) (c3 : Nat) (left : Int) (w : World) (hat : CliAt w c a1 a2 a3) (hsz : CliSz maxLen c) (h0 : 0 ≤ left) (h1 : left ≤ 1048576) :
    Calls Tryd.prog 61 #[.agg (cliV c a1 c1 a2 c2 a3 c3), .int .i64 left] w fun e w' => e = .returned (.int .i64 (leftCl c left)) ∧ Below w.heap.size w w' := by
  have hb0 : Below w.heap.size w (w.alloc (.cells (cliV c a1 c1 a2 c2 a3 c3) 89)) := (Below.refl _ _).alloc (Nat.le_refl _) _
  have HAT := Lib.hid hat
  have HF := Lib.hid (CellsM.new w (cliV c a1 c1 a2 c2 a3 c3) 89)
  have HS := Lib.hid hsz.m
  have zb := hsz.nm
  have zo := hsz.outs
  unfold maxLen at zb zo
  clear hat hsz
  have hw : IntKind.i64.wrap (left - c.nm.size) = left - c.nm.size := IntWalk.i64_in _ (by omega)
  by_cases n0 : left - c.nm.size < 0
  · have hq : Hid (leftCl c left = -1) := Lib.hid (by unfold leftCl; rw [if_pos n0])
    go_enter Tryd.func61, Tryd.ntmps61
    go_wp2
    go_ret
    exact ⟨ret_i hq.out.symm, hb0⟩
  · have lm := leftM_le (m := c.m) (left := left - c.nm.size) (by omega)
    obtain ⟨l, hl⟩ : ∃ l, leftM c.m (left - c.nm.size) = l := ⟨_, rfl⟩
    rw [hl] at lm
    have HL := Lib.hid hl
    by_cases n1 : l < 0
    · have hq : Hid (leftCl c left = -1) := Lib.hid (by unfold leftCl; rw [if_neg n0, hl, if_pos n1])
      clear hl
      go_enter Tryd.func61, Tryd.ntmps61
      go_wp2_with fail
      refine (szMail_any c.m a1 c1 a2 c2 _ _ (HAT.out.m.below hb0 (Nat.le_refl _)) HS.out (by omega) (by omega)).mono ?_
      rintro e w1 ⟨rfl, hb1⟩
      rw [HL.out]
      have B1 := hb0.trans (hb1.mono (by simp))
      go_wp2
      go_ret
      exact ⟨ret_i hq.out.symm, B1⟩
    · have hq : Hid (leftCl c left = leftI c.outs l) := Lib.hid (by unfold leftCl; rw [if_neg n0, hl, if_neg n1])
      obtain ⟨lI, hI⟩ : ∃ lI, leftI c.outs l = lI := ⟨_, rfl⟩
      have HI := Lib.hid hI
      have hIz : lI = -1 ∨ 0 ≤ lI := by
        rw [← hI]; unfold leftI; split <;> omega
      clear hl hI
      rcases hIz with rfl | hIz
      all_goals
        go_enter Tryd.func61, Tryd.ntmps61
        go_wp2_with fail
        refine (szMail_any c.m a1 c1 a2 c2 _ _ (HAT.out.m.below hb0 (Nat.le_refl _)) HS.out (by omega) (by omega)).mono ?_
        rintro e w1 ⟨rfl, hb1⟩
        rw [HL.out]
        have B1 := hb0.trans (hb1.mono (by simp))
        have g7 := (HF.out.later hb1).c 7 _ rfl
        go_wp2_with fail
        refine (szIntS_any a3 c3 c.outs l _ (by omega) (by omega) (by omega)).mono ?_
        rintro e w2 ⟨rfl, rfl⟩
        rw [HI.out]
        go_wp2
        go_ret
        exact ⟨ret_i (by rw [hq.out, HI.out]), B1⟩

/-- A client's state of the call's own. -/
structure CliOwn (w : World) (B : Nat) (c : CliD) (a1 : Option Addr) (c1 : Nat) (a2 : Option Addr) (c2 : Nat) (a3 : Option Addr) (c3 : Nat) : Prop where
  m : MailOwn w B c.m a1 c1 a2 c2
  outs : w.ownsRow B 3 1 (.slice a3 c.outs.length c3) c.outs.length (c.outs.map (Value.int .i64))
theorem CliOwn.at {w : World} {B : Nat} {c : CliD} {a1 : Option Addr} {c1 : Nat} {a2 : Option Addr} {c2 : Nat} {a3 : Option Addr} {c3 : Nat} (h : CliOwn w B c a1 c1 a2 c2 a3 c3) : CliAt w c a1 a2 a3 := ⟨h.m.at, IntRow.of_own h.outs⟩

set_option maxHeartbeats 3200000 in
set_option maxRecDepth 100000 in
theorem toCli_any (c : CliD) (a1 : Option Addr) (c1 : Nat) (a2 : Option Addr) (c2 : Nat) (a3 : Option Addr) (c3 : Nat) (w : World) (hat : CliAt w c a1 a2 a3) (hsz : CliSz 1048576 c) :
    Calls Tryd.prog 63 #[.agg (cliV c a1 c1 a2 c2 a3 c3)] w fun e w' => ∃ b1 d1 b2 d2 b3 d3, e = .returned (.agg (cliV c b1 d1 b2 d2 b3 d3)) ∧ CliOwn w' w.heap.size c b1 d1 b2 d2 b3 d3 ∧ Below w.heap.size w w' := by
  have HAT := Lib.hid hat
  have HS := Lib.hid hsz.m
  have zo := hsz.outs
  have A0 := Lib.hid (((CellsM.new w (cliV c a1 c1 a2 c2 a3 c3) 89).more (.cells #[.string { data := #[] }, .string { data := #[] }, .string { data := #[] }, .slice none 0 0, .slice none 0 0, .int .i64 0, .int .i64 0, .slice none 0 0] 64)).more (.cells #[.string c.nm, .string { data := #[] }, .string { data := #[] }, .slice none 0 0, .slice none 0 0, .int .i64 0, .int .i64 0, .slice none 0 0] 64))
  have R0 := Lib.hid ((CellsM.new (w.alloc (.cells (cliV c a1 c1 a2 c2 a3 c3) 89)) #[.string { data := #[] }, .string { data := #[] }, .string { data := #[] }, .slice none 0 0, .slice none 0 0, .int .i64 0, .int .i64 0, .slice none 0 0] 64).more (.cells #[.string c.nm, .string { data := #[] }, .string { data := #[] }, .slice none 0 0, .slice none 0 0, .int .i64 0, .int .i64 0, .slice none 0 0] 64))
  have O0 := Lib.hid (CellsM.new ((w.alloc (.cells (cliV c a1 c1 a2 c2 a3 c3) 89)).alloc (.cells #[.string { data := #[] }, .string { data := #[] }, .string { data := #[] }, .slice none 0 0, .slice none 0 0, .int .i64 0, .int .i64 0, .slice none 0 0] 64)) #[.string c.nm, .string { data := #[] }, .string { data := #[] }, .slice none 0 0, .slice none 0 0, .int .i64 0, .int .i64 0, .slice none 0 0] 64)
  have hb0 := Lib.hid (show Below w.heap.size w (((w.alloc (.cells (cliV c a1 c1 a2 c2 a3 c3) 89)).alloc (.cells #[.string { data := #[] }, .string { data := #[] }, .string { data := #[] }, .slice none 0 0, .slice none 0 0, .int .i64 0, .int .i64 0, .slice none 0 0] 64)).alloc (.cells #[.string c.nm, .string { data := #[] }, .string { data := #[] }, .slice none 0 0, .slice none 0 0, .int .i64 0, .int .i64 0, .slice none 0 0] 64)) from (((Below.refl _ _).alloc (Nat.le_refl _) _).alloc (by simp) _).alloc (by simp; omega) _)
  simp only [World.size_alloc] at R0 O0
  clear hat hsz
  have hn : w.heap.size + 1 + 1 ≠ w.heap.size + 1 := by omega
  have hn' : w.heap.size + 1 + 1 ≠ w.heap.size := by omega
  go_enter Tryd.func63, Tryd.ntmps63
  go_wp2_with fail
  refine (toMail_any c.m a1 c1 a2 c2 _ (HAT.out.m.below hb0.out (Nat.le_refl _)) HS.out).mono ?_
  rintro e w1 ⟨b1, d1, b2, d2, rfl, o1, hb1⟩
  have hz1 := hb1.size
  simp only [World.size_alloc] at hz1
  have OW := Lib.hid o1
  simp only [World.size_alloc] at OW
  have A1 := A0.out.later hb1
  have O1 := O0.out.later hb1
  have R1 := Lib.hid (R0.out.later hb1)
  have B1 := Lib.hid (hb0.out.trans (hb1.mono hb0.out.size))
  have g0 := A1.c 0 _ rfl
  have g1 := A1.c 1 _ rfl
  have g2 := A1.c 2 _ rfl
  have g3 := A1.c 3 _ rfl
  have g4 := A1.c 4 _ rfl
  have g5 := A1.c 5 _ rfl
  have g6 := A1.c 6 _ rfl
  have g7 := A1.c 7 _ rfl
  have o0 := O1.c 0 _ rfl
  have p0 := O1.f 0 (by simp)
  have o1' := O1.c 1 _ rfl
  have p1 := O1.f 1 (by simp)
  have o2 := O1.c 2 _ rfl
  have p2 := O1.f 2 (by simp)
  have o3 := O1.c 3 _ rfl
  have p3 := O1.f 3 (by simp)
  have o4 := O1.c 4 _ rfl
  have p4 := O1.f 4 (by simp)
  have o5 := O1.c 5 _ rfl
  have p5 := O1.f 5 (by simp)
  have o6 := O1.c 6 _ rfl
  have p6 := O1.f 6 (by simp)
  have o7 := O1.c 7 _ rfl
  have p7 := O1.f 7 (by simp)
  clear o1 hb1
  have KO := Lib.hid O1
  clear A1 O1
  go_wp2_with fail
  obtain ⟨W2, hW2⟩ : ∃ W2, W2 = (((((w1.setCell ⟨w.heap.size + 1 + 1, 1, none⟩ (.string c.m.fu)).setCell ⟨w.heap.size + 1 + 1, 2, none⟩ (.string c.m.fd)).setCell ⟨w.heap.size + 1 + 1, 3, none⟩ (.slice b1 c.m.rc.length d1)).setCell ⟨w.heap.size + 1 + 1, 4, none⟩ (.slice b2 c.m.body.length d2)).setCell ⟨w.heap.size + 1 + 1, 5, none⟩ (.int .i64 c.st)).setCell ⟨w.heap.size + 1 + 1, 6, none⟩ (.int .i64 c.pos) := ⟨_, rfl⟩
  have K2 : Hid (CellsM W2 (w.heap.size + 1 + 1) [.string c.nm, .string c.m.fu, .string c.m.fd, .slice b1 c.m.rc.length d1, .slice b2 c.m.body.length d2, .int .i64 c.st, .int .i64 c.pos, .slice none 0 0]) := Lib.hid (by
    rw [hW2]
    exact (((((KO.out.set 1 _ (by simp)).set 2 _ (by simp)).set 3 _ (by simp)).set 4 _ (by simp)).set 5 _ (by simp)).set 6 _ (by simp))
  have R2 : Hid (CellsM W2 (w.heap.size + 1) [.string { data := #[] }, .string { data := #[] }, .string { data := #[] }, .slice none 0 0, .slice none 0 0, .int .i64 0, .int .i64 0, .slice none 0 0]) := Lib.hid (by
    rw [hW2]
    exact (((((R1.out.far _ hn).far _ hn).far _ hn).far _ hn).far _ hn).far _ hn)
  have B2 : Hid (Below w.heap.size w W2) := Lib.hid (by
    rw [hW2]
    iterate 6 (refine Below.setCell ?_ (by simp <;> omega) _)
    exact B1.out)
  have OW2 : Hid (MailOwn W2 (w.heap.size + 1 + 1 + 1) c.m b1 d1 b2 d2) := Lib.hid (by
    rw [hW2]
    iterate 6 (refine MailOwn.low ?_ (by omega) _ _)
    exact OW.out)
  have hs2 : w.heap.size + 1 + 1 + 1 ≤ W2.heap.size := by rw [hW2]; simp; omega
  rw [← hW2]
  clear hW2 KO R1 B1 OW g0 g1 g2 g3 g4 g5 g6 g7 o0 o1' o2 o3 o4 o5 o6 o7 p0 p1 p2 p3 p4 p5 p6 p7
  refine (toIntS_any a3 c3 c.outs W2 (HAT.out.outs.below B2.out (Nat.le_refl _)) zo).mono ?_
  rintro e w3 ⟨b3, d3, rfl, ow3, hb3⟩
  have O3 := K2.out.later hb3
  have R3 := R2.out.later hb3
  have OW3 := Lib.hid (OW2.out.later hb3)
  have B3 := Lib.hid (B2.out.trans (hb3.mono B2.out.size))
  have I3 := Lib.hid (ownsRow_base ow3 hs2)
  have o0 := O3.c 0 _ rfl
  have o1 := O3.c 1 _ rfl
  have o2 := O3.c 2 _ rfl
  have o3 := O3.c 3 _ rfl
  have o4 := O3.c 4 _ rfl
  have o5 := O3.c 5 _ rfl
  have o6 := O3.c 6 _ rfl
  have o7 := O3.c 7 _ rfl
  have p7 := O3.f 7 (by simp)
  have r0 := R3.c 0 _ rfl
  have s0 := R3.f 0 (by simp)
  have r1 := R3.c 1 _ rfl
  have s1 := R3.f 1 (by simp)
  have r2 := R3.c 2 _ rfl
  have s2 := R3.f 2 (by simp)
  have r3 := R3.c 3 _ rfl
  have s3 := R3.f 3 (by simp)
  have r4 := R3.c 4 _ rfl
  have s4 := R3.f 4 (by simp)
  have r5 := R3.c 5 _ rfl
  have s5 := R3.f 5 (by simp)
  have r6 := R3.c 6 _ rfl
  have s6 := R3.f 6 (by simp)
  have r7 := R3.c 7 _ rfl
  have s7 := R3.f 7 (by simp)
  clear O3 R3 ow3 hb3 K2 R2 OW2 B2
  go_wp2
  refine bodyPost_ret (v := .agg (cliV c b1 d1 b2 d2 b3 d3)) (by simp [results, Tryd.results63, go_sem, r0, r1, r2, r3, r4, r5, r6, r7]) rfl ⟨b1, d1, b2, d2, b3, d3, rfl, ⟨?_, ?_⟩, ?_⟩
  · refine (?_ : MailOwn _ (w.heap.size + 1 + 1 + 1) c.m b1 d1 b2 d2).base (by omega)
    iterate 9 (refine MailOwn.low ?_ (by omega) _ _)
    exact OW3.out
  · refine ownsRow_base (B := w.heap.size + 1 + 1 + 1) ?_ (by omega)
    iterate 9 (refine own_low ?_ (by omega) _)
    exact I3.out
  · iterate 9 (refine Below.setCell ?_ (by simp <;> omega) _)
    exact B3.out

set_option maxHeartbeats 1600000 in
set_option maxRecDepth 100000 in
theorem eqCli_same (c : CliD) (a1 : Option Addr) (c1 : Nat) (a2 : Option Addr) (c2 : Nat) (a3 : Option Addr) (c3 : Nat) (b1 : Option Addr) (d1 : Nat) (b2 : Option Addr) (d2 : Nat) (b3 : Option Addr) (d3 : Nat) (w : World) (ha : CliAt w c a1 a2 a3) (hb : CliAt w c b1 b2 b3) (h1 : c.m.rc.length ≤ 1048576) (h2 : c.m.body.length ≤ 1048576) (h3 : c.outs.length ≤ 1048576) :
    Calls Tryd.prog 64 #[.agg (cliV c a1 c1 a2 c2 a3 c3), .agg (cliV c b1 d1 b2 d2 b3 d3)] w fun e w' => e = .returned (.bool true) ∧ Below w.heap.size w w' := by
  have HA := Lib.hid ha
  have HB := Lib.hid hb
  have X0 := Lib.hid ((CellsM.new w (cliV c a1 c1 a2 c2 a3 c3) 64).more (.cells (cliV c b1 d1 b2 d2 b3 d3) 64))
  have Y0 := Lib.hid (CellsM.new (w.alloc (.cells (cliV c a1 c1 a2 c2 a3 c3) 64)) (cliV c b1 d1 b2 d2 b3 d3) 64)
  simp only [World.size_alloc] at Y0
  have hb0 : Below w.heap.size w ((w.alloc (.cells (cliV c a1 c1 a2 c2 a3 c3) 64)).alloc (.cells (cliV c b1 d1 b2 d2 b3 d3) 64)) := ((Below.refl _ _).alloc (Nat.le_refl _) _).alloc (by simp) _
  have q1 : (c.st != c.st) = false := by simp
  have q2 : (c.pos != c.pos) = false := by simp
  clear ha hb
  go_enter Tryd.func64, Tryd.ntmps64
  go_wp2_with fail
  refine (eqMail_same c.m a1 c1 a2 c2 b1 d1 b2 d2 _ (HA.out.m.below hb0 (Nat.le_refl _)) (HB.out.m.below hb0 (Nat.le_refl _)) h1 h2).mono ?_
  rintro e w1 ⟨rfl, hb1⟩
  have X1 := X0.out.later hb1
  have Y1 := Y0.out.later hb1
  have B1 := hb0.trans (hb1.mono hb0.size)
  have x5 := X1.c 5 _ rfl
  have x6 := X1.c 6 _ rfl
  have x7 := X1.c 7 _ rfl
  have y5 := Y1.c 5 _ rfl
  have y6 := Y1.c 6 _ rfl
  have y7 := Y1.c 7 _ rfl
  clear X1 Y1 hb1 hb0
  go_wp2_with fail
  refine (eqIntS_same a3 b3 c3 d3 c.outs _ (HA.out.outs.below B1 (Nat.le_refl _)) (HB.out.outs.below B1 (Nat.le_refl _)) h3).mono ?_
  rintro e w3 ⟨rfl, n, rfl⟩
  go_wp2
  go_ret
  exact ⟨rfl, drewN_below B1 n⟩
end Go.Proofs.YtecjifbckjclfaaDoor
