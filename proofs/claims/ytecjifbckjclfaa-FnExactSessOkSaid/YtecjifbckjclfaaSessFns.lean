/- Contracts: the laws' helpers on a server's state: what is left of a size, copies, comparisons. -/
import Derived.Test.YtecjifbckjclfaaMailFns
import Derived.Test.YtecjifbckjclfaaCells
namespace Go.Proofs.Ytecjifbckjclfaa
open Go Go.RowKit

structure SessD where
  st : Int
  m : MailD
  bad : Bool
  buf : ByteArray
abbrev sessV (s : SessD) (a1 : Option Addr) (c1 : Nat) (a2 : Option Addr) (c2 : Nat) : Array Value := #[.int .i64 s.st, .string s.m.fu, .string s.m.fd, .slice a1 s.m.rc.length c1, .slice a2 s.m.body.length c2, .bool s.bad, .string s.buf]
structure SessSz (N : Nat) (s : SessD) : Prop where
  m : MailSz N s.m
  buf : s.buf.size ≤ N
def leftS (s : SessD) (left : Int) : Int := if leftM s.m left < 0 then -1 else if leftM s.m left - s.buf.size < 0 then -1 else leftM s.m left - s.buf.size
theorem leftM_le {m : MailD} {left : Int} (h : 0 ≤ left) : leftM m left ≤ left := by
  unfold leftM
  split
  · omega
  · split
    · omega
    · have h1 := leftA_le m.fu m.fd h
      have h2 := leftP_le (ps := m.rc) (left := leftA m.fu m.fd left) (by omega)
      have h3 := leftB_le m.body (left := leftP m.rc (leftA m.fu m.fd left)) (by omega)
      omega
theorem leftS_small {s : SessD} {left : Int} (h : ¬ leftS s left < 0) (h0 : 0 ≤ left) (h1 : left ≤ 1048576) : SessSz 1048576 s := by
  unfold leftS at h
  split at h
  · exact absurd (show (-1 : Int) < 0 by decide) h
  · rename_i hM
    have := leftM_le (m := s.m) h0
    split at h
    · exact absurd (show (-1 : Int) < 0 by decide) h
    · exact ⟨leftM_small hM h0 h1, by omega⟩

set_option maxHeartbeats 800000 in
set_option maxRecDepth 100000 in
theorem szSess_any (s : SessD) (a1 : Option Addr) (c1 : Nat) (a2 : Option Addr) (c2 : Nat) (left : Int) (w : World) (hat : MailAt w s.m a1 a2) (hsz : SessSz maxLen s) (h0 : 0 ≤ left) (h1 : left ≤ 1048576) :
    Calls Try.prog 4 #[.agg (sessV s a1 c1 a2 c2), .int .i64 left] w fun e w' => e = .returned (.int .i64 (leftS s left)) ∧ Below w.heap.size w w' := by
  have hb0 : Below w.heap.size w (w.alloc (.cells (sessV s a1 c1 a2 c2) 29)) := (Below.refl _ _).alloc (Nat.le_refl _) _
  have HAT := Lib.hid hat
  have HF := Lib.hid (CellsM.new w (sessV s a1 c1 a2 c2) 29)
  have HS := Lib.hid hsz.m
  have zb := hsz.buf
  unfold maxLen at zb
  have lm := leftM_le (m := s.m) h0
  clear hat hsz
  obtain ⟨l, hl⟩ : ∃ l, leftM s.m left = l := ⟨_, rfl⟩
  rw [hl] at lm
  have HL := Lib.hid hl
  by_cases n1 : l < 0
  · have hq : Hid (leftS s left = -1) := Lib.hid (by unfold leftS; rw [hl, if_pos n1])
    clear hl
    go_enter Try.func4, Try.ntmps4
    go_wp2_with fail
    refine (szMail_any s.m a1 c1 a2 c2 left _ (HAT.out.below hb0 (Nat.le_refl _)) HS.out h0 h1).mono ?_
    rintro e w1 ⟨rfl, hb1⟩
    rw [HL.out]
    have B1 := hb0.trans (hb1.mono (by simp))
    go_wp2
    go_ret
    exact ⟨ret_i hq.out.symm, B1⟩
  · have hlz : -9223372036854775808 ≤ l - s.buf.size ∧ l - s.buf.size ≤ 9223372036854775807 := by omega
    have hw : IntKind.i64.wrap (l - s.buf.size) = l - s.buf.size := IntWalk.i64_in _ (by omega)
    by_cases n2 : l - s.buf.size < 0
    · have hq : Hid (leftS s left = -1) := Lib.hid (by unfold leftS; rw [hl, if_neg n1, if_pos n2])
      clear hl
      go_enter Try.func4, Try.ntmps4
      go_wp2_with fail
      refine (szMail_any s.m a1 c1 a2 c2 left _ (HAT.out.below hb0 (Nat.le_refl _)) HS.out h0 h1).mono ?_
      rintro e w1 ⟨rfl, hb1⟩
      rw [HL.out]
      have B1 := hb0.trans (hb1.mono (by simp))
      have g6 := (HF.out.later hb1).c 6 _ rfl
      go_wp2
      go_ret
      exact ⟨ret_i hq.out.symm, B1⟩
    · have hq : Hid (leftS s left = l - s.buf.size) := Lib.hid (by unfold leftS; rw [hl, if_neg n1, if_neg n2])
      clear hl
      go_enter Try.func4, Try.ntmps4
      go_wp2_with fail
      refine (szMail_any s.m a1 c1 a2 c2 left _ (HAT.out.below hb0 (Nat.le_refl _)) HS.out h0 h1).mono ?_
      rintro e w1 ⟨rfl, hb1⟩
      rw [HL.out]
      have B1 := hb0.trans (hb1.mono (by simp))
      have g6 := (HF.out.later hb1).c 6 _ rfl
      go_wp2
      go_ret
      exact ⟨ret_i hq.out.symm, B1⟩

theorem MailOwn.low {w : World} {B : Nat} {m : MailD} {a1 : Option Addr} {c1 : Nat} {a2 : Option Addr} {c2 : Nat} (h : MailOwn w B m a1 c1 a2 c2) {k : Nat} (hk : k < B) (j : Nat) (v : Value) : MailOwn (w.setCell ⟨k, j, none⟩ v) B m a1 c1 a2 c2 := ⟨h.rc.low hk v, h.body.low hk v, h.ne⟩

set_option maxHeartbeats 1600000 in
set_option maxRecDepth 100000 in
theorem toSess_any (s : SessD) (a1 : Option Addr) (c1 : Nat) (a2 : Option Addr) (c2 : Nat) (w : World) (hat : MailAt w s.m a1 a2) (hsz : MailSz 1048576 s.m) :
    Calls Try.prog 6 #[.agg (sessV s a1 c1 a2 c2)] w fun e w' => ∃ b1 d1 b2 d2, e = .returned (.agg (sessV s b1 d1 b2 d2)) ∧ MailAt w' s.m b1 b2 ∧ Below w.heap.size w w' := by
  have HAT := Lib.hid hat
  have HS := Lib.hid hsz
  have A0 := Lib.hid (((CellsM.new w (sessV s a1 c1 a2 c2) 29).more (.cells #[.int .i64 0, .string { data := #[] }, .string { data := #[] }, .slice none 0 0, .slice none 0 0, .bool false, .string { data := #[] }] 37)).more (.cells #[.int .i64 s.st, .string { data := #[] }, .string { data := #[] }, .slice none 0 0, .slice none 0 0, .bool false, .string { data := #[] }] 37))
  have R0 := Lib.hid ((CellsM.new (w.alloc (.cells (sessV s a1 c1 a2 c2) 29)) #[.int .i64 0, .string { data := #[] }, .string { data := #[] }, .slice none 0 0, .slice none 0 0, .bool false, .string { data := #[] }] 37).more (.cells #[.int .i64 s.st, .string { data := #[] }, .string { data := #[] }, .slice none 0 0, .slice none 0 0, .bool false, .string { data := #[] }] 37))
  have O0 := Lib.hid (CellsM.new ((w.alloc (.cells (sessV s a1 c1 a2 c2) 29)).alloc (.cells #[.int .i64 0, .string { data := #[] }, .string { data := #[] }, .slice none 0 0, .slice none 0 0, .bool false, .string { data := #[] }] 37)) #[.int .i64 s.st, .string { data := #[] }, .string { data := #[] }, .slice none 0 0, .slice none 0 0, .bool false, .string { data := #[] }] 37)
  have hb0 := Lib.hid (show Below w.heap.size w (((w.alloc (.cells (sessV s a1 c1 a2 c2) 29)).alloc (.cells #[.int .i64 0, .string { data := #[] }, .string { data := #[] }, .slice none 0 0, .slice none 0 0, .bool false, .string { data := #[] }] 37)).alloc (.cells #[.int .i64 s.st, .string { data := #[] }, .string { data := #[] }, .slice none 0 0, .slice none 0 0, .bool false, .string { data := #[] }] 37)) from (((Below.refl _ _).alloc (Nat.le_refl _) _).alloc (by simp) _).alloc (by simp; omega) _)
  simp only [World.size_alloc] at R0 O0
  clear hat hsz
  go_enter Try.func6, Try.ntmps6
  go_wp2_with fail
  refine (toMail_any s.m a1 c1 a2 c2 _ (HAT.out.below hb0.out (Nat.le_refl _)) HS.out).mono ?_
  rintro e w1 ⟨b1, d1, b2, d2, rfl, o1, hb1⟩
  have hz1 := hb1.size
  simp only [World.size_alloc] at hz1
  have A1 := A0.out.later hb1
  have R1 := R0.out.later hb1
  have O1 := O0.out.later hb1
  have B1 := Lib.hid (hb0.out.trans (hb1.mono hb0.out.size))
  have OW := Lib.hid o1
  simp only [World.size_alloc] at OW
  have g5 := A1.c 5 _ rfl
  have g6 := A1.c 6 _ rfl
  have o0 := O1.c 0 _ rfl
  have o1' := O1.c 1 _ rfl
  have o2 := O1.c 2 _ rfl
  have o3 := O1.c 3 _ rfl
  have o4 := O1.c 4 _ rfl
  have o5 := O1.c 5 _ rfl
  have o6 := O1.c 6 _ rfl
  have p1 := O1.f 1 (by simp)
  have p2 := O1.f 2 (by simp)
  have p3 := O1.f 3 (by simp)
  have p4 := O1.f 4 (by simp)
  have p5 := O1.f 5 (by simp)
  have p6 := O1.f 6 (by simp)
  have r0 := R1.c 0 _ rfl
  have r1 := R1.c 1 _ rfl
  have r2 := R1.c 2 _ rfl
  have r3 := R1.c 3 _ rfl
  have r4 := R1.c 4 _ rfl
  have r5 := R1.c 5 _ rfl
  have r6 := R1.c 6 _ rfl
  have s0 := R1.f 0 (by simp)
  have s1 := R1.f 1 (by simp)
  have s2 := R1.f 2 (by simp)
  have s3 := R1.f 3 (by simp)
  have s4 := R1.f 4 (by simp)
  have s5 := R1.f 5 (by simp)
  have s6 := R1.f 6 (by simp)
  have hn : w.heap.size + 1 + 1 ≠ w.heap.size + 1 := by omega
  clear A1 R1 O1 o1 hb1
  go_wp2
  refine bodyPost_ret (v := .agg (sessV s b1 d1 b2 d2)) (by simp [results, Try.results6, go_sem, r0, r1, r2, r3, r4, r5, r6]) rfl ⟨b1, d1, b2, d2, rfl, ?_, ?_⟩
  · refine MailOwn.at (B := w.heap.size + 1 + 1 + 1) (c1 := d1) (c2 := d2) ?_
    iterate 13 (refine MailOwn.low ?_ (by omega) _ _)
    exact OW.out
  · iterate 13 (refine Below.setCell ?_ (by simp <;> omega) _)
    exact B1.out

set_option maxHeartbeats 1600000 in
set_option maxRecDepth 100000 in
theorem eqSess_same (s : SessD) (a1 : Option Addr) (c1 : Nat) (a2 : Option Addr) (c2 : Nat) (b1 : Option Addr) (d1 : Nat) (b2 : Option Addr) (d2 : Nat) (w : World) (ha : MailAt w s.m a1 a2) (hb : MailAt w s.m b1 b2) (h1 : s.m.rc.length ≤ 1048576) (h2 : s.m.body.length ≤ 1048576) :
    Calls Try.prog 8 #[.agg (sessV s a1 c1 a2 c2), .agg (sessV s b1 d1 b2 d2)] w fun e w' => e = .returned (.bool true) ∧ Below w.heap.size w w' := by
  have HA := Lib.hid ha
  have HB := Lib.hid hb
  have X0 := Lib.hid ((CellsM.new w (sessV s a1 c1 a2 c2) 37).more (.cells (sessV s b1 d1 b2 d2) 37))
  have Y0 := Lib.hid (CellsM.new (w.alloc (.cells (sessV s a1 c1 a2 c2) 37)) (sessV s b1 d1 b2 d2) 37)
  simp only [World.size_alloc] at Y0
  have hb0 : Below w.heap.size w ((w.alloc (.cells (sessV s a1 c1 a2 c2) 37)).alloc (.cells (sessV s b1 d1 b2 d2) 37)) := ((Below.refl _ _).alloc (Nat.le_refl _) _).alloc (by simp) _
  have q1 : (s.st != s.st) = false := by simp
  have q2 : (s.bad != s.bad) = false := by simp
  clear ha hb
  go_enter Try.func8, Try.ntmps8
  go_wp2_with fail
  refine (eqMail_same s.m a1 c1 a2 c2 b1 d1 b2 d2 _ (HA.out.below hb0 (Nat.le_refl _)) (HB.out.below hb0 (Nat.le_refl _)) h1 h2).mono ?_
  rintro e w1 ⟨rfl, hb1⟩
  have X1 := X0.out.later hb1
  have Y1 := Y0.out.later hb1
  have B1 := hb0.trans (hb1.mono hb0.size)
  have x5 := X1.c 5 _ rfl
  have x6 := X1.c 6 _ rfl
  have y5 := Y1.c 5 _ rfl
  have y6 := Y1.c 6 _ rfl
  clear X1 Y1 hb1 hb0
  go_wp2
  go_ret
  exact ⟨rfl, B1⟩
end Go.Proofs.Ytecjifbckjclfaa
