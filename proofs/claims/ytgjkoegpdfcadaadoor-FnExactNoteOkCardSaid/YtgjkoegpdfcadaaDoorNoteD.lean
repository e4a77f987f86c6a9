/- Notes as data, in memory; the laws' helpers on them: sizes, copies, comparisons. -/
import Derived.Test.YtgjkoegpdfcadaaDoorMailRes
import Derived.Test.YtgjkoegpdfcadaaDoorRowOf
import Derived.Test.YtgjkoegpdfcadaaDoorPlainSpool
namespace Go.Proofs.YtgjkoegpdfcadaaDoor
open Go Go.RowKit

structure NoteD where
  kind : Int
  id : Int
  u : ByteArray
  d : ByteArray
  now : Int
  m : MailD
abbrev noteV (n : NoteD) (a1 : Option Addr) (c1 : Nat) (a2 : Option Addr) (c2 : Nat) : Array Value := #[.int .i64 n.kind, .int .i64 n.id, .string n.u, .string n.d, .int .i64 n.now, .string n.m.fu, .string n.m.fd, .slice a1 n.m.rc.length c1, .slice a2 n.m.body.length c2]
structure NoteSz (N : Nat) (n : NoteD) : Prop where
  u : n.u.size ≤ N
  d : n.d.size ≤ N
  m : MailSz N n.m
def leftNo (n : NoteD) (left : Int) : Int := if leftA n.u n.d left < 0 then -1 else leftM n.m (leftA n.u n.d left)
theorem leftNo_small {n : NoteD} (h : ¬ leftNo n 1048576 < 0) : NoteSz 1048576 n := by
  unfold leftNo at h
  split at h
  · exact absurd (show (-1 : Int) < 0 by decide) h
  · rename_i h2
    have l2 := leftA_le n.u n.d (left := 1048576) (by omega)
    have hm := leftM_small h (by omega) (by omega)
    have : n.u.size ≤ 1048576 ∧ n.d.size ≤ 1048576 := by
      unfold leftA at h2
      split at h2
      · omega
      · exact absurd (show (-1 : Int) < 0 by decide) h2
    exact ⟨this.1, this.2, hm⟩
theorem leftM_neg {m : MailD} {left : Int} (h : leftM m left < 0) : leftM m left = -1 := by
  unfold leftM at h ⊢
  split
  · rfl
  · rename_i h1
    rw [if_neg h1] at h
    split
    · rfl
    · rename_i h2
      rw [if_neg h2] at h
      unfold leftB at h ⊢
      split
      · rename_i h3; rw [if_pos h3] at h; omega
      · rfl

set_option maxHeartbeats 800000 in
set_option maxRecDepth 100000 in
theorem szNote_any (n : NoteD) (a1 : Option Addr) (c1 : Nat) (a2 : Option Addr) (c2 : Nat) (w : World) (hat : MailAt w n.m a1 a2) (hf : NoteSz maxLen n) :
    Calls Tryd.prog 57 #[.agg (noteV n a1 c1 a2 c2), .int .i64 1048576] w fun e w' => e = .returned (.int .i64 (leftNo n 1048576)) ∧ Below w.heap.size w w' := by
  have S0 : Seal _ := ⟨(St.start w).alloc (noteV n a1 c1 a2 c2) 95⟩
  have HA : Seal _ := ⟨hat⟩
  have HM : Seal _ := ⟨hf.m⟩
  have z1 := hf.u
  have z2 := hf.d
  unfold maxLen at z1 z2
  obtain ⟨l1, e1⟩ : ∃ l, leftA n.u n.d 1048576 = l := ⟨_, rfl⟩
  have L1 := leftA_le n.u n.d (left := 1048576) (by omega)
  rw [e1] at L1
  have E1 : Seal _ := ⟨e1⟩
  clear e1 hat hf
  go_enter Tryd.func57, Tryd.ntmps57
  go_wp2_with fail
  refine (szAddr_any n.u n.d 1048576 _ (by omega) (by omega) (by omega) (by omega)).mono ?_
  rintro e w1 ⟨rfl, hb1⟩
  rw [E1.out]
  have S1 : Seal _ := ⟨S0.out.later hb1⟩
  have K1 := S1.out.head
  have g5 := K1.c 5 _ rfl
  have g6 := K1.c 6 _ rfl
  have g7 := K1.c 7 _ rfl
  have g8 := K1.c 8 _ rfl
  clear hb1 S0 K1
  by_cases n1 : l1 < 0
  · have hm : Seal (leftNo n 1048576 = -1) := ⟨by unfold leftNo; rw [E1.out, if_pos n1]⟩
    go_wp2
    go_ret
    exact ⟨ret_i hm.out.symm, S1.out.below⟩
  obtain ⟨l2, e2⟩ : ∃ l, leftM n.m l1 = l := ⟨_, rfl⟩
  have Q2 : Seal (leftNo n 1048576 = l2) := ⟨by unfold leftNo; rw [E1.out, if_neg n1]; exact e2⟩
  have E2 : Seal _ := ⟨e2⟩
  have hneg : l2 < 0 → l2 = -1 := fun h => by rw [← e2] at h ⊢; exact leftM_neg h
  clear e2
  go_wp2_with fail
  refine (szMail_any n.m a1 c1 a2 c2 l1 _ (HA.out.below S1.out.below (Nat.le_refl _)) HM.out (by omega) (by omega)).mono ?_
  rintro e w2 ⟨rfl, hb2⟩
  rw [E2.out]
  have S2 : Seal _ := ⟨S1.out.later hb2⟩
  clear hb2 S1 g5 g6 g7 g8
  by_cases n2 : l2 < 0
  · have hm : Seal _ := ⟨hneg n2⟩
    clear hneg
    go_wp2
    go_ret
    exact ⟨ret_i (hm.out.symm.trans Q2.out.symm), S2.out.below⟩
  · clear hneg
    go_wp2
    go_ret
    exact ⟨ret_i Q2.out.symm, S2.out.below⟩

set_option maxHeartbeats 3200000 in
set_option maxRecDepth 100000 in
theorem toNote_any (n : NoteD) (a1 : Option Addr) (c1 : Nat) (a2 : Option Addr) (c2 : Nat) (w : World) (hat : MailAt w n.m a1 a2) (hsz : NoteSz 1048576 n) :
    Calls Tryd.prog 59 #[.agg (noteV n a1 c1 a2 c2)] w fun e w' => ∃ b1 d1 b2 d2, e = .returned (.agg (noteV n b1 d1 b2 d2)) ∧ St w w' [Res.mail n.m b1 d1 b2 d2] := by
  have HA : Seal _ := ⟨hat⟩
  have HZ : Seal _ := ⟨hsz.m⟩
  have s0 := (((St.start w).alloc (noteV n a1 c1 a2 c2) 95).alloc #[.int .i64 0, .int .i64 0, .string { data := #[] }, .string { data := #[] }, .int .i64 0, .string { data := #[] }, .string { data := #[] }, .slice none 0 0, .slice none 0 0] 99).alloc #[.int .i64 n.kind, .int .i64 n.id, .string { data := #[] }, .string { data := #[] }, .int .i64 0, .string { data := #[] }, .string { data := #[] }, .slice none 0 0, .slice none 0 0] 99
  simp only [World.size_alloc] at s0
  have S0 : Seal _ := ⟨s0⟩
  clear s0 hat hsz
  go_enter Tryd.func59, Tryd.ntmps59
  go_wp2_with fail
  refine (toAddr_any n.u n.d _).mono ?_
  rintro e w1 ⟨rfl, hb1⟩
  have s1 := S0.out.later hb1
  have P1 := s1.head
  have o2 := P1.c 2 _ rfl
  have o3 := P1.c 3 _ rfl
  have o4 := P1.c 4 _ rfl
  have f2 := P1.f 2 (by simp)
  have f3 := P1.f 3 (by simp)
  have f4 := P1.f 4 (by simp)
  have A1 := s1.three.head
  have g4 := A1.c 4 _ rfl
  have g5 := A1.c 5 _ rfl
  have g6 := A1.c 6 _ rfl
  have g7 := A1.c 7 _ rfl
  have g8 := A1.c 8 _ rfl
  have S1 : Seal _ := ⟨((s1.set 2 (.string n.u) (by simp)).set 3 (.string n.d) (by simp)).set 4 (.int .i64 n.now) (by simp)⟩
  have hn : w.heap.size + 1 + 1 ≠ w.heap.size + 1 := by omega
  have hn' : w.heap.size + 1 + 1 ≠ w.heap.size := by omega
  clear P1 A1 hb1 S0 s1
  go_wp2_with fail
  refine (toMail_any n.m a1 c1 a2 c2 _ (HA.out.below S1.out.below (Nat.le_refl _)) HZ.out).mono ?_
  rintro e w2 ⟨b1, d1, b2, d2, rfl, om, hb2⟩
  have s2 := (S1.out.mail hb2 om).two
  have P2 := s2.head
  have u0 := P2.c 0 _ rfl
  have u1 := P2.c 1 _ rfl
  have u2 := P2.c 2 _ rfl
  have u3 := P2.c 3 _ rfl
  have u4 := P2.c 4 _ rfl
  have u5 := P2.c 5 _ rfl
  have u6 := P2.c 6 _ rfl
  have u7 := P2.c 7 _ rfl
  have u8 := P2.c 8 _ rfl
  have f5 := P2.f 5 (by simp)
  have f6 := P2.f 6 (by simp)
  have f7 := P2.f 7 (by simp)
  have f8 := P2.f 8 (by simp)
  have R2 := s2.three.head
  have r0 := R2.c 0 _ rfl
  have r1 := R2.c 1 _ rfl
  have r2 := R2.c 2 _ rfl
  have r3 := R2.c 3 _ rfl
  have r4 := R2.c 4 _ rfl
  have r5 := R2.c 5 _ rfl
  have r6 := R2.c 6 _ rfl
  have r7 := R2.c 7 _ rfl
  have r8 := R2.c 8 _ rfl
  have h0 := R2.f 0 (by simp)
  have h1 := R2.f 1 (by simp)
  have h2 := R2.f 2 (by simp)
  have h3 := R2.f 3 (by simp)
  have h4 := R2.f 4 (by simp)
  have h5 := R2.f 5 (by simp)
  have h6 := R2.f 6 (by simp)
  have h7 := R2.f 7 (by simp)
  have h8 := R2.f 8 (by simp)
  have S2 : Seal _ := ⟨(((s2.set 5 (.string n.m.fu) (by simp)).set 6 (.string n.m.fd) (by simp)).set 7 (.slice b1 n.m.rc.length d1) (by simp)).set 8 (.slice b2 n.m.body.length d2) (by simp)⟩
  clear P2 R2 hb2 S1 s2 om o2 o3 o4 f2 f3 f4 g4 g5 g6 g7 g8
  go_wp2
  refine bodyPost_ret (v := .agg (noteV n b1 d1 b2 d2)) (by simp [results, Tryd.results59, go_sem, r0, r1, r2, r3, r4, r5, r6, r7, r8]) rfl ⟨b1, d1, b2, d2, rfl, ?_⟩
  have s4 := ((((((((S2.out.three.set 0 (.int .i64 n.kind) (by simp)).set 1 (.int .i64 n.id) (by simp)).set 2 (.string n.u) (by simp)).set 3 (.string n.d) (by simp)).set 4 (.int .i64 n.now) (by simp)).set 5 (.string n.m.fu) (by simp)).set 6 (.string n.m.fd) (by simp)).set 7 (.slice b1 n.m.rc.length d1) (by simp)).set 8 (.slice b2 n.m.body.length d2) (by simp)
  exact s4.tail.tail.first (l := [Res.mail n.m b1 d1 b2 d2])

set_option maxHeartbeats 1600000 in
set_option maxRecDepth 100000 in
theorem eqNote_same (n : NoteD) (a1 : Option Addr) (c1 : Nat) (a2 : Option Addr) (c2 : Nat) (b1 : Option Addr) (d1 : Nat) (b2 : Option Addr) (d2 : Nat) (w : World) (ha : MailAt w n.m a1 a2) (hb : MailAt w n.m b1 b2) (h1 : n.m.rc.length ≤ 1048576) (h2 : n.m.body.length ≤ 1048576) :
    Calls Tryd.prog 61 #[.agg (noteV n a1 c1 a2 c2), .agg (noteV n b1 d1 b2 d2)] w fun e w' => e = .returned (.bool true) ∧ Below w.heap.size w w' := by
  have HA : Seal _ := ⟨ha⟩
  have HB : Seal _ := ⟨hb⟩
  have s0 := ((St.start w).alloc (noteV n a1 c1 a2 c2) 99).alloc (noteV n b1 d1 b2 d2) 99
  simp only [World.size_alloc] at s0
  have S0 : Seal _ := ⟨s0⟩
  have q1 : (n.kind != n.kind) = false := by simp
  have q2 : (n.id != n.id) = false := by simp
  have q3 : (n.now != n.now) = false := by simp
  clear s0 ha hb
  go_enter Tryd.func61, Tryd.ntmps61
  go_wp2_with fail
  refine (eqAddr_same n.u n.d _).mono ?_
  rintro e w1 ⟨rfl, hb1⟩
  have S1 : Seal _ := ⟨S0.out.later hb1⟩
  have A1 := S1.out.head
  have B1 := S1.out.two.head
  have a4 := A1.c 4 _ rfl
  have a5 := A1.c 5 _ rfl
  have a6 := A1.c 6 _ rfl
  have a7 := A1.c 7 _ rfl
  have a8 := A1.c 8 _ rfl
  have b4 := B1.c 4 _ rfl
  have b5 := B1.c 5 _ rfl
  have b6 := B1.c 6 _ rfl
  have b7 := B1.c 7 _ rfl
  have b8 := B1.c 8 _ rfl
  clear A1 B1 hb1 S0
  go_wp2_with fail
  refine (eqMail_same n.m a1 c1 a2 c2 b1 d1 b2 d2 _ (HA.out.below S1.out.below (Nat.le_refl _)) (HB.out.below S1.out.below (Nat.le_refl _)) h1 h2).mono ?_
  rintro e w2 ⟨rfl, hb2⟩
  have S2 : Seal _ := ⟨S1.out.later hb2⟩
  clear hb2 S1
  go_wp2
  go_ret
  exact ⟨rfl, S2.out.below⟩
end Go.Proofs.YtgjkoegpdfcadaaDoor
