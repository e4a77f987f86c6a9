/- Contracts: what a client is at first, of the model. -/
import Derived.Test.YtgjkoegpdfcadaaDoorNewCli
namespace Go.Proofs.YtgjkoegpdfcadaaDoor
open Go Go.RowKit

abbrev noCli : CliD := ⟨{ data := #[] }, noMail, 0, 0, []⟩
/-- A client's state of the call's own. -/
def NewC (x : CliD) (w : World) (e : Ending) (w' : World) : Prop :=
  ∃ b1 d1 b2 d2 b3 d3, e = .returned (.agg (cliV x b1 d1 b2 d2 b3 d3)) ∧ CliOwn w' w.heap.size x b1 d1 b2 d2 b3 d3 ∧ Below w.heap.size w w'
theorem NewC.no {w w' : World} (hb : Below w.heap.size w w') : NewC noCli w (.returned (.agg (cliV noCli none 0 none 0 none 0))) w' :=
  ⟨none, 0, none, 0, none, 0, rfl, ⟨⟨World.ownsRow_nil _ _ _ _, World.ownsRow_nil _ _ _ _, ⟨.inl rfl, .inl rfl⟩⟩, World.ownsRow_nil _ _ _ _⟩, hb⟩
/-- What a client's state is at first. -/
def cliNewR (nm : ByteArray) (m : MailD) : CliD := if (domB nm && mailB m) = true then ⟨nm, m, 0, 0, List.replicate m.rc.length 0⟩ else noCli

set_option maxHeartbeats 6400000 in
set_option maxRecDepth 100000 in
theorem specCliNew_dom (B : Nat) (nm : ByteArray) (m : MailD) (a1 : Option Addr) (c1 : Nat) (a2 : Option Addr) (c2 : Nat) (w : World) (hn : nm.size ≤ 1048576) (ho : MailOwn w B m a1 c1 a2 c2) (hsz : MailSz 1048576 m) (hd : domB nm = false) :
    Calls Tryd.prog 26 #[.string nm, .agg (mailV m a1 c1 a2 c2)] w (NewC noCli w) := by
  have HD : Seal _ := ⟨hd⟩
  clear hd
  have S0 : Seal (St w _ [_, _]) := ⟨((St.start w).alloc (mailV m a1 c1 a2 c2) 41).alloc #[.string { data := #[] }, .string { data := #[] }, .string { data := #[] }, .slice none 0 0, .slice none 0 0, .int .i64 0, .int .i64 0, .slice none 0 0] 46⟩
  have hs0 : ((w.alloc (.cells (mailV m a1 c1 a2 c2) 41)).alloc (.cells #[.string { data := #[] }, .string { data := #[] }, .string { data := #[] }, .slice none 0 0, .slice none 0 0, .int .i64 0, .int .i64 0, .slice none 0 0] 46)).heap.size = w.heap.size + 1 + 1 := by simp
  have O0 : Seal _ := ⟨ho.later (S0.out.below)⟩
  have HS : Seal _ := ⟨hsz⟩
  have hcap := ho.rc.cap
  clear ho hsz
  go_enter Tryd.func26, Tryd.ntmps26
  go_wp2_with fail
  generalize hW : (w.alloc (.cells (mailV m a1 c1 a2 c2) 41)).alloc (.cells #[.string { data := #[] }, .string { data := #[] }, .string { data := #[] }, .slice none 0 0, .slice none 0 0, .int .i64 0, .int .i64 0, .slice none 0 0] 46) = W0 at *
  have K1 : Seal (CellsM W0 w.heap.size [.string m.fu, .string m.fd, .slice a1 m.rc.length c1, .slice a2 m.body.length c2]) := ⟨S0.out.two.head⟩
  have K2 : Seal (CellsM W0 (w.heap.size + 1) noCliV) := ⟨by have := S0.out.head; simp only [World.size_alloc] at this; exact this⟩
  have B0 : Seal (Below w.heap.size w W0) := ⟨S0.out.below⟩
  clear hW S0
  refine (l1Domain_any nm W0 (by omega)).mono ?_
  rintro e w1 ⟨rfl, hb1⟩
  rw [HD.out]
  have s1 := hb1.size
  have K1a : Seal _ := ⟨K1.out.later hb1⟩
  have K2a : Seal _ := ⟨K2.out.later hb1⟩
  have B1 : Seal _ := ⟨B0.out.trans (hb1.mono B0.out.size)⟩
  have O1 : Seal _ := ⟨O0.out.later hb1⟩
  clear K1 K2 B0 O0 hb1
  clear HS O1 hcap K1a
  have r0 := K2a.out.c 0 _ rfl
  have r1 := K2a.out.c 1 _ rfl
  have r2 := K2a.out.c 2 _ rfl
  have r3 := K2a.out.c 3 _ rfl
  have r4 := K2a.out.c 4 _ rfl
  have r5 := K2a.out.c 5 _ rfl
  have r6 := K2a.out.c 6 _ rfl
  have r7 := K2a.out.c 7 _ rfl
  have f0 := K2a.out.f 0 (by simp)
  have f1 := K2a.out.f 1 (by simp)
  have f2 := K2a.out.f 2 (by simp)
  have f3 := K2a.out.f 3 (by simp)
  have f4 := K2a.out.f 4 (by simp)
  have f5 := K2a.out.f 5 (by simp)
  have f6 := K2a.out.f 6 (by simp)
  have f7 := K2a.out.f 7 (by simp)
  have hk2 : w.heap.size + 1 < w1.heap.size := K2a.out.lt
  go_wp2
  refine bodyPost_ret (v := .agg (cliV noCli none 0 none 0 none 0)) (by simp [results, Tryd.results26, go_sem, noCli, noMail, r0, r1, r2, r3, r4, r5, r6, r7]) rfl (NewC.no ?_)
  iterate 8 (refine Below.setCell ?_ (by simp) _)
  exact B1.out

set_option maxHeartbeats 6400000 in
set_option maxRecDepth 100000 in
theorem specCliNew_mail (B : Nat) (nm : ByteArray) (m : MailD) (a1 : Option Addr) (c1 : Nat) (a2 : Option Addr) (c2 : Nat) (w : World) (hn : nm.size ≤ 1048576) (ho : MailOwn w B m a1 c1 a2 c2) (hsz : MailSz 1048576 m) (hd : domB nm = true) (hv : mailB m = false) :
    Calls Tryd.prog 26 #[.string nm, .agg (mailV m a1 c1 a2 c2)] w (NewC noCli w) := by
  have HD : Seal _ := ⟨hd⟩
  have HV : Seal _ := ⟨hv⟩
  clear hd hv
  have S0 : Seal (St w _ [_, _]) := ⟨((St.start w).alloc (mailV m a1 c1 a2 c2) 41).alloc #[.string { data := #[] }, .string { data := #[] }, .string { data := #[] }, .slice none 0 0, .slice none 0 0, .int .i64 0, .int .i64 0, .slice none 0 0] 46⟩
  have hs0 : ((w.alloc (.cells (mailV m a1 c1 a2 c2) 41)).alloc (.cells #[.string { data := #[] }, .string { data := #[] }, .string { data := #[] }, .slice none 0 0, .slice none 0 0, .int .i64 0, .int .i64 0, .slice none 0 0] 46)).heap.size = w.heap.size + 1 + 1 := by simp
  have O0 : Seal _ := ⟨ho.later (S0.out.below)⟩
  have HS : Seal _ := ⟨hsz⟩
  have hcap := ho.rc.cap
  clear ho hsz
  go_enter Tryd.func26, Tryd.ntmps26
  go_wp2_with fail
  generalize hW : (w.alloc (.cells (mailV m a1 c1 a2 c2) 41)).alloc (.cells #[.string { data := #[] }, .string { data := #[] }, .string { data := #[] }, .slice none 0 0, .slice none 0 0, .int .i64 0, .int .i64 0, .slice none 0 0] 46) = W0 at *
  have K1 : Seal (CellsM W0 w.heap.size [.string m.fu, .string m.fd, .slice a1 m.rc.length c1, .slice a2 m.body.length c2]) := ⟨S0.out.two.head⟩
  have K2 : Seal (CellsM W0 (w.heap.size + 1) noCliV) := ⟨by have := S0.out.head; simp only [World.size_alloc] at this; exact this⟩
  have B0 : Seal (Below w.heap.size w W0) := ⟨S0.out.below⟩
  clear hW S0
  refine (l1Domain_any nm W0 (by omega)).mono ?_
  rintro e w1 ⟨rfl, hb1⟩
  rw [HD.out]
  have s1 := hb1.size
  have K1a : Seal _ := ⟨K1.out.later hb1⟩
  have K2a : Seal _ := ⟨K2.out.later hb1⟩
  have B1 : Seal _ := ⟨B0.out.trans (hb1.mono B0.out.size)⟩
  have O1 : Seal _ := ⟨O0.out.later hb1⟩
  clear K1 K2 B0 O0 hb1
  have q0 := K1a.out.c 0 _ rfl
  have q1 := K1a.out.c 1 _ rfl
  have q2 := K1a.out.c 2 _ rfl
  have q3 := K1a.out.c 3 _ rfl
  go_wp2_with fail
  refine (l2Ok_any m a1 c1 a2 c2 w1 O1.out.at HS.out).mono ?_
  rintro e W ⟨rfl, hb2⟩
  rw [HV.out]
  have s2 := hb2.size
  have K1 : Seal (CellsM W w.heap.size [.string m.fu, .string m.fd, .slice a1 m.rc.length c1, .slice a2 m.body.length c2]) := ⟨K1a.out.later hb2⟩
  have K2 : Seal (CellsM W (w.heap.size + 1) noCliV) := ⟨K2a.out.later hb2⟩
  have B0 : Seal (Below w.heap.size w W) := ⟨B1.out.trans (hb2.mono B1.out.size)⟩
  have O0 : Seal _ := ⟨O1.out.later hb2⟩
  have hk1 : w.heap.size < W.heap.size := by omega
  have hk2 : w.heap.size + 1 < W.heap.size := by omega
  clear q0 q1 q2 q3 K1a K2a B1 O1 hb2 hs0 s1 s2
  clear HS O0 hcap K1 hk2
  have r0 := K2.out.c 0 _ rfl
  have r1 := K2.out.c 1 _ rfl
  have r2 := K2.out.c 2 _ rfl
  have r3 := K2.out.c 3 _ rfl
  have r4 := K2.out.c 4 _ rfl
  have r5 := K2.out.c 5 _ rfl
  have r6 := K2.out.c 6 _ rfl
  have r7 := K2.out.c 7 _ rfl
  have f0 := K2.out.f 0 (by simp)
  have f1 := K2.out.f 1 (by simp)
  have f2 := K2.out.f 2 (by simp)
  have f3 := K2.out.f 3 (by simp)
  have f4 := K2.out.f 4 (by simp)
  have f5 := K2.out.f 5 (by simp)
  have f6 := K2.out.f 6 (by simp)
  have f7 := K2.out.f 7 (by simp)
  have hk2 : w.heap.size + 1 < W.heap.size := K2.out.lt
  go_wp2
  refine bodyPost_ret (v := .agg (cliV noCli none 0 none 0 none 0)) (by simp [results, Tryd.results26, go_sem, noCli, noMail, r0, r1, r2, r3, r4, r5, r6, r7]) rfl (NewC.no ?_)
  iterate 8 (refine Below.setCell ?_ (by simp) _)
  exact B0.out

set_option maxHeartbeats 6400000 in
set_option maxRecDepth 100000 in
theorem specCliNew_ok (B : Nat) (nm : ByteArray) (m : MailD) (a1 : Option Addr) (c1 : Nat) (a2 : Option Addr) (c2 : Nat) (w : World) (hn : nm.size ≤ 1048576) (ho : MailOwn w B m a1 c1 a2 c2) (hsz : MailSz 1048576 m) (hd : domB nm = true) (hv : mailB m = true) :
    Calls Tryd.prog 26 #[.string nm, .agg (mailV m a1 c1 a2 c2)] w (NewC ⟨nm, m, 0, 0, List.replicate m.rc.length 0⟩ w) := by
  have HD : Seal _ := ⟨hd⟩
  have HV : Seal _ := ⟨hv⟩
  have z1 := hsz.rcl
  have h1 := (rc_who hv).2.2.1
  clear hd hv
  have S0 : Seal (St w _ [_, _]) := ⟨((St.start w).alloc (mailV m a1 c1 a2 c2) 41).alloc #[.string { data := #[] }, .string { data := #[] }, .string { data := #[] }, .slice none 0 0, .slice none 0 0, .int .i64 0, .int .i64 0, .slice none 0 0] 46⟩
  have hs0 : ((w.alloc (.cells (mailV m a1 c1 a2 c2) 41)).alloc (.cells #[.string { data := #[] }, .string { data := #[] }, .string { data := #[] }, .slice none 0 0, .slice none 0 0, .int .i64 0, .int .i64 0, .slice none 0 0] 46)).heap.size = w.heap.size + 1 + 1 := by simp
  have O0 : Seal _ := ⟨ho.later (S0.out.below)⟩
  have HS : Seal _ := ⟨hsz⟩
  have hcap := ho.rc.cap
  clear ho hsz
  go_enter Tryd.func26, Tryd.ntmps26
  go_wp2_with fail
  generalize hW : (w.alloc (.cells (mailV m a1 c1 a2 c2) 41)).alloc (.cells #[.string { data := #[] }, .string { data := #[] }, .string { data := #[] }, .slice none 0 0, .slice none 0 0, .int .i64 0, .int .i64 0, .slice none 0 0] 46) = W0 at *
  have K1 : Seal (CellsM W0 w.heap.size [.string m.fu, .string m.fd, .slice a1 m.rc.length c1, .slice a2 m.body.length c2]) := ⟨S0.out.two.head⟩
  have K2 : Seal (CellsM W0 (w.heap.size + 1) noCliV) := ⟨by have := S0.out.head; simp only [World.size_alloc] at this; exact this⟩
  have B0 : Seal (Below w.heap.size w W0) := ⟨S0.out.below⟩
  clear hW S0
  refine (l1Domain_any nm W0 (by omega)).mono ?_
  rintro e w1 ⟨rfl, hb1⟩
  rw [HD.out]
  have s1 := hb1.size
  have K1a : Seal _ := ⟨K1.out.later hb1⟩
  have K2a : Seal _ := ⟨K2.out.later hb1⟩
  have B1 : Seal _ := ⟨B0.out.trans (hb1.mono B0.out.size)⟩
  have O1 : Seal _ := ⟨O0.out.later hb1⟩
  clear K1 K2 B0 O0 hb1
  have q0 := K1a.out.c 0 _ rfl
  have q1 := K1a.out.c 1 _ rfl
  have q2 := K1a.out.c 2 _ rfl
  have q3 := K1a.out.c 3 _ rfl
  go_wp2_with fail
  refine (l2Ok_any m a1 c1 a2 c2 w1 O1.out.at HS.out).mono ?_
  rintro e W ⟨rfl, hb2⟩
  rw [HV.out]
  have s2 := hb2.size
  have K1 : Seal (CellsM W w.heap.size [.string m.fu, .string m.fd, .slice a1 m.rc.length c1, .slice a2 m.body.length c2]) := ⟨K1a.out.later hb2⟩
  have K2 : Seal (CellsM W (w.heap.size + 1) noCliV) := ⟨K2a.out.later hb2⟩
  have B0 : Seal (Below w.heap.size w W) := ⟨B1.out.trans (hb2.mono B1.out.size)⟩
  have O0 : Seal _ := ⟨O1.out.later hb2⟩
  have hk1 : w.heap.size < W.heap.size := by omega
  have hk2 : w.heap.size + 1 < W.heap.size := by omega
  clear q0 q1 q2 q3 K1a K2a B1 O1 hb2 hs0 s1 s2
  have q0 := K1.out.c 0 _ rfl
  have q1 := K1.out.c 1 _ rfl
  have q2 := K1.out.c 2 _ rfl
  have q3 := K1.out.c 3 _ rfl
  have r0 := K2.out.c 0 _ rfl
  have r1 := K2.out.c 1 _ rfl
  have r2 := K2.out.c 2 _ rfl
  have r3 := K2.out.c 3 _ rfl
  have r4 := K2.out.c 4 _ rfl
  have r5 := K2.out.c 5 _ rfl
  have r6 := K2.out.c 6 _ rfl
  have r7 := K2.out.c 7 _ rfl
  have f0 := K2.out.f 0 (by simp)
  have f1 := K2.out.f 1 (by simp)
  have f2 := K2.out.f 2 (by simp)
  have f3 := K2.out.f 3 (by simp)
  have f4 := K2.out.f 4 (by simp)
  have f5 := K2.out.f 5 (by simp)
  have f6 := K2.out.f 6 (by simp)
  have f7 := K2.out.f 7 (by simp)
  go_wp2_with fail
  refine (l4New_any B nm m a1 c1 a2 c2 _ O0.out HS.out h1).mono ?_
  rintro e w2 ⟨b1, d1, b2, d2, b3, d3, rfl, o2, hb2⟩
  have C2 : Seal _ := ⟨o2⟩
  have s2 := hb2.size
  have B2 : Seal (Below w.heap.size w w2) := ⟨B0.out.trans (hb2.mono B0.out.size)⟩
  have K3 : Seal _ := ⟨K2.out.later hb2⟩
  clear o2 hb2 O0 K1 K2 B0 q0 q1 q2 q3 r0 r1 r2 r3 r4 r5 r6 r7 f0 f1 f2 f3 f4 f5 f6 f7
  have r0 := K3.out.c 0 _ rfl
  have r1 := K3.out.c 1 _ rfl
  have r2 := K3.out.c 2 _ rfl
  have r3 := K3.out.c 3 _ rfl
  have r4 := K3.out.c 4 _ rfl
  have r5 := K3.out.c 5 _ rfl
  have r6 := K3.out.c 6 _ rfl
  have r7 := K3.out.c 7 _ rfl
  have f0 := K3.out.f 0 (by simp)
  have f1 := K3.out.f 1 (by simp)
  have f2 := K3.out.f 2 (by simp)
  have f3 := K3.out.f 3 (by simp)
  have f4 := K3.out.f 4 (by simp)
  have f5 := K3.out.f 5 (by simp)
  have f6 := K3.out.f 6 (by simp)
  have f7 := K3.out.f 7 (by simp)
  go_wp2
  refine bodyPost_ret (v := .agg (cliV ⟨nm, m, 0, 0, List.replicate m.rc.length 0⟩ b1 d1 b2 d2 b3 d3)) (by simp [results, Tryd.results26, go_sem, r0, r1, r2, r3, r4, r5, r6, r7]) rfl ⟨b1, d1, b2, d2, b3, d3, rfl, ⟨?_, ?_⟩, ?_⟩
  · refine (?_ : MailOwn _ W.heap.size m b1 d1 b2 d2).base (by omega)
    iterate 8 (refine MailOwn.low ?_ (by omega) _ _)
    exact C2.out.m
  · refine ownsRow_base (B := W.heap.size) ?_ (by omega)
    iterate 8 (refine own_low ?_ (by omega) _)
    exact C2.out.outs
  · iterate 8 (refine Below.setCell ?_ (by simp) _)
    exact B2.out
theorem specCliNew_any (B : Nat) (nm : ByteArray) (m : MailD) (a1 : Option Addr) (c1 : Nat) (a2 : Option Addr) (c2 : Nat) (w : World) (hn : nm.size ≤ 1048576) (ho : MailOwn w B m a1 c1 a2 c2) (hsz : MailSz 1048576 m) :
    Calls Tryd.prog 26 #[.string nm, .agg (mailV m a1 c1 a2 c2)] w (NewC (cliNewR nm m) w) := by
  unfold cliNewR
  cases hd : domB nm with
  | false => exact specCliNew_dom B nm m a1 c1 a2 c2 w hn ho hsz hd
  | true =>
    cases hv : mailB m with
    | false => exact specCliNew_mail B nm m a1 c1 a2 c2 w hn ho hsz hd hv
    | true => exact specCliNew_ok B nm m a1 c1 a2 c2 w hn ho hsz hd hv
end Go.Proofs.YtgjkoegpdfcadaaDoor
