/- Contracts: what a client is at first, of the program. -/
import Derived.Test.YtgjkoegpdfcadaaDoorNewCliS
import Derived.Deep.RegionWith
namespace Go.Proofs.YtgjkoegpdfcadaaDoor
open Go Go.RowKit

set_option maxHeartbeats 6400000 in
set_option maxRecDepth 100000 in
theorem implCliNew_dom (B : Nat) (nm : ByteArray) (m : MailD) (a1 : Option Addr) (c1 : Nat) (a2 : Option Addr) (c2 : Nat) (w : World) (hm : HasMax w) (hn : nm.size ≤ 1048576) (ho : MailOwn w B m a1 c1 a2 c2) (hsz : MailSz 1048576 m) (hd : domB nm = false) :
    Calls Tryd.prog 24 #[.string nm, .agg (mailV m a1 c1 a2 c2)] w (NewC noCli w) := by
  have HD : Seal _ := ⟨hd⟩
  clear hd
  have S0 : Seal (St w _ [_, _]) := ⟨((St.start w).alloc (mailV m a1 c1 a2 c2) 41).alloc #[.string { data := #[] }, .string { data := #[] }, .string { data := #[] }, .slice none 0 0, .slice none 0 0, .int .i64 0, .int .i64 0, .slice none 0 0] 46⟩
  have hs0 : ((w.alloc (.cells (mailV m a1 c1 a2 c2) 41)).alloc (.cells #[.string { data := #[] }, .string { data := #[] }, .string { data := #[] }, .slice none 0 0, .slice none 0 0, .int .i64 0, .int .i64 0, .slice none 0 0] 46)).heap.size = w.heap.size + 1 + 1 := by simp
  have O0 : Seal _ := ⟨ho.later (S0.out.below)⟩
  have HS : Seal _ := ⟨hsz⟩
  have hcap := ho.rc.cap
  have HM : Seal _ := ⟨hm.below S0.out.below (Nat.le_refl _)⟩
  clear ho hsz hm
  go_enter Tryd.func24, Tryd.ntmps24
  go_wp2_with fail
  generalize hW : (w.alloc (.cells (mailV m a1 c1 a2 c2) 41)).alloc (.cells #[.string { data := #[] }, .string { data := #[] }, .string { data := #[] }, .slice none 0 0, .slice none 0 0, .int .i64 0, .int .i64 0, .slice none 0 0] 46) = W0 at *
  have K1 : Seal (CellsM W0 w.heap.size [.string m.fu, .string m.fd, .slice a1 m.rc.length c1, .slice a2 m.body.length c2]) := ⟨S0.out.two.head⟩
  have K2 : Seal (CellsM W0 (w.heap.size + 1) noCliV) := ⟨by have := S0.out.head; simp only [World.size_alloc] at this; exact this⟩
  have B0 : Seal (Below w.heap.size w W0) := ⟨S0.out.below⟩
  clear hW S0
  refine (implDomainOk_max nm W0 HM.out (by omega)).mono ?_
  rintro e w1 ⟨rfl, hb1⟩
  rw [HD.out]
  have s1 := hb1.size
  have K1a : Seal _ := ⟨K1.out.later hb1⟩
  have K2a : Seal _ := ⟨K2.out.later hb1⟩
  have B1 : Seal _ := ⟨B0.out.trans (hb1.mono B0.out.size)⟩
  have O1 : Seal _ := ⟨O0.out.later hb1⟩
  have HM1 : Seal _ := ⟨HM.out.below hb1 (Nat.le_refl _)⟩
  clear K1 K2 B0 O0 hb1 HM
  clear HS O1 hcap K1a HM1
  have r0 := K2a.out.c 0 _ rfl
  have r1 := K2a.out.c 1 _ rfl
  have r2 := K2a.out.c 2 _ rfl
  have r3 := K2a.out.c 3 _ rfl
  have r4 := K2a.out.c 4 _ rfl
  have r5 := K2a.out.c 5 _ rfl
  have r6 := K2a.out.c 6 _ rfl
  have r7 := K2a.out.c 7 _ rfl
  have f0 := K2a.out.f 0 (by simp)
  have f1 := K2a.out.f 1 (by simp)
  have f2 := K2a.out.f 2 (by simp)
  have f3 := K2a.out.f 3 (by simp)
  have f4 := K2a.out.f 4 (by simp)
  have f5 := K2a.out.f 5 (by simp)
  have f6 := K2a.out.f 6 (by simp)
  have f7 := K2a.out.f 7 (by simp)
  have hk2 : w.heap.size + 1 < w1.heap.size := K2a.out.lt
  go_wp2
  refine bodyPost_ret (v := .agg (cliV noCli none 0 none 0 none 0)) (by simp [results, Tryd.results24, go_sem, noCli, noMail, r0, r1, r2, r3, r4, r5, r6, r7]) rfl (NewC.no ?_)
  iterate 8 (refine Below.setCell ?_ (by simp) _)
  exact B1.out

set_option maxHeartbeats 6400000 in
set_option maxRecDepth 100000 in
theorem implCliNew_mail (B : Nat) (nm : ByteArray) (m : MailD) (a1 : Option Addr) (c1 : Nat) (a2 : Option Addr) (c2 : Nat) (w : World) (hm : HasMax w) (hn : nm.size ≤ 1048576) (ho : MailOwn w B m a1 c1 a2 c2) (hsz : MailSz 1048576 m) (hd : domB nm = true) (hv : mailB m = false) :
    Calls Tryd.prog 24 #[.string nm, .agg (mailV m a1 c1 a2 c2)] w (NewC noCli w) := by
  have HD : Seal _ := ⟨hd⟩
  have HV : Seal _ := ⟨hv⟩
  clear hd hv
  have S0 : Seal (St w _ [_, _]) := ⟨((St.start w).alloc (mailV m a1 c1 a2 c2) 41).alloc #[.string { data := #[] }, .string { data := #[] }, .string { data := #[] }, .slice none 0 0, .slice none 0 0, .int .i64 0, .int .i64 0, .slice none 0 0] 46⟩
  have hs0 : ((w.alloc (.cells (mailV m a1 c1 a2 c2) 41)).alloc (.cells #[.string { data := #[] }, .string { data := #[] }, .string { data := #[] }, .slice none 0 0, .slice none 0 0, .int .i64 0, .int .i64 0, .slice none 0 0] 46)).heap.size = w.heap.size + 1 + 1 := by simp
  have O0 : Seal _ := ⟨ho.later (S0.out.below)⟩
  have HS : Seal _ := ⟨hsz⟩
  have hcap := ho.rc.cap
  have HM : Seal _ := ⟨hm.below S0.out.below (Nat.le_refl _)⟩
  clear ho hsz hm
  go_enter Tryd.func24, Tryd.ntmps24
  go_wp2_with fail
  generalize hW : (w.alloc (.cells (mailV m a1 c1 a2 c2) 41)).alloc (.cells #[.string { data := #[] }, .string { data := #[] }, .string { data := #[] }, .slice none 0 0, .slice none 0 0, .int .i64 0, .int .i64 0, .slice none 0 0] 46) = W0 at *
  have K1 : Seal (CellsM W0 w.heap.size [.string m.fu, .string m.fd, .slice a1 m.rc.length c1, .slice a2 m.body.length c2]) := ⟨S0.out.two.head⟩
  have K2 : Seal (CellsM W0 (w.heap.size + 1) noCliV) := ⟨by have := S0.out.head; simp only [World.size_alloc] at this; exact this⟩
  have B0 : Seal (Below w.heap.size w W0) := ⟨S0.out.below⟩
  clear hW S0
  refine (implDomainOk_max nm W0 HM.out (by omega)).mono ?_
  rintro e w1 ⟨rfl, hb1⟩
  rw [HD.out]
  have s1 := hb1.size
  have K1a : Seal _ := ⟨K1.out.later hb1⟩
  have K2a : Seal _ := ⟨K2.out.later hb1⟩
  have B1 : Seal _ := ⟨B0.out.trans (hb1.mono B0.out.size)⟩
  have O1 : Seal _ := ⟨O0.out.later hb1⟩
  have HM1 : Seal _ := ⟨HM.out.below hb1 (Nat.le_refl _)⟩
  clear K1 K2 B0 O0 hb1 HM
  have q0 := K1a.out.c 0 _ rfl
  have q1 := K1a.out.c 1 _ rfl
  have q2 := K1a.out.c 2 _ rfl
  have q3 := K1a.out.c 3 _ rfl
  go_wp2_with fail
  refine (implMailOk_any m a1 c1 a2 c2 w1 HM1.out O1.out.at HS.out hcap).mono ?_
  rintro e W ⟨rfl, hb2⟩
  rw [HV.out]
  have s2 := hb2.size
  have K1 : Seal (CellsM W w.heap.size [.string m.fu, .string m.fd, .slice a1 m.rc.length c1, .slice a2 m.body.length c2]) := ⟨K1a.out.later hb2⟩
  have K2 : Seal (CellsM W (w.heap.size + 1) noCliV) := ⟨K2a.out.later hb2⟩
  have B0 : Seal (Below w.heap.size w W) := ⟨B1.out.trans (hb2.mono B1.out.size)⟩
  have O0 : Seal _ := ⟨O1.out.later hb2⟩
  have hk1 : w.heap.size < W.heap.size := by omega
  have hk2 : w.heap.size + 1 < W.heap.size := by omega
  clear q0 q1 q2 q3 K1a K2a B1 O1 hb2 hs0 s1 s2 HM1
  clear HS O0 hcap K1 hk2
  have r0 := K2.out.c 0 _ rfl
  have r1 := K2.out.c 1 _ rfl
  have r2 := K2.out.c 2 _ rfl
  have r3 := K2.out.c 3 _ rfl
  have r4 := K2.out.c 4 _ rfl
  have r5 := K2.out.c 5 _ rfl
  have r6 := K2.out.c 6 _ rfl
  have r7 := K2.out.c 7 _ rfl
  have f0 := K2.out.f 0 (by simp)
  have f1 := K2.out.f 1 (by simp)
  have f2 := K2.out.f 2 (by simp)
  have f3 := K2.out.f 3 (by simp)
  have f4 := K2.out.f 4 (by simp)
  have f5 := K2.out.f 5 (by simp)
  have f6 := K2.out.f 6 (by simp)
  have f7 := K2.out.f 7 (by simp)
  have hk2 : w.heap.size + 1 < W.heap.size := K2.out.lt
  go_wp2
  refine bodyPost_ret (v := .agg (cliV noCli none 0 none 0 none 0)) (by simp [results, Tryd.results24, go_sem, noCli, noMail, r0, r1, r2, r3, r4, r5, r6, r7]) rfl (NewC.no ?_)
  iterate 8 (refine Below.setCell ?_ (by simp) _)
  exact B0.out

set_option maxHeartbeats 6400000 in
set_option maxRecDepth 100000 in
theorem implCliNew_ok (B : Nat) (nm : ByteArray) (m : MailD) (a1 : Option Addr) (c1 : Nat) (a2 : Option Addr) (c2 : Nat) (w : World) (hm : HasMax w) (hn : nm.size ≤ 1048576) (ho : MailOwn w B m a1 c1 a2 c2) (hsz : MailSz 1048576 m) (hd : domB nm = true) (hv : mailB m = true) :
    Calls Tryd.prog 24 #[.string nm, .agg (mailV m a1 c1 a2 c2)] w (NewC ⟨nm, m, 0, 0, List.replicate m.rc.length 0⟩ w) := by
  have HD : Seal _ := ⟨hd⟩
  have HV : Seal _ := ⟨hv⟩
  have z1 := hsz.rcl
  have hmk : ∀ w : World, (Instr.makeSlice 44 (.int .i64 (m.rc.length : Int)) (.int .i64 (m.rc.length : Int))).run Tryd.prog w = .ok (.slice (some ⟨w.heap.size, 0, none⟩) m.rc.length m.rc.length) (w.alloc (.cells (madeCells #[.int .i64 0] m.rc.length) 3)) := fun w => by
    obtain ⟨i0, hi, hz0, hz1, hz2⟩ := info_parts infoInt
    have h := run_make (P := Tryd.prog) w 44 3 i0 (.int .i64 0) Tryd.underlying44 hi hz0 .i64 .i64 m.rc.length m.rc.length (by omega) (Int.le_refl _) (by rw [hz2]; omega) (by omega)
    rw [h, hz1, Int.toNat_natCast, Nat.mul_one]
    rfl
  have h1 := (rc_who hv).2.2.1
  clear hd hv
  have S0 : Seal (St w _ [_, _]) := ⟨((St.start w).alloc (mailV m a1 c1 a2 c2) 41).alloc #[.string { data := #[] }, .string { data := #[] }, .string { data := #[] }, .slice none 0 0, .slice none 0 0, .int .i64 0, .int .i64 0, .slice none 0 0] 46⟩
  have hs0 : ((w.alloc (.cells (mailV m a1 c1 a2 c2) 41)).alloc (.cells #[.string { data := #[] }, .string { data := #[] }, .string { data := #[] }, .slice none 0 0, .slice none 0 0, .int .i64 0, .int .i64 0, .slice none 0 0] 46)).heap.size = w.heap.size + 1 + 1 := by simp
  have O0 : Seal _ := ⟨ho.later (S0.out.below)⟩
  have HS : Seal _ := ⟨hsz⟩
  have hcap := ho.rc.cap
  have HM : Seal _ := ⟨hm.below S0.out.below (Nat.le_refl _)⟩
  clear ho hsz hm
  go_enter Tryd.func24, Tryd.ntmps24
  go_wp2_with fail
  generalize hW : (w.alloc (.cells (mailV m a1 c1 a2 c2) 41)).alloc (.cells #[.string { data := #[] }, .string { data := #[] }, .string { data := #[] }, .slice none 0 0, .slice none 0 0, .int .i64 0, .int .i64 0, .slice none 0 0] 46) = W0 at *
  have K1 : Seal (CellsM W0 w.heap.size [.string m.fu, .string m.fd, .slice a1 m.rc.length c1, .slice a2 m.body.length c2]) := ⟨S0.out.two.head⟩
  have K2 : Seal (CellsM W0 (w.heap.size + 1) noCliV) := ⟨by have := S0.out.head; simp only [World.size_alloc] at this; exact this⟩
  have B0 : Seal (Below w.heap.size w W0) := ⟨S0.out.below⟩
  clear hW S0
  refine (implDomainOk_max nm W0 HM.out (by omega)).mono ?_
  rintro e w1 ⟨rfl, hb1⟩
  rw [HD.out]
  have s1 := hb1.size
  have K1a : Seal _ := ⟨K1.out.later hb1⟩
  have K2a : Seal _ := ⟨K2.out.later hb1⟩
  have B1 : Seal _ := ⟨B0.out.trans (hb1.mono B0.out.size)⟩
  have O1 : Seal _ := ⟨O0.out.later hb1⟩
  have HM1 : Seal _ := ⟨HM.out.below hb1 (Nat.le_refl _)⟩
  clear K1 K2 B0 O0 hb1 HM
  have q0 := K1a.out.c 0 _ rfl
  have q1 := K1a.out.c 1 _ rfl
  have q2 := K1a.out.c 2 _ rfl
  have q3 := K1a.out.c 3 _ rfl
  go_wp2_with fail
  refine (implMailOk_any m a1 c1 a2 c2 w1 HM1.out O1.out.at HS.out hcap).mono ?_
  rintro e W ⟨rfl, hb2⟩
  rw [HV.out]
  have s2 := hb2.size
  have K1 : Seal (CellsM W w.heap.size [.string m.fu, .string m.fd, .slice a1 m.rc.length c1, .slice a2 m.body.length c2]) := ⟨K1a.out.later hb2⟩
  have K2 : Seal (CellsM W (w.heap.size + 1) noCliV) := ⟨K2a.out.later hb2⟩
  have B0 : Seal (Below w.heap.size w W) := ⟨B1.out.trans (hb2.mono B1.out.size)⟩
  have O0 : Seal _ := ⟨O1.out.later hb2⟩
  have hk1 : w.heap.size < W.heap.size := by omega
  have hk2 : w.heap.size + 1 < W.heap.size := by omega
  clear q0 q1 q2 q3 K1a K2a B1 O1 hb2 hs0 s1 s2 HM1
  have hn1 : w.heap.size ≠ w.heap.size + 1 := by omega
  have hn2 : w.heap.size + 1 ≠ w.heap.size := by omega
  have q0 := K1.out.c 0 _ rfl
  have q1 := K1.out.c 1 _ rfl
  have q2 := K1.out.c 2 _ rfl
  have q3 := K1.out.c 3 _ rfl
  have r0 := K2.out.c 0 _ rfl
  have f0 := K2.out.f 0 (by simp)
  have r1 := K2.out.c 1 _ rfl
  have f1 := K2.out.f 1 (by simp)
  have r2 := K2.out.c 2 _ rfl
  have f2 := K2.out.f 2 (by simp)
  have r3 := K2.out.c 3 _ rfl
  have f3 := K2.out.f 3 (by simp)
  have r4 := K2.out.c 4 _ rfl
  have f4 := K2.out.f 4 (by simp)
  have r5 := K2.out.c 5 _ rfl
  have f5 := K2.out.f 5 (by simp)
  have r6 := K2.out.c 6 _ rfl
  have f6 := K2.out.f 6 (by simp)
  have r7 := K2.out.c 7 _ rfl
  have f7 := K2.out.f 7 (by simp)
  go_wp2_with fail
  go_region_with (go_at_call 85; (refine (mailClone_any B m a1 c1 a2 c2 _ ?_ HS.out).mono ?_; (first | exact O0.out.later ((Below.refl _ _).drew) | exact O0.out.later (((Below.refl _ _).alloc (Nat.le_refl _) _).drew)); rintro e w8 ⟨b1, d1, b2, d2, rfl, o8, hb3⟩; have hb8 : Below W.heap.size W w8 := (by first | exact before_call hb3 | exact before_call2 hb3); have X3 := K1.out.later hb8; have R3 := K2.out.later hb8; have q0 := X3.c 0 _ rfl; have q1 := X3.c 1 _ rfl; have q2 := X3.c 2 _ rfl; have q3 := X3.c 3 _ rfl; have r0 := R3.c 0 _ rfl; have f0 := R3.f 0 (by simp); have r1 := R3.c 1 _ rfl; have f1 := R3.f 1 (by simp); have r2 := R3.c 2 _ rfl; have f2 := R3.f 2 (by simp); have r3 := R3.c 3 _ rfl; have f3 := R3.f 3 (by simp); have r4 := R3.c 4 _ rfl; have f4 := R3.f 4 (by simp); have r5 := R3.c 5 _ rfl; have f5 := R3.f 5 (by simp); have r6 := R3.c 6 _ rfl; have f6 := R3.f 6 (by simp); have r7 := R3.c 7 _ rfl; have f7 := R3.f 7 (by simp); have hl3 := R3.lt; have hl4 := X3.lt; have O8 : Seal _ := ⟨o8⟩; have H3 : Seal _ := ⟨hb3⟩; have H8 : Seal _ := ⟨hb8⟩; clear X3 R3 o8 hb3 hb8))
  all_goals
    have hs8 := H8.out.size
    have BF : Seal (Below w.heap.size w w8) := ⟨B0.out.trans (H8.out.mono B0.out.size)⟩
    have M8 : Seal (MailOwn w8 W.heap.size m b1 d1 b2 d2) := ⟨O8.out.base (by simp)⟩
    have HX : Seal True := ⟨trivial⟩
    clear q0 q1 q2 q3 f0 f1 f2 f3 f4 f5 f6 f7
    first
      | (have Z8 : Seal (w8.ownsRow (w.heap.size + 1 + 1) 3 1 (.slice (some ⟨W.heap.size, 0, none⟩) m.rc.length m.rc.length) m.rc.length ((List.replicate m.rc.length (0 : Int)).map (Value.int .i64))) := ⟨own_later (own_later (own_zeros (w := W) (B := w.heap.size + 1 + 1) (n := m.rc.length) (by omega) (by unfold maxLen; omega)) (Below.refl _ _).drew) H3.out⟩
         clear O8 H3
         go_wp2
         refine bodyPost_ret (v := .agg (cliV ⟨nm, m, 0, 0, List.replicate m.rc.length 0⟩ b1 d1 b2 d2 (some ⟨W.heap.size, 0, none⟩) m.rc.length)) (by simp [results, Tryd.results24, go_sem, r0, r1, r2, r3, r4, r5, r6, r7]) rfl ⟨b1, d1, b2, d2, some ⟨W.heap.size, 0, none⟩, m.rc.length, rfl, ⟨?_, ?_⟩, ?_⟩
         · refine (?_ : MailOwn _ W.heap.size m b1 d1 b2 d2).base (by omega)
           iterate 8 (refine MailOwn.low ?_ (by omega) _ _)
           exact M8.out
         · refine ownsRow_base (B := w.heap.size + 1 + 1) ?_ (by omega)
           have hq : (List.replicate m.rc.length (0 : Int)).length = m.rc.length := List.length_replicate
           simp only [hq]
           iterate 8 (refine own_low ?_ (by omega) _)
           exact Z8.out
         · iterate 8 (refine Below.setCell ?_ (by simp) _)
           exact BF.out)
      | (clear O8 H3
         go_wp2
         refine bodyPost_ret (v := .agg (cliV ⟨nm, m, 0, 0, List.replicate m.rc.length 0⟩ b1 d1 b2 d2 (some ⟨w8.heap.size, 0, none⟩) m.rc.length)) (by simp [results, Tryd.results24, go_sem, hl3, r0, r1, r2, r3, r4, r5, r6, r7]) rfl ⟨b1, d1, b2, d2, some ⟨w8.heap.size, 0, none⟩, m.rc.length, rfl, ⟨?_, ?_⟩, ?_⟩
         · refine MailOwn.later ?_ ((Below.refl _ _).alloc (Nat.le_refl _) _)
           refine (?_ : MailOwn _ W.heap.size m b1 d1 b2 d2).base (by omega)
           iterate 8 (refine MailOwn.low ?_ (by omega) _ _)
           exact M8.out
         · have hq : (List.replicate m.rc.length (0 : Int)).length = m.rc.length := List.length_replicate
           simp only [hq]
           exact own_zeros_at (by simp) (by simp; omega) (by unfold maxLen; omega)
         · refine Below.alloc ?_ (by simp; omega) _
           iterate 8 (refine Below.setCell ?_ (by simp) _)
           exact BF.out)
theorem implCliNew_any (B : Nat) (nm : ByteArray) (m : MailD) (a1 : Option Addr) (c1 : Nat) (a2 : Option Addr) (c2 : Nat) (w : World) (hm : HasMax w) (hn : nm.size ≤ 1048576) (ho : MailOwn w B m a1 c1 a2 c2) (hsz : MailSz 1048576 m) :
    Calls Tryd.prog 24 #[.string nm, .agg (mailV m a1 c1 a2 c2)] w (NewC (cliNewR nm m) w) := by
  unfold cliNewR
  cases hd : domB nm with
  | false => exact implCliNew_dom B nm m a1 c1 a2 c2 w hm hn ho hsz hd
  | true =>
    cases hv : mailB m with
    | false => exact implCliNew_mail B nm m a1 c1 a2 c2 w hm hn ho hsz hd hv
    | true => exact implCliNew_ok B nm m a1 c1 a2 c2 w hm hn ho hsz hd hv
end Go.Proofs.YtgjkoegpdfcadaaDoor
