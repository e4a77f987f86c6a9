/- Contracts: a new client's state, of the model and of the program. -/
import Derived.Test.YtgjkoegpdfcadaaDoorCopiesN
import Derived.Test.YtgjkoegpdfcadaaDoorCliOk
import Derived.Test.YtgjkoegpdfcadaaDoorCliOuts
import Derived.Deep.RegionWith
namespace Go.Proofs.YtgjkoegpdfcadaaDoor
open Go Go.RowKit

theorem own_zeros {w : World} {B n : Nat} (hB : B ≤ w.heap.size) (hn : n ≤ maxLen) : (w.alloc (.cells (madeCells #[.int .i64 0] n) 3)).ownsRow B 3 1 (.slice (some ⟨w.heap.size, 0, none⟩) n n) n ((List.replicate n (0 : Int)).map (Value.int .i64)) :=
  ⟨by simp, .inr ⟨w.heap.size, n, madeCells #[.int .i64 0] n, rfl, hB, heap_alloc_new w _, Nat.le_refl _, hn, by rw [size_madeCells, Nat.mul_one], by
    rw [show (madeCells #[.int .i64 0] n).toList = List.replicate n (.int .i64 0) from toList_madeCells_one (.int .i64 0) n]; simp⟩⟩
theorem own_zeros_at {w : World} {B n k : Nat} (hk : w.heap.size = k) (hB : B ≤ w.heap.size) (hn : n ≤ maxLen) : (w.alloc (.cells (madeCells #[.int .i64 0] n) 3)).ownsRow B 3 1 (.slice (some ⟨k, 0, none⟩) n n) n ((List.replicate n (0 : Int)).map (Value.int .i64)) := by
  subst hk
  exact own_zeros hB hn
theorem before_call {w w' : World} (h : Below w.drew.heap.size w.drew w') : Below w.heap.size w w' := ((Below.refl w.heap.size w).drew).trans (h.mono ((Below.refl w.heap.size w).drew).size)
theorem before_call2 {w w' : World} {o : Obj} (h : Below (w.alloc o).drew.heap.size (w.alloc o).drew w') : Below w.heap.size w w' := (((Below.refl w.heap.size w).alloc (Nat.le_refl _) o).drew).trans (h.mono (((Below.refl w.heap.size w).alloc (Nat.le_refl _) o).drew).size)
theorem cells_eight {w : World} {k : Nat} {x0 x1 x2 x3 x4 x5 x6 x7 : Value} (h : CellsM w k [x0, x1, x2, x3, x4, x5, x6, x7]) : w.cell? ⟨k, 0, none⟩ = some x0 ∧ w.cell? ⟨k, 1, none⟩ = some x1 ∧ w.cell? ⟨k, 2, none⟩ = some x2 ∧ w.cell? ⟨k, 3, none⟩ = some x3 ∧ w.cell? ⟨k, 4, none⟩ = some x4 ∧ w.cell? ⟨k, 5, none⟩ = some x5 ∧ w.cell? ⟨k, 6, none⟩ = some x6 ∧ w.cell? ⟨k, 7, none⟩ = some x7 ∧ w.frozen? ⟨k, 0, none⟩ = false ∧ w.frozen? ⟨k, 1, none⟩ = false ∧ w.frozen? ⟨k, 2, none⟩ = false ∧ w.frozen? ⟨k, 3, none⟩ = false ∧ w.frozen? ⟨k, 4, none⟩ = false ∧ w.frozen? ⟨k, 5, none⟩ = false ∧ w.frozen? ⟨k, 6, none⟩ = false ∧ w.frozen? ⟨k, 7, none⟩ = false :=
  ⟨h.c 0 _ rfl, h.c 1 _ rfl, h.c 2 _ rfl, h.c 3 _ rfl, h.c 4 _ rfl, h.c 5 _ rfl, h.c 6 _ rfl, h.c 7 _ rfl, h.f 0 (by simp), h.f 1 (by simp), h.f 2 (by simp), h.f 3 (by simp), h.f 4 (by simp), h.f 5 (by simp), h.f 6 (by simp), h.f 7 (by simp)⟩
abbrev noCliV : List Value := [.string { data := #[] }, .string { data := #[] }, .string { data := #[] }, .slice none 0 0, .slice none 0 0, .int .i64 0, .int .i64 0, .slice none 0 0]
/-- A new client's state, of the call's own. -/
def NewCli (w : World) (nm : ByteArray) (m : MailD) (e : Ending) (w' : World) : Prop :=
  ∃ b1 d1 b2 d2 b3 d3, e = .returned (.agg (cliV ⟨nm, m, 0, 0, List.replicate m.rc.length 0⟩ b1 d1 b2 d2 b3 d3)) ∧ CliOwn w' w.heap.size ⟨nm, m, 0, 0, List.replicate m.rc.length 0⟩ b1 d1 b2 d2 b3 d3 ∧ Below w.heap.size w w'

set_option maxHeartbeats 6400000 in
set_option maxRecDepth 100000 in
theorem l4New_any (B : Nat) (nm : ByteArray) (m : MailD) (a1 : Option Addr) (c1 : Nat) (a2 : Option Addr) (c2 : Nat) (w : World) (ho : MailOwn w B m a1 c1 a2 c2) (hsz : MailSz 1048576 m) (h1 : 1 ≤ m.rc.length) :
    Calls Tryd.prog 88 #[.string nm, .agg (mailV m a1 c1 a2 c2)] w (NewCli w nm m) := by
  have z1 := hsz.rcl
  have HS : Seal _ := ⟨hsz⟩
  have S0 : Seal (St w _ [_, _]) := ⟨((St.start w).alloc (mailV m a1 c1 a2 c2) 41).alloc #[.string { data := #[] }, .string { data := #[] }, .string { data := #[] }, .slice none 0 0, .slice none 0 0, .int .i64 0, .int .i64 0, .slice none 0 0] 46⟩
  have hs0 : ((w.alloc (.cells (mailV m a1 c1 a2 c2) 41)).alloc (.cells #[.string { data := #[] }, .string { data := #[] }, .string { data := #[] }, .slice none 0 0, .slice none 0 0, .int .i64 0, .int .i64 0, .slice none 0 0] 46)).heap.size = w.heap.size + 1 + 1 := by simp
  have O0 : Seal _ := ⟨ho.later (S0.out.below)⟩
  have hmk : ∀ w : World, (Instr.makeSlice 44 (.int .i64 (m.rc.length : Int)) (.int .i64 (m.rc.length : Int))).run Tryd.prog w = .ok (.slice (some ⟨w.heap.size, 0, none⟩) m.rc.length m.rc.length) (w.alloc (.cells (madeCells #[.int .i64 0] m.rc.length) 3)) := fun w => by
    obtain ⟨i0, hi, hz0, hz1, hz2⟩ := info_parts infoInt
    have h := run_make (P := Tryd.prog) w 44 3 i0 (.int .i64 0) Tryd.underlying44 hi hz0 .i64 .i64 m.rc.length m.rc.length (by omega) (Int.le_refl _) (by rw [hz2]; omega) (by omega)
    rw [h, hz1, Int.toNat_natCast, Nat.mul_one]
    rfl
  clear ho hsz
  go_enter Tryd.func88, Tryd.ntmps88
  go_wp2_with fail
  generalize hW : (w.alloc (.cells (mailV m a1 c1 a2 c2) 41)).alloc (.cells #[.string { data := #[] }, .string { data := #[] }, .string { data := #[] }, .slice none 0 0, .slice none 0 0, .int .i64 0, .int .i64 0, .slice none 0 0] 46) = W at *
  have K1 : Seal (CellsM W w.heap.size [.string m.fu, .string m.fd, .slice a1 m.rc.length c1, .slice a2 m.body.length c2]) := ⟨S0.out.two.head⟩
  have K2 : Seal (CellsM W (w.heap.size + 1) noCliV) := ⟨by have := S0.out.head; simp only [World.size_alloc] at this; exact this⟩
  have B0 : Seal (Below w.heap.size w W) := ⟨S0.out.below⟩
  have hk1 : w.heap.size < W.heap.size := by omega
  have hk2 : w.heap.size + 1 < W.heap.size := by omega
  clear hW S0 hs0
  have hn1 : w.heap.size ≠ w.heap.size + 1 := by omega
  have hn2 : w.heap.size + 1 ≠ w.heap.size := by omega
  have q0 := K1.out.c 0 _ rfl
  have q1 := K1.out.c 1 _ rfl
  have q2 := K1.out.c 2 _ rfl
  have q3 := K1.out.c 3 _ rfl
  have r0 := K2.out.c 0 _ rfl
  have f0 := K2.out.f 0 (by simp)
  have r1 := K2.out.c 1 _ rfl
  have f1 := K2.out.f 1 (by simp)
  have r2 := K2.out.c 2 _ rfl
  have f2 := K2.out.f 2 (by simp)
  have r3 := K2.out.c 3 _ rfl
  have f3 := K2.out.f 3 (by simp)
  have r4 := K2.out.c 4 _ rfl
  have f4 := K2.out.f 4 (by simp)
  have r5 := K2.out.c 5 _ rfl
  have f5 := K2.out.f 5 (by simp)
  have r6 := K2.out.c 6 _ rfl
  have f6 := K2.out.f 6 (by simp)
  have r7 := K2.out.c 7 _ rfl
  have f7 := K2.out.f 7 (by simp)
  go_region_with (go_at_call 172; (refine (l2Copy_any B m a1 c1 a2 c2 _ ?_ HS.out h1).mono ?_; (first | exact O0.out.later ((Below.refl _ _).drew) | exact O0.out.later (((Below.refl _ _).alloc (Nat.le_refl _) _).drew)); rintro e w8 ⟨b1, d1, b2, d2, rfl, o8, hb3⟩; have hb8 : Below W.heap.size W w8 := (by first | exact before_call hb3 | exact before_call2 hb3); have X3 := K1.out.later hb8; have R3 := K2.out.later hb8; have q0 := X3.c 0 _ rfl; have q1 := X3.c 1 _ rfl; have q2 := X3.c 2 _ rfl; have q3 := X3.c 3 _ rfl; have r0 := R3.c 0 _ rfl; have f0 := R3.f 0 (by simp); have r1 := R3.c 1 _ rfl; have f1 := R3.f 1 (by simp); have r2 := R3.c 2 _ rfl; have f2 := R3.f 2 (by simp); have r3 := R3.c 3 _ rfl; have f3 := R3.f 3 (by simp); have r4 := R3.c 4 _ rfl; have f4 := R3.f 4 (by simp); have r5 := R3.c 5 _ rfl; have f5 := R3.f 5 (by simp); have r6 := R3.c 6 _ rfl; have f6 := R3.f 6 (by simp); have r7 := R3.c 7 _ rfl; have f7 := R3.f 7 (by simp); have hl3 := R3.lt; have hl4 := X3.lt; have O8 : Seal _ := ⟨o8⟩; have H3 : Seal _ := ⟨hb3⟩; have H8 : Seal _ := ⟨hb8⟩; clear X3 R3 o8 hb3 hb8))
  all_goals
    have hs8 := H8.out.size
    have BF : Seal (Below w.heap.size w w8) := ⟨B0.out.trans (H8.out.mono B0.out.size)⟩
    have M8 : Seal (MailOwn w8 W.heap.size m b1 d1 b2 d2) := ⟨O8.out.base (by simp)⟩
    have HX : Seal True := ⟨trivial⟩
    clear q0 q1 q2 q3 f0 f1 f2 f3 f4 f5 f6 f7
    first
      | (have Z8 : Seal (w8.ownsRow (w.heap.size + 1 + 1) 3 1 (.slice (some ⟨W.heap.size, 0, none⟩) m.rc.length m.rc.length) m.rc.length ((List.replicate m.rc.length (0 : Int)).map (Value.int .i64))) := ⟨own_later (own_later (own_zeros (w := W) (B := w.heap.size + 1 + 1) (n := m.rc.length) (by omega) (by unfold maxLen; omega)) (Below.refl _ _).drew) H3.out⟩
         clear O8 H3
         go_wp2
         refine bodyPost_ret (v := .agg (cliV ⟨nm, m, 0, 0, List.replicate m.rc.length 0⟩ b1 d1 b2 d2 (some ⟨W.heap.size, 0, none⟩) m.rc.length)) (by simp [results, Tryd.results88, go_sem, r0, r1, r2, r3, r4, r5, r6, r7]) rfl ⟨b1, d1, b2, d2, some ⟨W.heap.size, 0, none⟩, m.rc.length, rfl, ⟨?_, ?_⟩, ?_⟩
         · refine (?_ : MailOwn _ W.heap.size m b1 d1 b2 d2).base (by omega)
           iterate 8 (refine MailOwn.low ?_ (by omega) _ _)
           exact M8.out
         · refine ownsRow_base (B := w.heap.size + 1 + 1) ?_ (by omega)
           have hq : (List.replicate m.rc.length (0 : Int)).length = m.rc.length := List.length_replicate
           simp only [hq]
           iterate 8 (refine own_low ?_ (by omega) _)
           exact Z8.out
         · iterate 8 (refine Below.setCell ?_ (by simp) _)
           exact BF.out)
      | (clear O8 H3
         go_wp2
         refine bodyPost_ret (v := .agg (cliV ⟨nm, m, 0, 0, List.replicate m.rc.length 0⟩ b1 d1 b2 d2 (some ⟨w8.heap.size, 0, none⟩) m.rc.length)) (by simp [results, Tryd.results88, go_sem, hl3, r0, r1, r2, r3, r4, r5, r6, r7]) rfl ⟨b1, d1, b2, d2, some ⟨w8.heap.size, 0, none⟩, m.rc.length, rfl, ⟨?_, ?_⟩, ?_⟩
         · refine MailOwn.later ?_ ((Below.refl _ _).alloc (Nat.le_refl _) _)
           refine (?_ : MailOwn _ W.heap.size m b1 d1 b2 d2).base (by omega)
           iterate 8 (refine MailOwn.low ?_ (by omega) _ _)
           exact M8.out
         · have hq : (List.replicate m.rc.length (0 : Int)).length = m.rc.length := List.length_replicate
           simp only [hq]
           exact own_zeros_at (by simp) (by simp; omega) (by unfold maxLen; omega)
         · refine Below.alloc ?_ (by simp; omega) _
           iterate 8 (refine Below.setCell ?_ (by simp) _)
           exact BF.out)
end Go.Proofs.YtgjkoegpdfcadaaDoor
