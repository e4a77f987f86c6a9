/- The walk of FnExactNoteOk. -/
import Derived.Test.YtgjkoegpdfcadaaDoorNoteOp
import Derived.Deep.RegionWith
namespace Go.Proofs.YtgjkoegpdfcadaaDoor
open Go Go.RowKit

theorem cells_note {w : World} {k : Nat} {n : NoteD} {a1 : Option Addr} {c1 : Nat} {a2 : Option Addr} {c2 : Nat} (h : CellsM w k (noteV n a1 c1 a2 c2).toList) : w.cell? ⟨k, 0, none⟩ = some (.int .i64 n.kind) ∧ w.cell? ⟨k, 1, none⟩ = some (.int .i64 n.id) ∧ w.cell? ⟨k, 2, none⟩ = some (.string n.u) ∧ w.cell? ⟨k, 3, none⟩ = some (.string n.d) ∧ w.cell? ⟨k, 4, none⟩ = some (.int .i64 n.now) ∧ w.cell? ⟨k, 5, none⟩ = some (.string n.m.fu) ∧ w.cell? ⟨k, 6, none⟩ = some (.string n.m.fd) ∧ w.cell? ⟨k, 7, none⟩ = some (.slice a1 n.m.rc.length c1) ∧ w.cell? ⟨k, 8, none⟩ = some (.slice a2 n.m.body.length c2) :=
  ⟨h.c 0 _ rfl, h.c 1 _ rfl, h.c 2 _ rfl, h.c 3 _ rfl, h.c 4 _ rfl, h.c 5 _ rfl, h.c 6 _ rfl, h.c 7 _ rfl, h.c 8 _ rfl⟩

set_option maxHeartbeats 3200000 in
set_option maxRecDepth 100000 in
theorem wFnExactNoteOk.walk (n : NoteD) (a1 : Option Addr) (c1 : Nat) (a2 : Option Addr) (c2 : Nat) (w : World) (hat : MailAt w n.m a1 a2) (hf : NoteSz maxLen n) (hm : HasMax w) :
    Calls Tryd.prog 12 #[.agg (noteV n a1 c1 a2 c2)] w fun e w' => e = .returned (.bool true) ∧ Below w.heap.size w w' := by
  have HM : Seal _ := ⟨hm⟩
  have HA : Seal _ := ⟨hat⟩
  have HF : Seal _ := ⟨hf⟩
  have S0 : Seal (St w _ [Res.cells w.heap.size (noteV n a1 c1 a2 c2).toList]) := ⟨(St.start w).alloc (noteV n a1 c1 a2 c2) 95⟩
  clear hm hat hf
  obtain ⟨l, hl⟩ : ∃ l, leftNo n 1048576 = l := ⟨_, rfl⟩
  have HL : Seal _ := ⟨hl⟩
  have hsz : ¬ l < 0 → NoteSz 1048576 n := fun h => by rw [← hl] at h; exact leftNo_small h
  obtain ⟨v, hv⟩ : ∃ v, noteB n = v := ⟨_, rfl⟩
  have HV : Seal _ := ⟨hv⟩
  clear hl hv
  go_enter Tryd.func12, Tryd.ntmps12
  go_wp2_with fail
  refine (szNote_any n a1 c1 a2 c2 _ (HA.out.below S0.out.below (Nat.le_refl _)) HF.out).mono ?_
  rintro e w1 ⟨rfl, hb1⟩
  rw [HL.out]
  have S1 : Seal _ := ⟨S0.out.later hb1⟩
  clear hb1 S0
  by_cases hneg : l < 0
  · clear hsz
    go_wp2
    go_ret
    exact ⟨rfl, S1.out.below⟩
  have HZ : Seal _ := ⟨hsz (by omega)⟩
  have z1 := HZ.out.m.rcl
  have z2 := HZ.out.m.bol
  clear hsz
  obtain ⟨g0, g1, g2, g3, g4, g5, g6, g7, g8⟩ := cells_note S1.out.head
  -- what the model answers
  go_wp2_with fail
  refine (toNote_any n a1 c1 a2 c2 _ (HA.out.below S1.out.below (Nat.le_refl _)) HZ.out).mono ?_
  rintro e w2 ⟨b1, d1, b2, d2, rfl, k1⟩
  have I2 : Seal _ := ⟨k1.mailAt⟩
  have S2 : Seal _ := ⟨S1.out.later k1.below⟩
  clear k1 S1 g0 g1 g2 g3 g4 g5 g6 g7 g8
  go_wp2_with fail
  refine (specNoteOk_any n b1 d1 b2 d2 _ I2.out HZ.out).mono ?_
  rintro e w3 ⟨rfl, hb3⟩
  rw [HV.out]
  have S3 : Seal _ := ⟨S2.out.later hb3⟩
  clear hb3 S2 I2
  obtain ⟨g0, g1, g2, g3, g4, g5, g6, g7, g8⟩ := cells_note S3.out.head
  -- what the program answers
  go_wp2_with fail
  refine (toNote_any n a1 c1 a2 c2 _ (HA.out.below S3.out.below (Nat.le_refl _)) HZ.out).mono ?_
  rintro e w4 ⟨b3, d3, b4, d4, rfl, k2⟩
  have HC : Seal _ := ⟨k2.mailOwn.rc.cap⟩
  have S4 : Seal _ := ⟨(S3.out.later k2.below).alloc (noteV n b3 d3 b4 d4) 99⟩
  have I4 : Seal _ := ⟨k2.mailAt.later ((Below.refl w4.heap.size w4).alloc (Nat.le_refl _) (.cells (noteV n b3 d3 b4 d4) 99))⟩
  clear k2 S3 g0 g1 g2 g3 g4 g5 g6 g7 g8
  go_wp2_with fail
  refine (implNoteOk_any n b3 d3 b4 d4 _ (HM.out.below S4.out.below (Nat.le_refl _)) I4.out HZ.out HC.out).mono ?_
  rintro e w5 ⟨rfl, hb5⟩
  rw [HV.out]
  have I5 : Seal _ := ⟨(I4.out.later hb5).later (Below.refl w5.heap.size w5).drew⟩
  have S5 : Seal _ := ⟨S4.out.later hb5⟩
  have S5d : Seal _ := ⟨S5.out.drew⟩
  clear hb5 S4 I4
  obtain ⟨x0, x1, x2, x3, x4, x5, x6, x7, x8⟩ := cells_note S5.out.head
  have lt1 := S5.out.head.lt
  obtain ⟨g0, g1, g2, g3, g4, g5, g6, g7, g8⟩ := cells_note S5.out.two.head
  have lt2 := S5.out.two.head.lt
  cases v
  all_goals
    go_wp2_with fail
    go_region_with (first | (go_at_call 59; refine (toNote_any n a1 c1 a2 c2 _ (HA.out.below S5d.out.below (Nat.le_refl _)) HZ.out).mono ?_; rintro e w6 ⟨b5, d5, b6, d6, rfl, k3⟩; have I6 : Seal _ := ⟨k3.mailAt⟩; have S6 : Seal _ := ⟨S5d.out.later k3.below⟩; have I6' : Seal _ := ⟨I5.out.later k3.below⟩; obtain ⟨y0, y1, y2, y3, y4, y5, y6, y7, y8⟩ := cells_note S6.out.head; clear k3) | (go_at_call 61; refine (eqNote_same n _ _ _ _ _ _ _ _ _ I6'.out I6.out z1 z2).mono ?_; rintro e w7 ⟨rfl, hb7⟩; have S7 : Seal _ := ⟨S6.out.later hb7⟩; clear hb7))
    all_goals
      go_wp2
      go_ret
      exact ⟨rfl, S7.out.below⟩
end Go.Proofs.YtgjkoegpdfcadaaDoor
