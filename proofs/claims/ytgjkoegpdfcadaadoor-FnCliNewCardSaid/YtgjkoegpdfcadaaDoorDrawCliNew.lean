/- Draws: a name and a mail for a client. -/
import Derived.Test.YtgjkoegpdfcadaaDoorDrawAnyMail
namespace Go.Proofs.YtgjkoegpdfcadaaDoor
open Go Go.RowKit

set_option maxHeartbeats 1600000 in
set_option maxRecDepth 100000 in
theorem drawCliNew_any (ao : Option Addr) (len cap : Nat) (w : World) (hr : ByteRow w ao len) (hl : len ≤ cap) (hc : cap ≤ maxLen) :
    Calls Tryd.prog 23 #[.slice ao len cap] w fun e w' => ∃ nm m a1 c1 a2 c2, nm.size ≤ 20 ∧ e = .returned (.tuple #[.string nm, .agg (mailV m a1 c1 a2 c2)]) ∧ MailOwn w' w.heap.size m a1 c1 a2 c2 ∧ Drawn m ∧ Below w.heap.size w w' := by
  have S0 : Seal _ := ⟨(St.start w).alloc #[.string { data := #[] }, .string { data := #[] }, .slice none 0 0, .slice none 0 0] 41⟩
  have C : Seal _ := ⟨l20Open_any ao len cap _ (hr.below S0.out.below (Nat.le_refl _)) hl hc⟩
  clear hr hl hc
  go_enter Tryd.func23, Tryd.ntmps23
  go_wp2_with fail
  refine C.out.mono ?_
  rintro e w1 ⟨b, rfl, h1, b1⟩
  have S1 : Seal _ := ⟨S0.out.later b1⟩
  have hbl := h1.lt
  have H1 : Seal _ := ⟨h1⟩
  clear h1 b1 S0 C
  go_wp2_with fail
  refine (l20AnyAddr_any _ b 0 w1 H1.out (by omega)).mono ?_
  rintro e w2 ⟨u, d, hu, hd, rfl, h2, g2⟩
  have K2 : Seal (CellsM w2 w.heap.size noMailV) := ⟨S1.out.head.kept g2 (fun e => by have := Option.some.inj e; simp at hbl; omega)⟩
  have B2 : Seal (Below w.heap.size w w2) := ⟨S1.out.below.grown g2 S1.out.size (fun k e => by have := Option.some.inj e; simp at hbl; omega)⟩
  have hs2 := g2.size
  have hs1 := S1.out.size
  have H2 : Seal _ := ⟨h2⟩
  have hfield : (Instr.field 37 (.agg #[.string u, .string d]) 1).run Tryd.prog w2 = .ok (.string d) w2 := by kernel_rfl
  clear g2 h2 S1 H1
  go_wp2_with fail
  refine (l20AnyMail_any _ b (0 + 4) w2 H2.out (by omega)).mono ?_
  rintro e w3 ⟨m, a1, c1, a2, c2, rfl, o3, hdr, h3, g3⟩
  have K3 : CellsM w3 w.heap.size noMailV := K2.out.kept g3 (fun e => by have := Option.some.inj e; simp at hbl; omega)
  have B3 : Seal (Below w.heap.size w w3) := ⟨B2.out.grown g3 B2.out.size (fun k e => by have := Option.some.inj e; simp at hbl; omega)⟩
  obtain ⟨r0, r1, r2, r3, f0, f1, f2, f3⟩ := cells_two K3
  have hs3 := g3.size
  have O3 : Seal (MailOwn w3 w2.heap.size m a1 c1 a2 c2) := ⟨o3⟩
  have HD : Seal _ := ⟨hdr⟩
  have hlt := K3.lt
  have hsw : w.heap.size < w2.heap.size := K2.out.lt
  have ZD : Seal (d.size ≤ 20) := ⟨hd⟩
  clear K3 g3 o3 hdr h3 hu hd K2 B2 H2
  go_wp2
  refine bodyPost_ret (v := .tuple #[.string d, .agg (mailV m a1 c1 a2 c2)]) (by simp [results, Tryd.results23, go_sem, r0, r1, r2, r3]) rfl ⟨d, m, a1, c1, a2, c2, ZD.out, rfl, ?_, HD.out, ?_⟩
  · refine (?_ : MailOwn _ w2.heap.size m a1 c1 a2 c2).base (by omega)
    iterate 4 (refine MailOwn.low ?_ (by omega) _ _)
    exact O3.out
  · iterate 4 (refine Below.setCell ?_ (by simp) _)
    exact B3.out
end Go.Proofs.YtgjkoegpdfcadaaDoor
