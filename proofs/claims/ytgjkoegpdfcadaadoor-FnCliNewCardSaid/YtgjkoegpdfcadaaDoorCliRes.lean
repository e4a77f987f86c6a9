/- A client's state of a call's own as a part of its memory; marked. -/
import Derived.Test.YtgjkoegpdfcadaaDoorMailRes
import Derived.Test.YtgjkoegpdfcadaaDoorNewCliI
namespace Go.Proofs.YtgjkoegpdfcadaaDoor
open Go Go.RowKit

theorem cli_span {w : World} {B : Nat} {c : CliD} {a1 : Option Addr} {c1 : Nat} {a2 : Option Addr} {c2 : Nat} {a3 : Option Addr} {c3 : Nat} (h : CliOwn w B c a1 c1 a2 c2 a3 c3) : ∀ i, cliS a1 a2 a3 c.outs.length c3 i → B ≤ i ∧ i < w.heap.size := by
  rintro i (e | e)
  · exact mailS_lt h.m i e
  · exact World.ownsRow.lt h.outs i e
def Res.cli (c : CliD) (a1 : Option Addr) (c1 : Nat) (a2 : Option Addr) (c2 : Nat) (a3 : Option Addr) (c3 : Nat) : Res where
  P w := CliOwn w 0 c a1 c1 a2 c2 a3 c3
  S i := cliS a1 a2 a3 c.outs.length c3 i
  loc w w' h hs hb := ⟨(Res.mail c.m a1 c1 a2 c2).loc w w' h.m hs (fun i hi => hb i (.inl hi)), (Res.row 3 1 (.slice a3 c.outs.length c3) c.outs.length (c.outs.map (Value.int .i64))).loc w w' h.outs hs (fun i hi => hb i (.inr hi))⟩
/-- Blocks of the call's own of which nothing more is said. -/
def Res.gone (S : Nat → Prop) : Res where
  P _ := True
  S := S
  loc _ _ h _ _ := h
theorem StX.cli {X : Nat → Prop} {w0 w w' : World} {l : List Res} (h : StX X w0 w l) (hb : Below w.heap.size w w') {c : CliD} {a1 : Option Addr} {c1 : Nat} {a2 : Option Addr} {c2 : Nat} {a3 : Option Addr} {c3 : Nat} (ho : CliOwn w' w.heap.size c a1 c1 a2 c2 a3 c3) : StX X w0 w' (Res.cli c a1 c1 a2 c2 a3 c3 :: l) :=
  h.add hb _ ⟨mail_zero ho.m, row_zero ho.outs⟩ (cli_span ho)
theorem StX.cliOwn {X : Nat → Prop} {w0 w : World} {l : List Res} {c : CliD} {a1 : Option Addr} {c1 : Nat} {a2 : Option Addr} {c2 : Nat} {a3 : Option Addr} {c3 : Nat} (h : StX X w0 w (Res.cli c a1 c1 a2 c2 a3 c3 :: l)) : CliOwn w w0.heap.size c a1 c1 a2 c2 a3 c3 :=
  ⟨⟨row_base h.head.m.rc fun g hg => (h.low g (.inl (.inl (by rw [← own_block a1 c.m.rc.length c1]; exact hg)))).1, row_base h.head.m.body fun g hg => (h.low g (.inl (.inr (by rw [← own_block a2 c.m.body.length c2]; exact hg)))).1, h.head.m.ne⟩, row_base h.head.outs fun g hg => (h.low g (.inr hg)).1⟩
theorem StX.cliAt {X : Nat → Prop} {w0 w : World} {l : List Res} {c : CliD} {a1 : Option Addr} {c1 : Nat} {a2 : Option Addr} {c2 : Nat} {a3 : Option Addr} {c3 : Nat} (h : StX X w0 w (Res.cli c a1 c1 a2 c2 a3 c3 :: l)) : CliAt w c a1 a2 a3 := h.head.at
theorem StX.cliGone {X : Nat → Prop} {w0 w w' : World} {l : List Res} {c : CliD} {a1 : Option Addr} {c1 : Nat} {a2 : Option Addr} {c2 : Nat} {a3 : Option Addr} {c3 : Nat} (h : StX X w0 w (Res.cli c a1 c1 a2 c2 a3 c3 :: l)) (hg : GrownIn (cliS a1 a2 a3 c.outs.length c3) w w') :
    StX X w0 w' (Res.gone (cliS a1 a2 a3 c.outs.length c3) :: l) :=
  h.change (Only.of_in hg) _ trivial fun i hi => ⟨.inl hi, Nat.lt_of_lt_of_le (h.low i hi).2 hg.size⟩
theorem cells_cli {w : World} {k : Nat} {c : CliD} {a1 : Option Addr} {c1 : Nat} {a2 : Option Addr} {c2 : Nat} {a3 : Option Addr} {c3 : Nat} (h : CellsM w k (cliV c a1 c1 a2 c2 a3 c3).toList) : w.cell? ⟨k, 0, none⟩ = some (.string c.nm) ∧ w.cell? ⟨k, 1, none⟩ = some (.string c.m.fu) ∧ w.cell? ⟨k, 2, none⟩ = some (.string c.m.fd) ∧ w.cell? ⟨k, 3, none⟩ = some (.slice a1 c.m.rc.length c1) ∧ w.cell? ⟨k, 4, none⟩ = some (.slice a2 c.m.body.length c2) ∧ w.cell? ⟨k, 5, none⟩ = some (.int .i64 c.st) ∧ w.cell? ⟨k, 6, none⟩ = some (.int .i64 c.pos) ∧ w.cell? ⟨k, 7, none⟩ = some (.slice a3 c.outs.length c3) :=
  ⟨h.c 0 _ rfl, h.c 1 _ rfl, h.c 2 _ rfl, h.c 3 _ rfl, h.c 4 _ rfl, h.c 5 _ rfl, h.c 6 _ rfl, h.c 7 _ rfl⟩
/-- The marked rows of a client's state, as they read. -/
def CliMarks (W : World) (x : CliD) (a1 a2 a3 : Option Addr) : Prop :=
  PairRow W a1 (markP 1 x.m.rc.length) ∧ StrRow W a2 (markRow (1 + x.m.rc.length * 2) x.m.body.length) ∧ IntRow W a3 (markI (1 + x.m.rc.length * 2 + x.m.body.length) x.outs.length)
theorem CliMarks.later {W W' : World} {x : CliD} {a1 a2 a3 : Option Addr} (h : CliMarks W x a1 a2 a3) (hb : Below W.heap.size W W') : CliMarks W' x a1 a2 a3 :=
  ⟨h.1.later hb, h.2.1.below hb (Nat.le_refl _), h.2.2.below hb (Nat.le_refl _)⟩
theorem cliNewR_lens {nm : ByteArray} {m : MailD} (z1 : m.rc.length ≤ 1048576) (z2 : m.body.length ≤ 1048576) : (cliNewR nm m).m.rc.length ≤ 1048576 ∧ (cliNewR nm m).m.body.length ≤ 1048576 ∧ (cliNewR nm m).outs.length ≤ 1048576 := by
  unfold cliNewR
  split
  · exact ⟨z1, z2, by rw [List.length_replicate]; exact z1⟩
  · exact ⟨Nat.zero_le _, Nat.zero_le _, Nat.zero_le _⟩
end Go.Proofs.YtgjkoegpdfcadaaDoor
