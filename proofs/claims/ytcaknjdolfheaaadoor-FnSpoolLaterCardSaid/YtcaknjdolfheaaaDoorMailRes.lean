/- A mail of a call's own as a part of its memory; marked. -/
import Derived.Test.YtcaknjdolfheaaaDoorBasis
import Derived.Test.YtcaknjdolfheaaaDoorHeld
namespace Go.Proofs.YtcaknjdolfheaaaDoor
open Go Go.RowKit

theorem cells_two {w : World} {k : Nat} {x0 x1 x2 x3 : Value} (h : CellsM w k [x0, x1, x2, x3]) : w.cell? ⟨k, 0, none⟩ = some x0 ∧ w.cell? ⟨k, 1, none⟩ = some x1 ∧ w.cell? ⟨k, 2, none⟩ = some x2 ∧ w.cell? ⟨k, 3, none⟩ = some x3 ∧ w.frozen? ⟨k, 0, none⟩ = false ∧ w.frozen? ⟨k, 1, none⟩ = false ∧ w.frozen? ⟨k, 2, none⟩ = false ∧ w.frozen? ⟨k, 3, none⟩ = false :=
  ⟨h.c 0 _ rfl, h.c 1 _ rfl, h.c 2 _ rfl, h.c 3 _ rfl, h.f 0 (by simp), h.f 1 (by simp), h.f 2 (by simp), h.f 3 (by simp)⟩
theorem mail_zero {w : World} {B : Nat} {m : MailD} {a1 : Option Addr} {c1 : Nat} {a2 : Option Addr} {c2 : Nat} (h : MailOwn w B m a1 c1 a2 c2) : MailOwn w 0 m a1 c1 a2 c2 := ⟨row_zero h.rc, row_zero h.body, h.ne⟩
theorem mailS_lt {w : World} {B : Nat} {m : MailD} {a1 : Option Addr} {c1 : Nat} {a2 : Option Addr} {c2 : Nat} (h : MailOwn w B m a1 c1 a2 c2) : ∀ i, mailS a1 a2 i → B ≤ i ∧ i < w.heap.size := by
  rintro i (e | e)
  · exact h.rc.lt e
  · exact h.body.lt e
def Res.mail (m : MailD) (a1 : Option Addr) (c1 : Nat) (a2 : Option Addr) (c2 : Nat) : Res where
  P w := MailOwn w 0 m a1 c1 a2 c2
  S i := mailS a1 a2 i
  loc w w' h hs hb := ⟨(Res.row 27 2 (.slice a1 m.rc.length c1) m.rc.length (pairCells m.rc)).loc w w' h.rc hs (fun i hi => hb i (.inl (by rw [← own_block a1 m.rc.length c1]; exact hi))),
    (Res.row 9 1 (.slice a2 m.body.length c2) m.body.length (m.body.map Value.string)).loc w w' h.body hs (fun i hi => hb i (.inr (by rw [← own_block a2 m.body.length c2]; exact hi))), h.ne⟩
/-- The rows of a mail, marked from k on. -/
def Res.mailMarked (k n1 n2 : Nat) (a1 : Option Addr) (c1 : Nat) (a2 : Option Addr) (c2 : Nat) : Res where
  P w := w.ownsRow 0 27 2 (.slice a1 n1 c1) n1 (pairCells (markP k n1)) ∧ w.ownsRow 0 9 1 (.slice a2 n2 c2) n2 ((markRow (k + n1 * 2) n2).map Value.string)
  S i := mailS a1 a2 i
  loc w w' h hs hb := ⟨(Res.row 27 2 (.slice a1 n1 c1) n1 (pairCells (markP k n1))).loc w w' h.1 hs (fun i hi => hb i (.inl (by rw [← own_block a1 n1 c1]; exact hi))),
    (Res.row 9 1 (.slice a2 n2 c2) n2 ((markRow (k + n1 * 2) n2).map Value.string)).loc w w' h.2 hs (fun i hi => hb i (.inr (by rw [← own_block a2 n2 c2]; exact hi)))⟩
theorem StX.mail {X : Nat → Prop} {w0 w w' : World} {l : List Res} (h : StX X w0 w l) (hb : Below w.heap.size w w') {m : MailD} {a1 : Option Addr} {c1 : Nat} {a2 : Option Addr} {c2 : Nat} (ho : MailOwn w' w.heap.size m a1 c1 a2 c2) : StX X w0 w' (Res.mail m a1 c1 a2 c2 :: l) :=
  h.add hb _ (mail_zero ho) (mailS_lt ho)
theorem StX.mailOwn {X : Nat → Prop} {w0 w : World} {l : List Res} {m : MailD} {a1 : Option Addr} {c1 : Nat} {a2 : Option Addr} {c2 : Nat} (h : StX X w0 w (Res.mail m a1 c1 a2 c2 :: l)) : MailOwn w w0.heap.size m a1 c1 a2 c2 :=
  ⟨row_base h.head.rc fun g hg => (h.low g (.inl (by rw [← own_block a1 m.rc.length c1]; exact hg))).1, row_base h.head.body fun g hg => (h.low g (.inr (by rw [← own_block a2 m.body.length c2]; exact hg))).1, h.head.ne⟩
theorem StX.mailAt {X : Nat → Prop} {w0 w : World} {l : List Res} {m : MailD} {a1 : Option Addr} {c1 : Nat} {a2 : Option Addr} {c2 : Nat} (h : StX X w0 w (Res.mail m a1 c1 a2 c2 :: l)) : MailAt w m a1 a2 := h.head.at
theorem Only.of_in {S : Nat → Prop} {w w' : World} (h : GrownIn S w w') : Only S w w' := ⟨h.os, h.tape, h.output, h.size, h.block⟩
theorem StX.mailMark {X : Nat → Prop} {w0 w w' : World} {l : List Res} {B k : Nat} {m : MailD} {a1 : Option Addr} {c1 : Nat} {a2 : Option Addr} {c2 : Nat} (h : StX X w0 w (Res.mail m a1 c1 a2 c2 :: l)) (hg : GrownIn (mailS a1 a2) w w') (h1 : w'.ownsRow B 27 2 (.slice a1 m.rc.length c1) m.rc.length (pairCells (markP k m.rc.length))) (h2 : Row w' B a2 c2 (markRow (k + m.rc.length * 2) m.body.length)) :
    StX X w0 w' (Res.mailMarked k m.rc.length m.body.length a1 c1 a2 c2 :: l) := by
  have h2' : w'.ownsRow B 9 1 (.slice a2 m.body.length c2) m.body.length ((markRow (k + m.rc.length * 2) m.body.length).map Value.string) := by
    unfold Row at h2
    rw [markRow_length] at h2
    exact h2
  refine h.change (Only.of_in hg) _ ⟨row_zero h1, row_zero h2'⟩ ?_
  intro i hi
  exact ⟨.inl hi, Nat.lt_of_lt_of_le (h.low i hi).2 hg.size⟩
theorem StX.markedRows {X : Nat → Prop} {w0 w : World} {l : List Res} {k n1 n2 : Nat} {a1 : Option Addr} {c1 : Nat} {a2 : Option Addr} {c2 : Nat} (h : StX X w0 w (Res.mailMarked k n1 n2 a1 c1 a2 c2 :: l)) : PairRow w a1 (markP k n1) ∧ StrRow w a2 (markRow (k + n1 * 2) n2) := by
  obtain ⟨h1, h2⟩ := h.head
  constructor
  · refine PRow.pairs (B := 0) (t := 27) (cap := c1) ?_
    unfold PRow
    rw [show (markP k n1).length = n1 by simp [markP]]
    exact h1
  · refine StrRow.of_own (base := 0) (e := 9) (cap := c2) ?_
    rw [markRow_length]
    exact h2
end Go.Proofs.YtcaknjdolfheaaaDoor
