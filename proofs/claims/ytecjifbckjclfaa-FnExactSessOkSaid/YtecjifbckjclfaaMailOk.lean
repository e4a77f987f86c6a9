/- Contracts: whether a mail is ok, of the model and of the program. -/
import Derived.Test.YtecjifbckjclfaaPairs
import Derived.Test.YtecjifbckjclfaaPlainMail
import Derived.Outline
namespace Go.Proofs.Ytecjifbckjclfaa
open Go Go.RowKit

abbrev mailV (m : MailD) (a1 : Option Addr) (c1 : Nat) (a2 : Option Addr) (c2 : Nat) : Array Value := #[.string m.fu, .string m.fd, .slice a1 m.rc.length c1, .slice a2 m.body.length c2]
structure MailAt (w : World) (m : MailD) (a1 a2 : Option Addr) : Prop where
  rc : PairRow w a1 m.rc
  body : StrRow w a2 m.body
structure MailSz (N : Nat) (m : MailD) : Prop where
  fu : m.fu.size ≤ N
  fd : m.fd.size ≤ N
  rcl : m.rc.length ≤ N
  rcs : ∀ p ∈ m.rc, p.1.size ≤ N ∧ p.2.size ≤ N
  bol : m.body.length ≤ N
  bos : ∀ x ∈ m.body, x.size ≤ N
theorem MailAt.below {B : Nat} {w w' : World} {m : MailD} {a1 a2 : Option Addr} (h : MailAt w m a1 a2) (hb : Below B w w') (hB : w.heap.size ≤ B) : MailAt w' m a1 a2 := ⟨h.rc.below hb hB, h.body.below hb hB⟩
theorem MailAt.later {w w' : World} {m : MailD} {a1 a2 : Option Addr} (h : MailAt w m a1 a2) (hb : Below w.heap.size w w') : MailAt w' m a1 a2 := h.below hb (Nat.le_refl _)
theorem MailSz.mono {N M : Nat} {m : MailD} (h : MailSz N m) (hN : N ≤ M) : MailSz M m :=
  ⟨Nat.le_trans h.fu hN, Nat.le_trans h.fd hN, Nat.le_trans h.rcl hN, fun p hp => ⟨Nat.le_trans (h.rcs p hp).1 hN, Nat.le_trans (h.rcs p hp).2 hN⟩, Nat.le_trans h.bol hN, fun x hx => Nat.le_trans (h.bos x hx) hN⟩

theorem bcell {W w1 : World} (hb : Below W.heap.size W w1) : (∀ b o, b < W.heap.size → w1.cell? ⟨b, o, none⟩ = W.cell? ⟨b, o, none⟩) ∧ (∀ b o, b < W.heap.size → w1.frozen? ⟨b, o, none⟩ = W.frozen? ⟨b, o, none⟩) :=
  ⟨fun b o h => hb.cell (p := ⟨b, o, none⟩) h, fun b o h => hb.frozen (p := ⟨b, o, none⟩) h⟩

/-- The four cells of a local mail, in block k. -/
structure FourAt (w : World) (k : Nat) (x0 x1 x2 x3 : Value) : Prop where
  c0 : w.cell? ⟨k, 0, none⟩ = some x0
  c1 : w.cell? ⟨k, 1, none⟩ = some x1
  c2 : w.cell? ⟨k, 2, none⟩ = some x2
  c3 : w.cell? ⟨k, 3, none⟩ = some x3
theorem FourAt.new (w : World) (x0 x1 x2 x3 : Value) (t : TypeId) : FourAt (w.alloc (.cells #[x0, x1, x2, x3] t)) w.heap.size x0 x1 x2 x3 :=
  ⟨by rw [World.cell?_alloc_new]; rfl, by rw [World.cell?_alloc_new]; rfl, by rw [World.cell?_alloc_new]; rfl, by rw [World.cell?_alloc_new]; rfl⟩
theorem FourAt.cells {w : World} {k : Nat} {x0 x1 x2 x3 : Value} (h : FourAt w k x0 x1 x2 x3) : w.cell? ⟨k, 0, none⟩ = some x0 ∧ w.cell? ⟨k, 1, none⟩ = some x1 ∧ w.cell? ⟨k, 2, none⟩ = some x2 ∧ w.cell? ⟨k, 3, none⟩ = some x3 := ⟨h.c0, h.c1, h.c2, h.c3⟩
theorem FourAt.later {w w' : World} {k : Nat} {x0 x1 x2 x3 : Value} (h : FourAt w k x0 x1 x2 x3) (hb : Below w.heap.size w w') : FourAt w' k x0 x1 x2 x3 :=
  have hlt := World.block_lt_of_cell? w _ h.c0
  ⟨(hb.cell (p := ⟨k, 0, none⟩) hlt).trans h.c0, (hb.cell (p := ⟨k, 1, none⟩) hlt).trans h.c1, (hb.cell (p := ⟨k, 2, none⟩) hlt).trans h.c2, (hb.cell (p := ⟨k, 3, none⟩) hlt).trans h.c3⟩

end Go.Proofs.Ytecjifbckjclfaa
