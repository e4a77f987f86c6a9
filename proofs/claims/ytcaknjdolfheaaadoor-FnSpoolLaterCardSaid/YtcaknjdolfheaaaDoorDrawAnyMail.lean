/- Contract: a mail drawn, or one with a fault. -/
import Derived.Test.YtcaknjdolfheaaaDoorDrawMail
import Derived.Test.YtcaknjdolfheaaaDoorDraws
import Derived.Test.YtcaknjdolfheaaaDoorMailRes
import Derived.Test.YtcaknjdolfheaaaDoorMailRows
import Derived.Test.YtcaknjdolfheaaaDoorMailGetS
import Derived.Deep.RegionLaw
import Derived.Deep.AppendLies
namespace Go.Proofs.YtcaknjdolfheaaaDoor
open Go Go.RowKit

/-- A draw under way: the reader lies at b, older than w0; parts of the call's own. -/
structure Dw (B b P : Nat) (w0 w : World) (l : List Res) : Prop where
  st : StX (fun i => i = b) w0 w l
  rd : Rd B b P w
  lt : b < w0.heap.size
theorem Dw.start {B b P : Nat} {w : World} (h : Rd B b P w) : Dw B b P w w [] := ⟨StX.start _ w, h, h.lt.2⟩
theorem Dw.draw {B b P P' : Nat} {w0 w w' : World} {l : List Res} (h : Dw B b P w0 w l) (hr : Rd B b P' w') (hg : w.grownBy w' (some b)) : Dw B b P' w0 w' l :=
  ⟨h.st.out (Only.of_grown hg fun g e => (Option.some.inj e).symm) fun i e => by subst e; exact h.lt, hr, h.lt⟩
theorem Dw.more {B b P : Nat} {w0 w : World} {l : List Res} (h : Dw B b P w0 w l) (o : Obj) : Dw B b P w0 (w.alloc o) l := ⟨h.st.more o, h.rd.more o, h.lt⟩
theorem Dw.later {B b P : Nat} {w0 w w' : World} {l : List Res} (h : Dw B b P w0 w l) (hb : Below w.heap.size w w') : Dw B b P w0 w' l := ⟨h.st.later hb, h.rd.later hb, h.lt⟩
theorem Dw.alloc {B b P : Nat} {w0 w : World} {l : List Res} (h : Dw B b P w0 w l) (cs : Array Value) (t : TypeId) : Dw B b P w0 (w.alloc (.cells cs t)) (Res.cells w.heap.size cs.toList :: l) := ⟨h.st.alloc cs t, h.rd.more _, h.lt⟩
theorem Dw.push {B b P P' : Nat} {w0 w w' : World} {l : List Res} (h : Dw B b P w0 w l) (hr : Rd B b P' w') (hg : w.grownBy w' (some b)) (r : Res) (hp : r.P w') (hS : ∀ i, r.S i → w.heap.size ≤ i ∧ i < w'.heap.size) : Dw B b P' w0 w' (r :: l) :=
  ⟨h.st.push (h.draw hr hg).st r hp hS, hr, h.lt⟩
theorem Dw.mail {B b P P' : Nat} {w0 w w' : World} {l : List Res} (h : Dw B b P w0 w l) (hr : Rd B b P' w') (hg : w.grownBy w' (some b)) {m : MailD} {a1 : Option Addr} {c1 : Nat} {a2 : Option Addr} {c2 : Nat} (ho : MailOwn w' w.heap.size m a1 c1 a2 c2) : Dw B b P' w0 w' (Res.mail m a1 c1 a2 c2 :: l) :=
  h.push hr hg _ (mail_zero ho) (mailS_lt ho)
theorem Dw.row {B b P P' : Nat} {w0 w w' : World} {l : List Res} (h : Dw B b P w0 w l) (hr : Rd B b P' w') (hg : w.grownBy w' (some b)) {e : TypeId} {size : Nat} {v : Value} {n : Nat} {xs : List Value} (ho : w'.ownsRow w.heap.size e size v n xs) : Dw B b P' w0 w' (Res.row e size v n xs :: l) :=
  h.push hr hg _ (row_zero ho) fun i hi => World.ownsRow.lt ho i hi
theorem Dw.perm {B b P : Nat} {w0 w : World} {l l' : List Res} (h : Dw B b P w0 w l) (hp : l.Perm l') : Dw B b P w0 w l' := ⟨h.st.perm hp, h.rd, h.lt⟩
theorem Dw.st' {B b P : Nat} {w0 w w' : World} {l l' : List Res} (h : Dw B b P w0 w l) (hs : StX (fun i => i = b) w0 w' l') (hr : Rd B b P w') : Dw B b P w0 w' l' := ⟨hs, hr, h.lt⟩
theorem Dw.set {B b P : Nat} {w0 w : World} {k : Nat} {xs : List Value} {l : List Res} (h : Dw B b P w0 w (Res.cells k xs :: l)) (j : Nat) (v : Value) (hj : j < xs.length) : Dw B b P w0 (w.setCell ⟨k, j, none⟩ v) (Res.cells k (xs.set j v) :: l) :=
  ⟨h.st.set j v hj, h.rd.set (by have := (h.st.low k rfl).1; have := h.lt; omega) v, h.lt⟩
theorem Dw.app {B b P : Nat} {w0 w w' : World} {e : TypeId} {size : Nat} {v v' : Value} {n n' C : Nat} {xs xs' : List Value} {l : List Res} (h : Dw B b P w0 w (Res.row e size v n xs :: l)) (ho : w'.ownsRow C e size v' n' xs') (hg : w.grownBy w' v.ownBlock) (hat : v'.ownBlock = v.ownBlock ∨ v'.ownBlock = some w.heap.size) : Dw B b P w0 w' (Res.row e size v' n' xs' :: l) :=
  ⟨h.st.app ho hg hat, h.rd.grown hg fun k e => by have := (h.st.low k e).1; have := h.lt; omega, h.lt⟩
theorem Dw.two {B b P : Nat} {w0 w : World} {x y : Res} {l : List Res} (h : Dw B b P w0 w (x :: y :: l)) : Dw B b P w0 w (y :: x :: l) := ⟨h.st.two, h.rd, h.lt⟩
theorem Dw.three {B b P : Nat} {w0 w : World} {x y z : Res} {l : List Res} (h : Dw B b P w0 w (x :: y :: z :: l)) : Dw B b P w0 w (z :: x :: y :: l) := ⟨h.st.three, h.rd, h.lt⟩
theorem Dw.four {B b P : Nat} {w0 w : World} {x y z u : Res} {l : List Res} (h : Dw B b P w0 w (x :: y :: z :: u :: l)) : Dw B b P w0 w (u :: x :: y :: z :: l) := ⟨h.st.four, h.rd, h.lt⟩
theorem Dw.tail {B b P : Nat} {w0 w : World} {x : Res} {l : List Res} (h : Dw B b P w0 w (x :: l)) : Dw B b P w0 w l := ⟨h.st.tail, h.rd, h.lt⟩
theorem Dw.up {B b P P' : Nat} {w0 w : World} {l : List Res} (h : Dw B b P w0 w l) (hP : P ≤ P') : Dw B b P' w0 w l := ⟨h.st, h.rd.mono hP, h.lt⟩
theorem Dw.grown {B b P : Nat} {w0 w : World} {l : List Res} (h : Dw B b P w0 w l) : w0.grownBy w (some b) :=
  ⟨h.st.grown.os, h.st.grown.tape, h.st.grown.output, h.st.grown.size, fun i hi hn => h.st.grown.block i hi fun e => hn (by rw [e])⟩

theorem Dw.some {B b P : Nat} {w0 w : World} {l l' : List Res} (h : Dw B b P w0 w l) (hs : l'.Sublist l) : Dw B b P w0 w l' := ⟨h.st.some hs, h.rd, h.lt⟩

/-- What a drawn mail is: not large. -/
structure Drawn (m : MailD) : Prop where
  sz : MailSz 100 m
  rc : m.rc.length ≤ 5
  body : m.body.length ≤ 13

/-- The result's cells, filled: the mail is the call's own. -/
theorem anyFilled {B b P : Nat} {w W : World} {k : Nat} {m : MailD} {a1 : Option Addr} {c1 : Nat} {a2 : Option Addr} {c2 : Nat} {C : Res} (h : Dw B b P w W [C, Res.row 27 2 (.slice a1 m.rc.length c1) m.rc.length (pairCells m.rc), Res.row 9 1 (.slice a2 m.body.length c2) m.body.length (m.body.map Value.string), Res.cells k noMailV]) :
    let W' := (((W.setCell ⟨k, 0, none⟩ (.string m.fu)).setCell ⟨k, 1, none⟩ (.string m.fd)).setCell ⟨k, 2, none⟩ (.slice a1 m.rc.length c1)).setCell ⟨k, 3, none⟩ (.slice a2 m.body.length c2)
    MailOwn W' w.heap.size m a1 c1 a2 c2 ∧ Rd B b P W' ∧ w.grownBy W' (some b) := by
  have D := (((h.four.set 0 (.string m.fu) (by simp)).set 1 (.string m.fd) (by simp)).set 2 (.slice a1 m.rc.length c1) (by simp)).set 3 (.slice a2 m.body.length c2) (by simp)
  exact ⟨D.st.tail.tail.mailJoin, D.rd, D.grown⟩

end Go.Proofs.YtcaknjdolfheaaaDoor
