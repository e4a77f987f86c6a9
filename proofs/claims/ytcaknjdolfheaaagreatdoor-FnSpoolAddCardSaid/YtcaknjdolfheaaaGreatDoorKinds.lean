/- Parts, KindMail. -/
import Derived.Test.YtcaknjdolfheaaaGreatDoorRowOf
import Derived.Test.YtcaknjdolfheaaaGreatDoorMailRes
import Derived.Test.YtcaknjdolfheaaaGreatDoorMails
namespace Go.Proofs.YtcaknjdolfheaaaGreatDoor
open Go Go.RowKit

/-- The call began at w0; these groups of parts lie in its own memory. -/
abbrev Pt (w0 w : World) (Ls : List (List Res)) : Prop := St w0 w Ls.flatten
theorem Pt.start (w : World) : Pt w w [] := St.start w
theorem Pt.nth {w0 w : World} {Ls : List (List Res)} (h : Pt w0 w Ls) (i : Nat) {R : List Res} (hi : Ls[i]? = some R) : ∀ r ∈ R, r.P w :=
  fun _ hr => h.get (List.mem_flatten.2 ⟨R, List.mem_of_getElem? hi, hr⟩)
theorem Pt.cellsM {w0 w : World} {Ls : List (List Res)} (h : Pt w0 w Ls) (i : Nat) {k : Nat} {xs : List Value} (hi : Ls[i]? = some [Res.cells k xs]) : CellsM w k xs :=
  h.nth i hi _ (List.mem_singleton.2 rfl)
theorem flatten_bring {α : Type} : ∀ (Ls : List (List α)) (i : Nat) (R : List α), Ls[i]? = some R → Ls.flatten.Perm (R ++ (Ls.eraseIdx i).flatten)
  | [], i, R, h => by cases h
  | L :: Ls, 0, R, h => by
    obtain rfl : L = R := Option.some.inj h
    exact List.Perm.refl _
  | L :: Ls, i + 1, R, h => by
    have ih := flatten_bring Ls i R h
    show (L ++ Ls.flatten).Perm (R ++ (L ++ (Ls.eraseIdx i).flatten))
    refine (ih.append_left L).trans ?_
    rw [← List.append_assoc, ← List.append_assoc]
    exact List.perm_append_comm.append_right _
/-- The i-th group comes to the head. -/
theorem Pt.bring {w0 w : World} {Ls : List (List Res)} (h : Pt w0 w Ls) (i : Nat) {R : List Res} (hi : Ls[i]? = some R) : Pt w0 w (R :: Ls.eraseIdx i) := StX.perm h (flatten_bring Ls i R hi)
theorem Pt.join {w0 w w' : World} {Ls : List (List Res)} {R : List Res} (h : Pt w0 w Ls) (k : St w w' R) : Pt w0 w' (R :: Ls) := StX.join h k
theorem Pt.alloc {w0 w : World} {Ls : List (List Res)} (h : Pt w0 w Ls) (cs : Array Value) (t : TypeId) : Pt w0 (w.alloc (.cells cs t)) ([Res.cells w.heap.size cs.toList] :: Ls) := StX.alloc h cs t
theorem Pt.later {w0 w w' : World} {Ls : List (List Res)} (h : Pt w0 w Ls) (hb : Below w.heap.size w w') : Pt w0 w' Ls := StX.later h hb
theorem Pt.drew {w0 w : World} {Ls : List (List Res)} (h : Pt w0 w Ls) : Pt w0 w.drew Ls := StX.drew h
theorem Pt.tail {w0 w : World} {R : List Res} {Ls : List (List Res)} (h : Pt w0 w (R :: Ls)) : Pt w0 w Ls := StX.drop (l := R) h
theorem Pt.prefix {w0 w : World} {As Bs : List (List Res)} (h : Pt w0 w (As ++ Bs)) : Pt w0 w As := by
  have h' : St w0 w (As.flatten ++ Bs.flatten) := by rw [← List.flatten_append]; exact h
  exact h'.first
theorem Pt.set {w0 w : World} {k : Nat} {xs : List Value} {Ls : List (List Res)} (h : Pt w0 w ([Res.cells k xs] :: Ls)) (j : Nat) (v : Value) (hj : j < xs.length) : Pt w0 (w.setCell ⟨k, j, none⟩ v) ([Res.cells k (xs.set j v)] :: Ls) := StX.set (l := Ls.flatten) h j v hj
theorem Pt.below {w0 w : World} {Ls : List (List Res)} (h : Pt w0 w Ls) : Below w0.heap.size w0 w := StX.below h
theorem Pt.size {w0 w : World} {Ls : List (List Res)} (h : Pt w0 w Ls) : w0.heap.size ≤ w.heap.size := StX.size h
end Go.Proofs.YtcaknjdolfheaaaGreatDoor
namespace Go.Proofs.YtcaknjdolfheaaaGreatDoor
open Go Go.RowKit

/-- Where its rows lie. -/
structure MailP where
  a1 : Option Addr
  c1 : Nat
  a2 : Option Addr
  c2 : Nat
abbrev mailKV (m : MailD) (p : MailP) : Array Value := #[.string m.fu, .string m.fd, .slice p.a1 m.rc.length p.c1, .slice p.a2 m.body.length p.c2]
abbrev mailKL (m : MailD) (p : MailP) : List Value := [.string m.fu, .string m.fd, .slice p.a1 m.rc.length p.c1, .slice p.a2 m.body.length p.c2]
abbrev mailKR (m : MailD) (p : MailP) : List Res := [Res.mail m p.a1 p.c1 p.a2 p.c2]
abbrev mailKA (w : World) (m : MailD) (p : MailP) : Prop := MailAt w m p.a1 p.a2
def mailKF (_ : MailD) (_ : MailP) : Prop := True
abbrev mailKZ (m : MailD) : Prop := MailSz 1048576 m
def mailKM (m : MailD) : Nat := m.rc.length * 2 + m.body.length
def mailKmk (k : Nat) (m : MailD) : MailD := ⟨m.fu, m.fd, markP k m.rc.length, markRow (k + m.rc.length * 2) m.body.length⟩
theorem mailK_below {B : Nat} {w w' : World} {m : MailD} {p : MailP} (h : mailKA w m p) (hb : Below B w w') (hB : w.heap.size ≤ B) : mailKA w' m p := h.below hb hB
theorem mailK_read {w : World} {m : MailD} {p : MailP} (_ : mailKF m p) (h : ∀ r ∈ mailKR m p, r.P w) : mailKA w m p := (h _ (List.mem_singleton.2 rfl) : MailOwn w 0 m p.a1 p.c1 p.a2 p.c2).at
theorem mailK_marks {m : MailD} (h : mailKZ m) : mailKM m ≤ 4194304 := by
  have := h.rcl
  have := h.bol
  unfold mailKM
  omega
theorem mailK_mkF {k : Nat} {m : MailD} {p : MailP} (h : mailKF m p) : mailKF (mailKmk k m) p := h
theorem mailK_small {m : MailD} {left : Int} (h : ¬ leftM m left < 0) (h0 : 0 ≤ left) (h1 : left ≤ 1048576) : mailKZ m := leftM_small h h0 h1

theorem szMail_K (m : MailD) (p : MailP) (left : Int) (w : World) (hat : mailKA w m p) (hsz : MailSz maxLen m) (h0 : 0 ≤ left) (h1 : left ≤ 1048576) :
    Calls Tryz.prog 97 #[.agg (mailKV m p), .int .i64 left] w fun e w' => e = .returned (.int .i64 (leftM m left)) ∧ Below w.heap.size w w' := szMail_any m p.a1 p.c1 p.a2 p.c2 left w hat hsz h0 h1
theorem toMail_K (m : MailD) (p : MailP) (w : World) (hat : mailKA w m p) (hz : mailKZ m) :
    Calls Tryz.prog 100 #[.agg (mailKV m p)] w fun e w' => ∃ q, e = .returned (.agg (mailKV m q)) ∧ mailKF m q ∧ St w w' (mailKR m q) := by
  refine (toMail_any m p.a1 p.c1 p.a2 p.c2 w hat hz).mono ?_
  rintro e w' ⟨b1, d1, b2, d2, rfl, ho, hb⟩
  exact ⟨⟨b1, d1, b2, d2⟩, rfl, trivial, (St.start w).mail hb ho⟩
theorem eqMail_K (m : MailD) (p q : MailP) (w : World) (ha : mailKA w m p) (hb : mailKA w m q) (hz : mailKZ m) :
    Calls Tryz.prog 92 #[.agg (mailKV m p), .agg (mailKV m q)] w fun e w' => e = .returned (.bool true) ∧ Below w.heap.size w w' := eqMail_same m p.a1 p.c1 p.a2 p.c2 q.a1 q.c1 q.a2 q.c2 w ha hb hz.rcl hz.bol
theorem mail_marked {w : World} {k : Nat} {m : MailD} {a1 : Option Addr} {c1 : Nat} {a2 : Option Addr} {c2 : Nat} {B : Nat} (ho : MailOwn w B m a1 c1 a2 c2) {w' : World} (h1 : w'.ownsRow B 27 2 (.slice a1 m.rc.length c1) m.rc.length (pairCells (markP k m.rc.length))) (h2 : Row w' B a2 c2 (markRow (k + m.rc.length * 2) m.body.length)) : MailOwn w' B (mailKmk k m) a1 c1 a2 c2 := by
  refine ⟨?_, h2, ho.ne⟩
  unfold PRow
  rw [show (mailKmk k m).rc.length = m.rc.length from markP_length _ _]
  exact h1
theorem markMail_K (k : Nat) (m : MailD) (p : MailP) {w0 : World} {Ls : List (List Res)} (w : World) (h : Pt w0 w (mailKR m p :: Ls)) (_ : mailKF m p) (_ : mailKZ m) (hl : k + mailKM m ≤ 16777216) :
    Calls Tryz.prog 93 #[.agg (mailKV m p), .int .i64 k] w fun e w' => e = .returned (.int .i64 ((k + mailKM m : Nat) : Int)) ∧ Pt w0 w' (mailKR (mailKmk k m) p :: Ls) := by
  have h' : St w0 w (Res.mail m p.a1 p.c1 p.a2 p.c2 :: Ls.flatten) := h
  unfold mailKM at hl ⊢
  refine (markMail_own w0.heap.size k m p.a1 p.c1 p.a2 p.c2 w h'.mailOwn h'.size (by omega)).mono ?_
  rintro e w' ⟨rfl, gi, h1, h2⟩
  refine ⟨by rw [Nat.add_assoc], ?_⟩
  exact h'.change (Only.of_in gi) _ (mail_zero (mail_marked h'.mailOwn h1 h2)) fun i hi => ⟨.inl hi, Nat.lt_of_lt_of_le (h'.low i hi).2 gi.size⟩
theorem heldMail_K (k : Nat) (m : MailD) (p : MailP) (w : World) (h : mailKA w (mailKmk k m) p) (_ : mailKZ m) (hl : k + mailKM m ≤ 16777216) :
    Calls Tryz.prog 94 #[.agg (mailKV m p), .int .i64 k] w fun e w' => e = .returned (.int .i64 ((k + mailKM m : Nat) : Int)) ∧ Below w.heap.size w w' := by
  unfold mailKM at hl ⊢
  refine (heldMail_any k m.rc.length m.body.length m.fu m.fd p.a1 p.c1 p.a2 p.c2 w h.rc h.body (by omega)).mono ?_
  rintro e w' ⟨rfl, hb⟩
  exact ⟨by rw [Nat.add_assoc], hb⟩
end Go.Proofs.YtcaknjdolfheaaaGreatDoor
