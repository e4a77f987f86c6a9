/- An argument that is a note, opened. -/
import Derived.Test.YtgjkoegpdfcadaaDoorFrameMail
import Derived.Test.YtgjkoegpdfcadaaDoorNoteD
namespace Go.Proofs.YtgjkoegpdfcadaaDoor
open Go.ChangeShapes Go.WideShapes Go.ChangeAt Go.RowKit Go.Deep

theorem cellsLNote : Tryd.prog.cellsOf 95 = 9 := by kernel_rfl
set_option maxRecDepth 100000 in
theorem open_note_cells {H : Type} {enc : TypeId × Value → H} {W : World} {cs : List Value} {fuel : Nat} {x : DataW H × List MemPlace}
    (h : DataW.trod enc Tryd.prog W 0 (fun _ => true) true fuel 95 cs = some x) :
    ∃ (n : NoteD) (a1 : Option Addr) (c1 : Nat) (a2 : Option Addr) (c2 : Nat), cs = (noteV n a1 c1 a2 c2).toList ∧ MailAt W n.m a1 a2 ∧ NoteSz maxLen n := by
  obtain ⟨xs, n', _, _, hcl, hxl, hf⟩ := DataW.trod_struct Tryd.underlying95 h
  rw [cellsLNote] at hcl
  have hf0 : DataW.trod enc Tryd.prog W 0 (fun _ => true) true n' 3 ((cs.drop 0).take 1) = xs[0]? := hf 0 _ rfl
  have hf1 : DataW.trod enc Tryd.prog W 0 (fun _ => true) true n' 3 ((cs.drop 1).take 1) = xs[1]? := hf 1 _ rfl
  have hf2 : DataW.trod enc Tryd.prog W 0 (fun _ => true) true n' 90 ((cs.drop 2).take 2) = xs[2]? := hf 2 _ rfl
  have hf3 : DataW.trod enc Tryd.prog W 0 (fun _ => true) true n' 3 ((cs.drop 4).take 1) = xs[3]? := hf 3 _ rfl
  have hf4 : DataW.trod enc Tryd.prog W 0 (fun _ => true) true n' 93 ((cs.drop 5).take 4) = xs[4]? := hf 4 _ rfl
  match cs, hcl with
  | [v0, v1, v2, v3, v4, v5, v6, v7, v8], _ =>
    have x0 : xs[0]? = some (xs[0]'(by rw [hxl]; decide)) := List.getElem?_eq_getElem _
    have x1 : xs[1]? = some (xs[1]'(by rw [hxl]; decide)) := List.getElem?_eq_getElem _
    have x2 : xs[2]? = some (xs[2]'(by rw [hxl]; decide)) := List.getElem?_eq_getElem _
    have x3 : xs[3]? = some (xs[3]'(by rw [hxl]; decide)) := List.getElem?_eq_getElem _
    have x4 : xs[4]? = some (xs[4]'(by rw [hxl]; decide)) := List.getElem?_eq_getElem _
    obtain ⟨kind, e0, _, _⟩ := DataW.trod_int Tryd.underlying3 (hf0.trans x0)
    obtain ⟨id, e1, _, _⟩ := DataW.trod_int Tryd.underlying3 (hf1.trans x1)
    obtain ⟨u, g, e2, hu, hg⟩ := open_addr_cells (hf2.trans x2)
    obtain ⟨now, e3, _, _⟩ := DataW.trod_int Tryd.underlying3 (hf3.trans x3)
    obtain ⟨m, a1, c1, a2, c2, e4, h1, h2⟩ := open_mail_cells (hf4.trans x4)
    simp at e0 e1 e2 e3 e4
    obtain ⟨rfl, rfl⟩ := e2
    obtain ⟨rfl, rfl, rfl, rfl⟩ := e4
    subst e0 e1 e3
    exact ⟨⟨kind, id, u, g, now, m⟩, a1, c1, a2, c2, rfl, h1, hu, hg, h2⟩
set_option maxRecDepth 100000 in
theorem open_note {H : Type} {enc : TypeId × Value → H} {W : World} {base : Nat} {v : Value} {d : DataW H} {p : List MemPlace}
    (hv : Value.okWide Tryd.prog W .any base 95 v) (h : DataW.Trod enc Tryd.prog W 0 (fun _ => true) true 95 v d p) :
    ∃ (n : NoteD) (a1 : Option Addr) (c1 : Nat) (a2 : Option Addr) (c2 : Nat), v = .agg (noteV n a1 c1 a2 c2) ∧ MailAt W n.m a1 a2 ∧ NoteSz maxLen n := by
  obtain ⟨cs, rfl, _⟩ := okWide_struct Tryd.underlying95 hv
  obtain ⟨fuel, hf⟩ := h
  obtain ⟨n, a1, c1, a2, c2, e, h1, h2⟩ := open_note_cells (cs := cs.toList) hf
  exact ⟨n, a1, c1, a2, c2, congrArg Value.agg (Array.toList_inj.1 e), h1, h2⟩
end Go.Proofs.YtgjkoegpdfcadaaDoor
