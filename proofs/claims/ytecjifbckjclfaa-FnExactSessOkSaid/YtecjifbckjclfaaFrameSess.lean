/- An argument that is a server's state, opened. -/
import Derived.Test.YtecjifbckjclfaaFrameMail
import Derived.Test.YtecjifbckjclfaaSessFns
namespace Go.Proofs.Ytecjifbckjclfaa
open Go.ChangeShapes Go.WideShapes Go.ChangeAt Go.RowKit Go.Deep

theorem cellsLSess : Try.prog.cellsOf 29 = 7 := by kernel_rfl
theorem cellsLMail' : Try.prog.cellsOf 27 = 4 := by kernel_rfl
theorem trod_bool_cell {H : Type} {enc : TypeId × Value → H} {W : World} {v : Value} {fuel : Nat} {x : DataW H × List MemPlace}
    (h : DataW.trod enc Try.prog W 0 (fun _ => true) true fuel 4 [v] = some x) : ∃ b : Bool, v = .bool b := by
  obtain ⟨b, e, _⟩ := DataW.trod_bool Try.underlying4 h
  exact ⟨b, by simpa using e⟩
set_option maxRecDepth 100000 in
theorem open_sess_cells {H : Type} {enc : TypeId × Value → H} {W : World} {cs : List Value} {fuel : Nat} {x : DataW H × List MemPlace}
    (h : DataW.trod enc Try.prog W 0 (fun _ => true) true fuel 29 cs = some x) :
    ∃ (s : SessD) (a1 : Option Addr) (c1 : Nat) (a2 : Option Addr) (c2 : Nat), cs = (sessV s a1 c1 a2 c2).toList ∧ MailAt W s.m a1 a2 ∧ SessSz maxLen s := by
  obtain ⟨xs, n', _, _, hcl, hxl, hf⟩ := DataW.trod_struct Try.underlying29 h
  rw [cellsLSess] at hcl
  have hf0 : DataW.trod enc Try.prog W 0 (fun _ => true) true n' 3 ((cs.drop 0).take 1) = xs[0]? := hf 0 _ rfl
  have hf1 : DataW.trod enc Try.prog W 0 (fun _ => true) true n' 27 ((cs.drop 1).take 4) = xs[1]? := hf 1 _ rfl
  have hf2 : DataW.trod enc Try.prog W 0 (fun _ => true) true n' 4 ((cs.drop 5).take 1) = xs[2]? := hf 2 _ rfl
  have hf3 : DataW.trod enc Try.prog W 0 (fun _ => true) true n' 9 ((cs.drop 6).take 1) = xs[3]? := hf 3 _ rfl
  match cs, hcl with
  | [v0, v1, v2, v3, v4, v5, v6], _ =>
    have x0 : xs[0]? = some (xs[0]'(by rw [hxl]; decide)) := List.getElem?_eq_getElem _
    have x1 : xs[1]? = some (xs[1]'(by rw [hxl]; decide)) := List.getElem?_eq_getElem _
    have x2 : xs[2]? = some (xs[2]'(by rw [hxl]; decide)) := List.getElem?_eq_getElem _
    have x3 : xs[3]? = some (xs[3]'(by rw [hxl]; decide)) := List.getElem?_eq_getElem _
    obtain ⟨n, e0, _, hn⟩ := DataW.trod_int Try.underlying3 (hf0.trans x0)
    obtain ⟨m, a1, c1, a2, c2, e1, h1, h2⟩ := open_mail_cells (hf1.trans x1)
    obtain ⟨b, e2⟩ := trod_bool_cell (v := v5) (hf2.trans x2)
    obtain ⟨t, e3, _, ht⟩ := DataW.trod_string Try.underlying9 (hf3.trans x3)
    simp at e0 e1 e3
    obtain ⟨rfl, rfl, rfl, rfl⟩ := e1
    subst e0 e2 e3
    exact ⟨⟨n, m, b, t⟩, a1, c1, a2, c2, rfl, h1, h2, ht⟩
set_option maxRecDepth 100000 in
theorem open_sess {H : Type} {enc : TypeId × Value → H} {W : World} {base : Nat} {v : Value} {d : DataW H} {p : List MemPlace}
    (hv : Value.okWide Try.prog W .any base 29 v) (h : DataW.Trod enc Try.prog W 0 (fun _ => true) true 29 v d p) :
    ∃ (s : SessD) (a1 : Option Addr) (c1 : Nat) (a2 : Option Addr) (c2 : Nat), v = .agg (sessV s a1 c1 a2 c2) ∧ MailAt W s.m a1 a2 ∧ SessSz maxLen s := by
  obtain ⟨cs, rfl, _⟩ := okWide_struct Try.underlying29 hv
  obtain ⟨fuel, hf⟩ := h
  obtain ⟨s, a1, c1, a2, c2, e, h1, h2⟩ := open_sess_cells (cs := cs.toList) hf
  exact ⟨s, a1, c1, a2, c2, congrArg Value.agg (Array.toList_inj.1 e), h1, h2⟩
end Go.Proofs.Ytecjifbckjclfaa
