/- An argument that is a configuration, opened. -/
import Derived.Test.YtgjkoegpdfcadaaDoorFrameMail
import Derived.Test.YtgjkoegpdfcadaaDoorConfOk
namespace Go.Proofs.YtgjkoegpdfcadaaDoor
open Go.ChangeShapes Go.WideShapes Go.ChangeAt Go.RowKit Go.Deep

theorem cellsLWay : Tryd.prog.cellsOf 230 = 2 := by kernel_rfl
theorem cellsLConf : Tryd.prog.cellsOf 106 = 3 := by kernel_rfl
set_option maxRecDepth 100000 in
theorem open_conf_cells {H : Type} {enc : TypeId × Value → H} {W : World} {cs : List Value} {fuel : Nat} {x : DataW H × List MemPlace}
    (h : DataW.trod enc Tryd.prog W 0 (fun _ => true) true fuel 106 cs = some x) :
    ∃ (c : ConfD) (a1 : Option Addr) (c1 : Nat) (a2 : Option Addr) (c2 : Nat), cs = (confV c a1 c1 a2 c2).toList ∧ ConfAt W c a1 a2 ∧ ConfSz maxLen c := by
  obtain ⟨xs, n', _, _, hcl, hxl, hf⟩ := DataW.trod_struct Tryd.underlying106 h
  rw [cellsLConf] at hcl
  have hf0 : DataW.trod enc Tryd.prog W 0 (fun _ => true) true n' 9 ((cs.drop 0).take 1) = xs[0]? := hf 0 _ rfl
  have hf1 : DataW.trod enc Tryd.prog W 0 (fun _ => true) true n' 23 ((cs.drop 1).take 1) = xs[1]? := hf 1 _ rfl
  have hf2 : DataW.trod enc Tryd.prog W 0 (fun _ => true) true n' 104 ((cs.drop 2).take 1) = xs[2]? := hf 2 _ rfl
  match cs, hcl with
  | [v0, v1, v2], _ =>
    have x0 : xs[0]? = some (xs[0]'(by rw [hxl]; decide)) := List.getElem?_eq_getElem _
    have x1 : xs[1]? = some (xs[1]'(by rw [hxl]; decide)) := List.getElem?_eq_getElem _
    have x2 : xs[2]? = some (xs[2]'(by rw [hxl]; decide)) := List.getElem?_eq_getElem _
    obtain ⟨nm, e0, _, hn⟩ := DataW.trod_string Tryd.underlying9 (hf0.trans x0)
    obtain ⟨a1, c1, ys, e1, s1, s2, s3⟩ := open_strs (v := v1) (hf1.trans x1)
    obtain ⟨a2, c2, ps, e2, p1, p2, p3⟩ := open_pairs Tryd.underlying104 Tryd.underlying230 cellsLWay rfl rfl rfl rfl cellsStr (v := v2) (hf2.trans x2)
    simp at e0
    subst e0 e1 e2
    exact ⟨⟨nm, ys, ps⟩, a1, c1, a2, c2, rfl, ⟨s1, p1⟩, hn, s2, s3, p2, p3⟩
set_option maxRecDepth 100000 in
theorem open_conf {H : Type} {enc : TypeId × Value → H} {W : World} {base : Nat} {v : Value} {d : DataW H} {p : List MemPlace}
    (hv : Value.okWide Tryd.prog W .any base 106 v) (h : DataW.Trod enc Tryd.prog W 0 (fun _ => true) true 106 v d p) :
    ∃ (c : ConfD) (a1 : Option Addr) (c1 : Nat) (a2 : Option Addr) (c2 : Nat), v = .agg (confV c a1 c1 a2 c2) ∧ ConfAt W c a1 a2 ∧ ConfSz maxLen c := by
  obtain ⟨cs, rfl, _⟩ := okWide_struct Tryd.underlying106 hv
  obtain ⟨fuel, hf⟩ := h
  obtain ⟨c, a1, c1, a2, c2, e, h1, h2⟩ := open_conf_cells (cs := cs.toList) hf
  exact ⟨c, a1, c1, a2, c2, congrArg Value.agg (Array.toList_inj.1 e), h1, h2⟩
end Go.Proofs.YtgjkoegpdfcadaaDoor
