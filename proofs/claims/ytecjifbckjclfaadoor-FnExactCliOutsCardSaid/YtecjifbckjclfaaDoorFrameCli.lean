/- An argument that is a client's state, opened. -/
import Derived.Test.YtecjifbckjclfaaDoorFrameMail
import Derived.Test.YtecjifbckjclfaaDoorCliFns
namespace Go.Proofs.YtecjifbckjclfaaDoor
open Go.ChangeShapes Go.WideShapes Go.ChangeAt Go.RowKit Go.Deep

theorem cellsLCli : Tryd.prog.cellsOf 89 = 8 := by kernel_rfl
theorem cellsInt : Tryd.prog.cellsOf 3 = 1 := by kernel_rfl
set_option maxRecDepth 100000 in
theorem open_introw {H : Type} {enc : TypeId × Value → H} {W : World} {v : Value} {fuel : Nat} {x : DataW H × List MemPlace}
    (h : DataW.trod enc Tryd.prog W 0 (fun _ => true) true fuel 62 [v] = some x) :
    ∃ (a : Option Addr) (cap : Nat) (xs : List Int), v = .slice a xs.length cap ∧ IntRow W a xs ∧ xs.length ≤ maxLen := by
  rcases open_ints Tryd.underlying62 Tryd.underlying3 cellsInt h with ⟨hcs, _⟩ | ⟨ad, l, c, zs, hcs, _, hl, hm, hz, _, hcell, hwf⟩
  · refine ⟨none, 0, [], by simpa using hcs, fun k x hx => by simp at hx, by simp⟩
  · simp at hcs
    simp only [if_true] at hz
    subst hcs
    have hzl : (zs.take l).length = l := by simp; omega
    refine ⟨some ad, c, zs.take l, by rw [hzl], fun k x hx => ?_, by rw [hzl]; omega⟩
    have hk : k < l := by have := (List.getElem?_eq_some_iff.1 hx).1; omega
    have hk' : k < zs.length := by omega
    have hx2 : zs[k]? = some x := by rw [List.getElem?_take_of_lt hk] at hx; exact hx
    have hc := hcell k hk'
    obtain ⟨b, off, spot⟩ := ad
    have hspot : spot = none := by simpa [Addr.add] using World.cell?_spot (hcell 0 (by omega))
    subst hspot
    refine ⟨b, off, rfl, ?_⟩
    have e2 : zs.getD k 0 = x := by rw [List.getD_eq_getElem?_getD, hx2]; rfl
    rw [e2] at hc
    by_cases h0 : k = 0
    · subst h0; simpa [Addr.add] using hc
    · simpa [Addr.add, h0] using hc
set_option maxRecDepth 100000 in
theorem open_cli_cells {H : Type} {enc : TypeId × Value → H} {W : World} {cs : List Value} {fuel : Nat} {x : DataW H × List MemPlace}
    (h : DataW.trod enc Tryd.prog W 0 (fun _ => true) true fuel 89 cs = some x) :
    ∃ (c : CliD) (a1 : Option Addr) (c1 : Nat) (a2 : Option Addr) (c2 : Nat) (a3 : Option Addr) (c3 : Nat), cs = (cliV c a1 c1 a2 c2 a3 c3).toList ∧ CliAt W c a1 a2 a3 ∧ CliSz maxLen c := by
  obtain ⟨xs, n', _, _, hcl, hxl, hf⟩ := DataW.trod_struct Tryd.underlying89 h
  rw [cellsLCli] at hcl
  have hf0 : DataW.trod enc Tryd.prog W 0 (fun _ => true) true n' 9 ((cs.drop 0).take 1) = xs[0]? := hf 0 _ rfl
  have hf1 : DataW.trod enc Tryd.prog W 0 (fun _ => true) true n' 87 ((cs.drop 1).take 4) = xs[1]? := hf 1 _ rfl
  have hf2 : DataW.trod enc Tryd.prog W 0 (fun _ => true) true n' 3 ((cs.drop 5).take 1) = xs[2]? := hf 2 _ rfl
  have hf3 : DataW.trod enc Tryd.prog W 0 (fun _ => true) true n' 3 ((cs.drop 6).take 1) = xs[3]? := hf 3 _ rfl
  have hf4 : DataW.trod enc Tryd.prog W 0 (fun _ => true) true n' 62 ((cs.drop 7).take 1) = xs[4]? := hf 4 _ rfl
  match cs, hcl with
  | [v0, v1, v2, v3, v4, v5, v6, v7], _ =>
    have x0 : xs[0]? = some (xs[0]'(by rw [hxl]; decide)) := List.getElem?_eq_getElem _
    have x1 : xs[1]? = some (xs[1]'(by rw [hxl]; decide)) := List.getElem?_eq_getElem _
    have x2 : xs[2]? = some (xs[2]'(by rw [hxl]; decide)) := List.getElem?_eq_getElem _
    have x3 : xs[3]? = some (xs[3]'(by rw [hxl]; decide)) := List.getElem?_eq_getElem _
    have x4 : xs[4]? = some (xs[4]'(by rw [hxl]; decide)) := List.getElem?_eq_getElem _
    obtain ⟨nm, e0, _, hn⟩ := DataW.trod_string Tryd.underlying9 (hf0.trans x0)
    obtain ⟨m, a1, c1, a2, c2, e1, h1, h2⟩ := open_mail_cells (hf1.trans x1)
    obtain ⟨st, e2, _, _⟩ := DataW.trod_int Tryd.underlying3 (hf2.trans x2)
    obtain ⟨pos, e3, _, _⟩ := DataW.trod_int Tryd.underlying3 (hf3.trans x3)
    obtain ⟨a3, c3, outs, e4, h3, h4⟩ := open_introw (v := v7) (hf4.trans x4)
    simp at e0 e1 e2 e3
    obtain ⟨rfl, rfl, rfl, rfl⟩ := e1
    subst e0 e2 e3 e4
    exact ⟨⟨nm, m, st, pos, outs⟩, a1, c1, a2, c2, a3, c3, rfl, ⟨h1, h3⟩, hn, h2, h4⟩
set_option maxRecDepth 100000 in
theorem open_cli {H : Type} {enc : TypeId × Value → H} {W : World} {base : Nat} {v : Value} {d : DataW H} {p : List MemPlace}
    (hv : Value.okWide Tryd.prog W .any base 89 v) (h : DataW.Trod enc Tryd.prog W 0 (fun _ => true) true 89 v d p) :
    ∃ (c : CliD) (a1 : Option Addr) (c1 : Nat) (a2 : Option Addr) (c2 : Nat) (a3 : Option Addr) (c3 : Nat), v = .agg (cliV c a1 c1 a2 c2 a3 c3) ∧ CliAt W c a1 a2 a3 ∧ CliSz maxLen c := by
  obtain ⟨cs, rfl, _⟩ := okWide_struct Tryd.underlying89 hv
  obtain ⟨fuel, hf⟩ := h
  obtain ⟨c, a1, c1, a2, c2, a3, c3, e, h1, h2⟩ := open_cli_cells (cs := cs.toList) hf
  exact ⟨c, a1, c1, a2, c2, a3, c3, congrArg Value.agg (Array.toList_inj.1 e), h1, h2⟩
end Go.Proofs.YtecjifbckjclfaaDoor
