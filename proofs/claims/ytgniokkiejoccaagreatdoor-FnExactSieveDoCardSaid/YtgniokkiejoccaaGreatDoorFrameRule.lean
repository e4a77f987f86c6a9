/- An argument that is a slice of rules, opened. -/
import Derived.Test.YtgniokkiejoccaaGreatDoorFrameMail
import Derived.Test.YtgniokkiejoccaaGreatDoorRuleD
namespace Go.Proofs.YtgniokkiejoccaaGreatDoor
open Go.ChangeShapes Go.WideShapes Go.ChangeAt Go.RowKit Go.Deep

theorem add_flatN (b off i size j : Nat) : (((⟨b, off, none⟩ : Addr).add (i * size)).add j) = ⟨b, off + i * size + j, none⟩ := by
  rw [Go.Deep.add_add]
  unfold Addr.add
  split
  · rename_i h; simp only [Addr.mk.injEq, and_true, true_and]; omega
  · simp only [Addr.mk.injEq, and_true, true_and]; omega
set_option maxRecDepth 100000 in
/-- Whatever slice of structs. -/
theorem open_rowsOf {α : Type} {H : Type} {enc : TypeId × Value → H} {W : World} {t e : TypeId} {v : Value} {fuel : Nat} {x : DataW H × List MemPlace} (d : α) (size : Nat) (P : World → List Value → α → Prop) (F : α → Prop)
    (ht : Tryz.prog.underlying t = some (.slice e)) (hC : Tryz.prog.cellsOf e = size) (h0 : 0 < size)
    (hone : ∀ (cs : List Value) (n : Nat) (y : DataW H × List MemPlace), cs.length = size → DataW.trod enc Tryz.prog W 0 (fun _ => true) true n e cs = some y → ∃ z : α, P W cs z ∧ F z)
    (h : DataW.trod enc Tryz.prog W 0 (fun _ => true) true fuel t [v] = some x) :
    ∃ (a : Option Addr) (cap : Nat) (xs : List α), v = .slice a xs.length cap ∧ RowOf size P W a xs ∧ xs.length ≤ maxLen ∧ ∀ z ∈ xs, F z := by
  rcases open_slice ht h with ⟨hcs, _⟩ | ⟨ad, l, c, m, n, D, Pl, hcs, _, hl, hm, hmm, _, hi⟩
  · obtain rfl : v = _ := by simpa using hcs
    exact ⟨none, 0, [], rfl, fun k x hx => by simp at hx, Nat.zero_le _, fun x hx => by cases hx⟩
  · obtain rfl : v = _ := by simpa using hcs
    simp only [if_true] at hmm
    have hmc : m = c := hmm
    clear hmm
    have one : ∀ i, i < l → ∃ q : α × List Value, q.2.length = size ∧ (∀ (j : Nat) (u : Value), q.2[j]? = some u → W.cell? ((ad.add (i * size)).add j) = some u) ∧ P W q.2 q.1 ∧ F q.1 := by
      intro i hil
      obtain ⟨cs', hc, htr⟩ := hi i (by omega)
      rw [hC] at hc
      obtain ⟨_, hcl, hat⟩ := World.cells?_some hc
      obtain ⟨z, hz1, hz2⟩ := hone cs' n _ hcl htr
      refine ⟨(z, cs'), hcl, fun j u hu => ?_, hz1, hz2⟩
      have hj : j < cs'.length := (List.getElem?_eq_some_iff.1 hu).1
      rw [hat j (by omega)]
      exact hu
    let qs : List (α × List Value) := (List.range l).map fun i => if hil : i < l then Classical.choose (one i hil) else (d, [])
    have hlen : qs.length = l := by simp [qs]
    have hget : ∀ k q, qs[k]? = some q → k < l ∧ q.2.length = size ∧ (∀ (j : Nat) (u : Value), q.2[j]? = some u → W.cell? ((ad.add (k * size)).add j) = some u) ∧ P W q.2 q.1 ∧ F q.1 := by
      intro k q hq
      obtain ⟨hk, e⟩ := List.getElem?_eq_some_iff.1 hq
      rw [hlen] at hk
      have : qs[k]'(by rw [hlen]; exact hk) = Classical.choose (one k hk) := by simp [qs, hk]
      rw [this] at e
      subst e
      exact ⟨hk, Classical.choose_spec (one k hk)⟩
    refine ⟨some ad, c, qs.map (·.1), by rw [List.length_map, hlen], ?_, by rw [List.length_map, hlen]; omega, ?_⟩
    · intro k z hz
      rw [List.getElem?_map] at hz
      cases hq : qs[k]? with
      | none => rw [hq] at hz; cases hz
      | some q =>
        rw [hq] at hz
        have hz' : q.1 = z := Option.some.inj hz
        subst hz'
        obtain ⟨hk, hql, hqc, hqp, _⟩ := hget k q hq
        obtain ⟨b, off, spot⟩ := ad
        have hspot : spot = none := by
          obtain ⟨q0, hq0⟩ : ∃ q, qs[0]? = some q := ⟨_, List.getElem?_eq_getElem (by omega)⟩
          obtain ⟨_, hl0, hc0, _⟩ := hget 0 q0 hq0
          obtain ⟨u, hu⟩ : ∃ u, q0.2[0]? = some u := ⟨_, List.getElem?_eq_getElem (by omega)⟩
          have hs := World.cell?_spot (hc0 0 u hu)
          simpa [Addr.add] using hs
        subst hspot
        refine ⟨b, off, q.2, rfl, hql, fun j u hu => ?_, hqp⟩
        have := hqc j u hu
        rw [add_flatN] at this
        exact this
    · intro z hz
      obtain ⟨q, hq, rfl⟩ := List.mem_map.1 hz
      obtain ⟨k, hk⟩ := List.getElem?_of_mem hq
      exact (hget k q hk).2.2.2.2

theorem cellsLRule : Tryz.prog.cellsOf 47 = 5 := by kernel_rfl
set_option maxRecDepth 100000 in
theorem open_rule_cells {H : Type} {enc : TypeId × Value → H} {W : World} {cs : List Value} {fuel : Nat} {x : DataW H × List MemPlace}
    (h : DataW.trod enc Tryz.prog W 0 (fun _ => true) true fuel 47 cs = some x) :
    ∃ r : RuleD, ruleP W cs r ∧ RuleF r := by
  obtain ⟨xs, n', _, _, hcl, hxl, hf⟩ := DataW.trod_struct Tryz.underlying47 h
  rw [cellsLRule] at hcl
  have hf0 : DataW.trod enc Tryz.prog W 0 (fun _ => true) true n' 3 ((cs.drop 0).take 1) = xs[0]? := hf 0 _ rfl
  have hf1 : DataW.trod enc Tryz.prog W 0 (fun _ => true) true n' 9 ((cs.drop 1).take 1) = xs[1]? := hf 1 _ rfl
  have hf2 : DataW.trod enc Tryz.prog W 0 (fun _ => true) true n' 3 ((cs.drop 2).take 1) = xs[2]? := hf 2 _ rfl
  have hf3 : DataW.trod enc Tryz.prog W 0 (fun _ => true) true n' 24 ((cs.drop 3).take 2) = xs[3]? := hf 3 _ rfl
  match cs, hcl with
  | [v0, v1, v2, v3, v4], _ =>
    have x0 : xs[0]? = some (xs[0]'(by rw [hxl]; decide)) := List.getElem?_eq_getElem _
    have x1 : xs[1]? = some (xs[1]'(by rw [hxl]; decide)) := List.getElem?_eq_getElem _
    have x2 : xs[2]? = some (xs[2]'(by rw [hxl]; decide)) := List.getElem?_eq_getElem _
    have x3 : xs[3]? = some (xs[3]'(by rw [hxl]; decide)) := List.getElem?_eq_getElem _
    obtain ⟨a, e0, _, _⟩ := DataW.trod_int Tryz.underlying3 (hf0.trans x0)
    obtain ⟨s, e1, _, hs⟩ := DataW.trod_string Tryz.underlying9 (hf1.trans x1)
    obtain ⟨c, e2, _, _⟩ := DataW.trod_int Tryz.underlying3 (hf2.trans x2)
    obtain ⟨u, g, e3, hu, hg⟩ := open_addr_cells (hf3.trans x3)
    simp at e0 e1 e2 e3
    obtain ⟨rfl, rfl⟩ := e3
    subst e0 e1 e2
    exact ⟨⟨a, s, c, u, g⟩, rfl, hs, hu, hg⟩
set_option maxRecDepth 100000 in
theorem open_rules {H : Type} {enc : TypeId × Value → H} {W : World} {base : Nat} {v : Value} {d : DataW H} {p : List MemPlace}
    (hv : Value.okWide Tryz.prog W .any base 22 v) (h : DataW.Trod enc Tryz.prog W 0 (fun _ => true) true 22 v d p) :
    ∃ (xs : List RuleD) (ao : Option Addr) (cap : Nat), v = .slice ao xs.length cap ∧ RuleRow W ao xs ∧ (xs.length ≤ maxLen ∧ ∀ x ∈ xs, RuleF x) := by
  obtain ⟨a, len, cap, rfl⟩ := okWide_slice Tryz.underlying22 hv
  obtain ⟨fuel, hf⟩ := h
  obtain ⟨a1, c1, xs, e, r1, r2, r3⟩ := open_rowsOf ⟨0, .empty, 0, .empty, .empty⟩ 5 ruleP RuleF Tryz.underlying22 cellsLRule (by decide) (fun cs n y _ hy => open_rule_cells hy) (v := .slice a len cap) hf
  exact ⟨xs, a1, c1, e, r1, r2, r3⟩
end Go.Proofs.YtgniokkiejoccaaGreatDoor
