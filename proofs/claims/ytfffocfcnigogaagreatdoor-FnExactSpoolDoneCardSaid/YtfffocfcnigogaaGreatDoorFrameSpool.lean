/- An argument that is a spool, opened. -/
import Derived.Test.YtfffocfcnigogaaGreatDoorFrameMail
import Derived.Test.YtfffocfcnigogaaGreatDoorSpools
namespace Go.Proofs.YtfffocfcnigogaaGreatDoor
open Go.ChangeShapes Go.WideShapes Go.ChangeAt Go.RowKit Go.Deep

theorem add_flatN (b off i size j : Nat) : (((⟨b, off, none⟩ : Addr).add (i * size)).add j) = ⟨b, off + i * size + j, none⟩ := by
  rw [Go.Deep.add_add]
  unfold Addr.add
  split
  · rename_i h; simp only [Addr.mk.injEq, and_true, true_and]; omega
  · simp only [Addr.mk.injEq, and_true, true_and]; omega
set_option maxRecDepth 100000 in
/-- Whatever slice of structs. -/
theorem open_rowsOf {α : Type} {H : Type} {enc : TypeId × Value → H} {W : World} {t e : TypeId} {v : Value} {fuel : Nat} {x : DataW H × List MemPlace} (d : α) (size : Nat) (P : World → List Value → α → Prop) (F : α → Prop)
    (ht : Tryz.prog.underlying t = some (.slice e)) (hC : Tryz.prog.cellsOf e = size) (h0 : 0 < size)
    (hone : ∀ (cs : List Value) (n : Nat) (y : DataW H × List MemPlace), cs.length = size → DataW.trod enc Tryz.prog W 0 (fun _ => true) true n e cs = some y → ∃ z : α, P W cs z ∧ F z)
    (h : DataW.trod enc Tryz.prog W 0 (fun _ => true) true fuel t [v] = some x) :
    ∃ (a : Option Addr) (cap : Nat) (xs : List α), v = .slice a xs.length cap ∧ RowOf size P W a xs ∧ xs.length ≤ maxLen ∧ ∀ z ∈ xs, F z := by
  rcases open_slice ht h with ⟨hcs, _⟩ | ⟨ad, l, c, m, n, D, Pl, hcs, _, hl, hm, hmm, _, hi⟩
  · obtain rfl : v = _ := by simpa using hcs
    exact ⟨none, 0, [], rfl, fun k x hx => by simp at hx, Nat.zero_le _, fun x hx => by cases hx⟩
  · obtain rfl : v = _ := by simpa using hcs
    simp only [if_true] at hmm
    have hmc : m = c := hmm
    clear hmm
    have one : ∀ i, i < l → ∃ q : α × List Value, q.2.length = size ∧ (∀ (j : Nat) (u : Value), q.2[j]? = some u → W.cell? ((ad.add (i * size)).add j) = some u) ∧ P W q.2 q.1 ∧ F q.1 := by
      intro i hil
      obtain ⟨cs', hc, htr⟩ := hi i (by omega)
      rw [hC] at hc
      obtain ⟨_, hcl, hat⟩ := World.cells?_some hc
      obtain ⟨z, hz1, hz2⟩ := hone cs' n _ hcl htr
      refine ⟨(z, cs'), hcl, fun j u hu => ?_, hz1, hz2⟩
      have hj : j < cs'.length := (List.getElem?_eq_some_iff.1 hu).1
      rw [hat j (by omega)]
      exact hu
    let qs : List (α × List Value) := (List.range l).map fun i => if hil : i < l then Classical.choose (one i hil) else (d, [])
    have hlen : qs.length = l := by simp [qs]
    have hget : ∀ k q, qs[k]? = some q → k < l ∧ q.2.length = size ∧ (∀ (j : Nat) (u : Value), q.2[j]? = some u → W.cell? ((ad.add (k * size)).add j) = some u) ∧ P W q.2 q.1 ∧ F q.1 := by
      intro k q hq
      obtain ⟨hk, e⟩ := List.getElem?_eq_some_iff.1 hq
      rw [hlen] at hk
      have : qs[k]'(by rw [hlen]; exact hk) = Classical.choose (one k hk) := by simp [qs, hk]
      rw [this] at e
      subst e
      exact ⟨hk, Classical.choose_spec (one k hk)⟩
    refine ⟨some ad, c, qs.map (·.1), by rw [List.length_map, hlen], ?_, by rw [List.length_map, hlen]; omega, ?_⟩
    · intro k z hz
      rw [List.getElem?_map] at hz
      cases hq : qs[k]? with
      | none => rw [hq] at hz; cases hz
      | some q =>
        rw [hq] at hz
        have hz' : q.1 = z := Option.some.inj hz
        subst hz'
        obtain ⟨hk, hql, hqc, hqp, _⟩ := hget k q hq
        obtain ⟨b, off, spot⟩ := ad
        have hspot : spot = none := by
          obtain ⟨q0, hq0⟩ : ∃ q, qs[0]? = some q := ⟨_, List.getElem?_eq_getElem (by omega)⟩
          obtain ⟨_, hl0, hc0, _⟩ := hget 0 q0 hq0
          obtain ⟨u, hu⟩ : ∃ u, q0.2[0]? = some u := ⟨_, List.getElem?_eq_getElem (by omega)⟩
          have hs := World.cell?_spot (hc0 0 u hu)
          simpa [Addr.add] using hs
        subst hspot
        refine ⟨b, off, q.2, rfl, hql, fun j u hu => ?_, hqp⟩
        have := hqc j u hu
        rw [add_flatN] at this
        exact this
    · intro z hz
      obtain ⟨q, hq, rfl⟩ := List.mem_map.1 hz
      obtain ⟨k, hk⟩ := List.getElem?_of_mem hq
      exact (hget k q hk).2.2.2.2

theorem cellsInt : Tryz.prog.cellsOf 3 = 1 := by kernel_rfl
theorem cellsLRcpt : Tryz.prog.cellsOf 224 = 4 := by kernel_rfl
theorem cellsLItem : Tryz.prog.cellsOf 185 = 5 := by kernel_rfl
theorem cellsLSpool : Tryz.prog.cellsOf 60 = 2 := by kernel_rfl
set_option maxRecDepth 100000 in
theorem open_rcpt_cells {H : Type} {enc : TypeId × Value → H} {W : World} {cs : List Value} {fuel : Nat} {x : DataW H × List MemPlace}
    (h : DataW.trod enc Tryz.prog W 0 (fun _ => true) true fuel 224 cs = some x) :
    ∃ r : RcptD, rcptP W cs r ∧ RcptF r := by
  obtain ⟨xs, n', _, _, hcl, hxl, hf⟩ := DataW.trod_struct Tryz.underlying224 h
  rw [cellsLRcpt] at hcl
  have hf0 : DataW.trod enc Tryz.prog W 0 (fun _ => true) true n' 61 ((cs.drop 0).take 2) = xs[0]? := hf 0 _ rfl
  have hf1 : DataW.trod enc Tryz.prog W 0 (fun _ => true) true n' 3 ((cs.drop 2).take 1) = xs[1]? := hf 1 _ rfl
  have hf2 : DataW.trod enc Tryz.prog W 0 (fun _ => true) true n' 3 ((cs.drop 3).take 1) = xs[2]? := hf 2 _ rfl
  match cs, hcl with
  | [v0, v1, v2, v3], _ =>
    have x0 : xs[0]? = some (xs[0]'(by rw [hxl]; decide)) := List.getElem?_eq_getElem _
    have x1 : xs[1]? = some (xs[1]'(by rw [hxl]; decide)) := List.getElem?_eq_getElem _
    have x2 : xs[2]? = some (xs[2]'(by rw [hxl]; decide)) := List.getElem?_eq_getElem _
    obtain ⟨u, g, e0, hu, hg⟩ := open_addr_cells (hf0.trans x0)
    obtain ⟨t, e1, _, _⟩ := DataW.trod_int Tryz.underlying3 (hf1.trans x1)
    obtain ⟨n, e2, _, _⟩ := DataW.trod_int Tryz.underlying3 (hf2.trans x2)
    simp at e0 e1 e2
    obtain ⟨rfl, rfl⟩ := e0
    subst e1 e2
    exact ⟨⟨u, g, t, n⟩, rfl, hu, hg⟩
set_option maxRecDepth 100000 in
theorem open_item_cells {H : Type} {enc : TypeId × Value → H} {W : World} {cs : List Value} {fuel : Nat} {x : DataW H × List MemPlace}
    (h : DataW.trod enc Tryz.prog W 0 (fun _ => true) true fuel 185 cs = some x) :
    ∃ r : ItemD, itemP W cs r ∧ ItemF r := by
  obtain ⟨xs, n', _, _, hcl, hxl, hf⟩ := DataW.trod_struct Tryz.underlying185 h
  rw [cellsLItem] at hcl
  have hf0 : DataW.trod enc Tryz.prog W 0 (fun _ => true) true n' 3 ((cs.drop 0).take 1) = xs[0]? := hf 0 _ rfl
  have hf1 : DataW.trod enc Tryz.prog W 0 (fun _ => true) true n' 61 ((cs.drop 1).take 2) = xs[1]? := hf 1 _ rfl
  have hf2 : DataW.trod enc Tryz.prog W 0 (fun _ => true) true n' 183 ((cs.drop 3).take 1) = xs[2]? := hf 2 _ rfl
  have hf3 : DataW.trod enc Tryz.prog W 0 (fun _ => true) true n' 29 ((cs.drop 4).take 1) = xs[3]? := hf 3 _ rfl
  match cs, hcl with
  | [v0, v1, v2, v3, v4], _ =>
    have x0 : xs[0]? = some (xs[0]'(by rw [hxl]; decide)) := List.getElem?_eq_getElem _
    have x1 : xs[1]? = some (xs[1]'(by rw [hxl]; decide)) := List.getElem?_eq_getElem _
    have x2 : xs[2]? = some (xs[2]'(by rw [hxl]; decide)) := List.getElem?_eq_getElem _
    have x3 : xs[3]? = some (xs[3]'(by rw [hxl]; decide)) := List.getElem?_eq_getElem _
    obtain ⟨id, e0, _, _⟩ := DataW.trod_int Tryz.underlying3 (hf0.trans x0)
    obtain ⟨u, g, e1, hu, hg⟩ := open_addr_cells (hf1.trans x1)
    obtain ⟨a1, c1, rc, e2, r1, r2, r3⟩ := open_rowsOf ⟨.empty, .empty, 0, 0⟩ 4 rcptP RcptF Tryz.underlying183 cellsLRcpt (by decide) (fun cs n y _ hy => open_rcpt_cells hy) (v := v3) (hf2.trans x2)
    obtain ⟨a2, c2, ys, e3, s1, s2, s3⟩ := open_strs (v := v4) (hf3.trans x3)
    simp at e0 e1
    obtain ⟨rfl, rfl⟩ := e1
    subst e0 e2 e3
    exact ⟨⟨id, u, g, rc, ys⟩, ⟨⟨a1, c1, a2, c2⟩, rfl, r1, s1⟩, hu, hg, r2, r3, s2, s3⟩
set_option maxRecDepth 100000 in
theorem open_spool_cells {H : Type} {enc : TypeId × Value → H} {W : World} {cs : List Value} {fuel : Nat} {x : DataW H × List MemPlace}
    (h : DataW.trod enc Tryz.prog W 0 (fun _ => true) true fuel 60 cs = some x) :
    ∃ (s : SpoolD) (ao : Option Addr) (cap : Nat), cs = spoolL s ao cap ∧ ItemRow W ao s.items ∧ SpoolF s := by
  obtain ⟨xs, n', _, _, hcl, hxl, hf⟩ := DataW.trod_struct Tryz.underlying60 h
  rw [cellsLSpool] at hcl
  have hf0 : DataW.trod enc Tryz.prog W 0 (fun _ => true) true n' 3 ((cs.drop 0).take 1) = xs[0]? := hf 0 _ rfl
  have hf1 : DataW.trod enc Tryz.prog W 0 (fun _ => true) true n' 58 ((cs.drop 1).take 1) = xs[1]? := hf 1 _ rfl
  match cs, hcl with
  | [v0, v1], _ =>
    have x0 : xs[0]? = some (xs[0]'(by rw [hxl]; decide)) := List.getElem?_eq_getElem _
    have x1 : xs[1]? = some (xs[1]'(by rw [hxl]; decide)) := List.getElem?_eq_getElem _
    obtain ⟨l, e0, _, _⟩ := DataW.trod_int Tryz.underlying3 (hf0.trans x0)
    obtain ⟨a, c, is, e1, r1, r2, r3⟩ := open_rowsOf ⟨0, .empty, .empty, [], []⟩ 5 itemP ItemF Tryz.underlying58 cellsLItem (by decide) (fun cs n y _ hy => open_item_cells hy) (v := v1) (hf1.trans x1)
    simp at e0
    subst e0 e1
    exact ⟨⟨l, is⟩, a, c, rfl, r1, r2, r3⟩
set_option maxRecDepth 100000 in
theorem open_spool {H : Type} {enc : TypeId × Value → H} {W : World} {base : Nat} {v : Value} {d : DataW H} {p : List MemPlace}
    (hv : Value.okWide Tryz.prog W .any base 60 v) (h : DataW.Trod enc Tryz.prog W 0 (fun _ => true) true 60 v d p) :
    ∃ (s : SpoolD) (ao : Option Addr) (cap : Nat), v = .agg (spoolV s ao cap) ∧ ItemRow W ao s.items ∧ SpoolF s := by
  obtain ⟨cs, rfl, _⟩ := okWide_struct Tryz.underlying60 hv
  obtain ⟨fuel, hf⟩ := h
  obtain ⟨s, ao, cap, e, h1, h2⟩ := open_spool_cells (cs := cs.toList) hf
  exact ⟨s, ao, cap, congrArg Value.agg (Array.toList_inj.1 e), h1, h2⟩
end Go.Proofs.YtfffocfcnigogaaGreatDoor
