/- Slices of structs of two strings in an argument, opened. -/
import Derived.Test.YtfffocfcnigogaaGreatDoorFrame
import Derived.Test.YtfffocfcnigogaaGreatDoorMails
import Derived.Deep.Slices
import Derived.Deep.Fields
namespace Go.Proofs.YtfffocfcnigogaaGreatDoor
open Go.ChangeShapes Go.WideShapes Go.ChangeAt Go.RowKit Go.Deep

theorem add_flat (b off i j : Nat) : (((⟨b, off, none⟩ : Addr).add (i * 2)).add j) = ⟨b, off + i * 2 + j, none⟩ := by
  rw [Go.Deep.add_add]
  unfold Addr.add
  split
  · rename_i h; simp only [Addr.mk.injEq, and_true, true_and]; omega
  · simp only [Addr.mk.injEq, and_true, true_and]; omega
set_option maxRecDepth 100000 in
/-- Whatever slice of structs of two strings. -/
theorem open_pairs {H : Type} {enc : TypeId × Value → H} {W : World} {t e : TypeId} {f0 f1 : Field} {v : Value} {fuel : Nat} {x : DataW H × List MemPlace}
    (ht : Tryz.prog.underlying t = some (.slice e)) (he : Tryz.prog.underlying e = some (.struct #[f0, f1])) (hC : Tryz.prog.cellsOf e = 2) (o0 : f0.offset = 0) (o1 : f1.offset = 1) (t0 : f0.type = 9) (t1 : f1.type = 9)
    (hstr : Tryz.prog.cellsOf 9 = 1)
    (h : DataW.trod enc Tryz.prog W 0 (fun _ => true) true fuel t [v] = some x) :
    ∃ (a : Option Addr) (cap : Nat) (ps : List Pair), v = .slice a ps.length cap ∧ PairRow W a ps ∧ ps.length ≤ maxLen ∧ ∀ p ∈ ps, p.1.size ≤ maxLen ∧ p.2.size ≤ maxLen := by
  rcases open_slice ht h with ⟨hcs, _⟩ | ⟨ad, l, c, m, n, D, Pl, hcs, _, hl, hm, hmm, _, hi⟩
  · obtain rfl : v = _ := by simpa using hcs
    exact ⟨none, 0, [], rfl, fun k x hx => by simp at hx, Nat.zero_le _, fun x hx => by cases hx⟩
  · obtain rfl : v = _ := by simpa using hcs
    simp only [if_true] at hmm
    have hmc : m = c := hmm
    clear hmm
    have one : ∀ i, i < l → ∃ p : Pair, W.cell? (((ad.add (i * 2)).add 0)) = some (.string p.1) ∧ W.cell? (((ad.add (i * 2)).add 1)) = some (.string p.2) ∧ p.1.size ≤ maxLen ∧ p.2.size ≤ maxLen := by
      intro i hil
      obtain ⟨cs', hc, htr⟩ := hi i (by omega)
      rw [hC] at hc
      obtain ⟨_, hcl, hat⟩ := World.cells?_some hc
      obtain ⟨xs, n', _, _, _, hxl, hf⟩ := DataW.trod_struct he htr
      have hf0 := hf 0 f0 rfl
      have hf1 := hf 1 f1 rfl
      rw [o0, t0, hstr] at hf0
      rw [o1, t1, hstr] at hf1
      match cs', hcl with
      | [v0, v1], _ =>
        have x0 : xs[0]? = some (xs[0]'(by rw [hxl]; show 0 < 2; omega)) := List.getElem?_eq_getElem _
        have x1 : xs[1]? = some (xs[1]'(by rw [hxl]; show 1 < 2; omega)) := List.getElem?_eq_getElem _
        obtain ⟨u, e0, _, hu⟩ := DataW.trod_string Tryz.underlying9 (hf0.trans x0)
        obtain ⟨g, e1, _, hg⟩ := DataW.trod_string Tryz.underlying9 (hf1.trans x1)
        simp at e0 e1
        subst e0 e1
        exact ⟨(u, g), hat 0 (by decide), hat 1 (by decide), hu, hg⟩
    let ps : List Pair := (List.range l).map fun i => if hil : i < l then Classical.choose (one i hil) else (ByteArray.empty, ByteArray.empty)
    have hlen : ps.length = l := by simp [ps]
    have hget : ∀ k p, ps[k]? = some p → k < l ∧ W.cell? (((ad.add (k * 2)).add 0)) = some (.string p.1) ∧ W.cell? (((ad.add (k * 2)).add 1)) = some (.string p.2) ∧ p.1.size ≤ maxLen ∧ p.2.size ≤ maxLen := by
      intro k p hp
      obtain ⟨hk, e⟩ := List.getElem?_eq_some_iff.1 hp
      rw [hlen] at hk
      have : ps[k]'(by rw [hlen]; exact hk) = Classical.choose (one k hk) := by simp [ps, hk]
      rw [this] at e
      subst e
      exact ⟨hk, Classical.choose_spec (one k hk)⟩
    refine ⟨some ad, c, ps, by rw [hlen], ?_, by omega, ?_⟩
    · intro k p hp
      obtain ⟨hk, h0, h1, _⟩ := hget k p hp
      obtain ⟨b, off, spot⟩ := ad
      have hspot : spot = none := by
        have hs := World.cell?_spot (Classical.choose_spec (one 0 (by omega))).1
        simpa [Addr.add] using hs
      subst hspot
      rw [add_flat] at h0 h1
      exact ⟨b, off, rfl, h0, h1⟩
    · intro p hp
      obtain ⟨k, hk⟩ := List.getElem?_of_mem hp
      exact (hget k p hk).2.2.2
end Go.Proofs.YtfffocfcnigogaaGreatDoor
