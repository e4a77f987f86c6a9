/- Plain facts on lines of figures. -/
import Derived.Test.YtmigcglcacpboaaDoorLinesPutS
import Derived.Test.YtmigcglcacpboaaDoorCodeGetS
import Derived.Lib.JoinLaws
namespace Go.Proofs.YtmigcglcacpboaaDoor
open Go

theorem chunks_flatten {α : Type} {n : Nat} (hn : 0 < n) (l : List α) : (chunks n l).flatten = l := by
  have key : ∀ (k : Nat) (l : List α), l.length ≤ k → (chunks n l).flatten = l := by
    intro k
    induction k with
    | zero =>
      intro l h
      obtain rfl : l = [] := List.eq_nil_of_length_eq_zero (by omega)
      rw [chunks_nil]; rfl
    | succ k ih =>
      intro l h
      by_cases h0 : l = []
      · subst h0; rw [chunks_nil]; rfl
      · have hp := List.length_pos_iff.2 h0
        rw [chunks_step hn h0, List.flatten_cons, ih _ (by rw [List.length_drop]; omega), List.take_append_drop]
  exact key l.length l (Nat.le_refl _)
theorem chunks_many {α : Type} {n : Nat} (hn : 0 < n) (l : List α) : n * (chunks n l).length ≤ l.length + (n - 1) := by
  have key : ∀ (k : Nat) (l : List α), l.length ≤ k → n * (chunks n l).length ≤ l.length + (n - 1) := by
    intro k
    induction k with
    | zero =>
      intro l h
      obtain rfl : l = [] := List.eq_nil_of_length_eq_zero (by omega)
      rw [chunks_nil]; simp
    | succ k ih =>
      intro l h
      by_cases h0 : l = []
      · subst h0; rw [chunks_nil]; simp
      · have hp := List.length_pos_iff.2 h0
        have := ih (l.drop n) (by rw [List.length_drop]; omega)
        rw [chunks_step hn h0, List.length_cons, Nat.mul_add, Nat.mul_one]
        rw [List.length_drop] at this
        by_cases hc : n ≤ l.length
        · omega
        · rw [List.drop_of_length_le (by omega), chunks_nil]; simp; omega
  exact key l.length l (Nat.le_refl _)
theorem chunks_mem {α : Type} {n : Nat} (hn : 0 < n) (l : List α) : ∀ g ∈ chunks n l, (1 ≤ g.length ∧ g.length ≤ n) ∧ ∀ x ∈ g, x ∈ l := by
  have key : ∀ (k : Nat) (l : List α), l.length ≤ k → ∀ g ∈ chunks n l, (1 ≤ g.length ∧ g.length ≤ n) ∧ ∀ x ∈ g, x ∈ l := by
    intro k
    induction k with
    | zero =>
      intro l h g hg
      obtain rfl : l = [] := List.eq_nil_of_length_eq_zero (by omega)
      rw [chunks_nil] at hg; cases hg
    | succ k ih =>
      intro l h g hg
      by_cases h0 : l = []
      · subst h0; rw [chunks_nil] at hg; cases hg
      · have hp := List.length_pos_iff.2 h0
        rw [chunks_step hn h0] at hg
        rcases List.mem_cons.1 hg with rfl | hg
        · exact ⟨by rw [List.length_take]; omega, fun x hx => List.mem_of_mem_take hx⟩
        · obtain ⟨h1, h2⟩ := ih _ (by rw [List.length_drop]; omega) g hg
          exact ⟨h1, fun x hx => List.mem_of_mem_drop (h2 x hx)⟩
  exact key l.length l (Nat.le_refl _)
/-- Groups of one size, but the last one. -/
def fullG {α : Type} (n : Nat) : List (List α) → Prop
  | [] => True
  | [g] => 1 ≤ g.length ∧ g.length ≤ n
  | g :: r => g.length = n ∧ fullG n r
theorem chunks_full {α : Type} {n : Nat} (hn : 0 < n) : ∀ (gs : List (List α)), fullG n gs → chunks n gs.flatten = gs
  | [], _ => chunks_nil n
  | [g], h => by
    have h0 : g ≠ [] := by intro e; rw [e] at h; exact absurd h.1 (by simp)
    rw [List.flatten_cons, List.flatten_nil, List.append_nil, chunks_step hn h0, List.take_of_length_le h.2, List.drop_of_length_le h.2, chunks_nil]
  | g :: g2 :: r, h => by
    rw [List.flatten_cons, chunks_cons hn h.1, chunks_full hn (g2 :: r) h.2]
theorem full_chunks {α : Type} {n : Nat} (hn : 0 < n) (l : List α) : fullG n (chunks n l) := by
  have key : ∀ (k : Nat) (l : List α), l.length ≤ k → fullG n (chunks n l) := by
    intro k
    induction k with
    | zero =>
      intro l h
      obtain rfl : l = [] := List.eq_nil_of_length_eq_zero (by omega)
      rw [chunks_nil]; trivial
    | succ k ih =>
      intro l h
      by_cases h0 : l = []
      · subst h0; rw [chunks_nil]; trivial
      · have hp := List.length_pos_iff.2 h0
        have hr := ih (l.drop n) (by rw [List.length_drop]; omega)
        rw [chunks_step hn h0]
        by_cases h1 : l.drop n = []
        · rw [h1, chunks_nil]
          exact ⟨by rw [List.length_take]; omega, by rw [List.length_take]; omega⟩
        · have hd := List.length_pos_iff.2 h1
          rw [List.length_drop] at hd
          rw [chunks_step hn h1] at hr ⊢
          exact ⟨by rw [List.length_take]; omega, hr⟩
  exact key l.length l (Nat.le_refl _)
theorem fullG_get {α : Type} {n : Nat} : ∀ (gs : List (List α)), fullG n gs → ∀ i g, gs[i]? = some g → 1 ≤ n → 1 ≤ g.length ∧ g.length ≤ n ∧ (i + 1 < gs.length → g.length = n)
  | [], _, i, g, hg, _ => by simp at hg
  | [a], h, i, g, hg, _ => by
    have hi : i = 0 := by
      have := (List.getElem?_eq_some_iff.1 hg).1
      simp at this; exact this
    subst hi
    obtain rfl : a = g := by simpa using hg
    exact ⟨h.1, h.2, fun h => by simp at h⟩
  | a :: b :: r, h, i, g, hg, hn => by
    cases i with
    | zero =>
      obtain rfl : a = g := by simpa using hg
      exact ⟨by have := h.1; omega, by have := h.1; omega, fun _ => h.1⟩
    | succ i =>
      have := fullG_get (b :: r) h.2 i g (by simpa using hg) hn
      exact ⟨this.1, this.2.1, fun hl => this.2.2 (by simpa using hl)⟩
theorem fullG_of {α : Type} {n : Nat} : ∀ (gs : List (List α)), (∀ i g, gs[i]? = some g → 1 ≤ g.length ∧ g.length ≤ n ∧ (i + 1 < gs.length → g.length = n)) → fullG n gs
  | [], _ => trivial
  | [a], h => by have := h 0 a rfl; exact ⟨this.1, this.2.1⟩
  | a :: b :: r, h => ⟨(h 0 a rfl).2.2 (by simp), fullG_of (b :: r) fun i g hg => by
      have := h (i + 1) g (by simpa using hg)
      exact ⟨this.1, this.2.1, fun hl => this.2.2 (by simpa using hl)⟩⟩

theorem bytes_exl {a b : ByteArray} (h : a.data.toList = b.data.toList) : a = b := by cases a; cases b; simp_all
/-- Lines put together. -/
def joinB (xs : List ByteArray) : ByteArray := ⟨((xs.map fun x => x.data.toList).flatten).toArray⟩
theorem joinB_data (xs : List ByteArray) : (joinB xs).data.toList = (xs.map fun x => x.data.toList).flatten := rfl
theorem datas_linesP (m : Nat) (t : ByteArray) : (linesP m t).map (fun x => x.data.toList) = chunks m t.data.toList := by
  unfold linesP
  rw [List.map_map]
  exact (List.map_congr_left fun _ _ => rfl).trans (List.map_id _)
theorem joinB_linesP {m : Nat} (hm : 0 < m) (t : ByteArray) : joinB (linesP m t) = t := by
  apply bytes_exl
  rw [joinB_data, datas_linesP, chunks_flatten hm]
/-- Lines that are full, but the last one: the groups of what they are together. -/
theorem linesP_joinB {m : Nat} (hm : 0 < m) {xs : List ByteArray} (h : fullG m (xs.map fun x => x.data.toList)) : linesP m (joinB xs) = xs := by
  unfold linesP
  rw [joinB_data, chunks_full hm _ h, List.map_map]
  refine (List.map_congr_left fun x _ => ?_).trans (List.map_id _)
  show (⟨x.data.toList.toArray⟩ : ByteArray) = x
  cases x; rfl

open Classical in
noncomputable def linesGetB (xs : List ByteArray) : ByteArray × Bool :=
  if h : ∃ u : ByteArray, u.size ≤ 240 ∧ linesPutB u = xs then (h.choose, true) else ({ data := #[] }, false)
theorem linesPutB_join {u : ByteArray} : joinB (linesPutB u) = codePutB u := joinB_linesP (by decide) _
theorem linesPutB_inj {u v : ByteArray} (hu : u.size ≤ 240) (hv : v.size ≤ 240) (h : linesPutB u = linesPutB v) : u = v := by
  have e := congrArg joinB h
  rw [linesPutB_join, linesPutB_join] at e
  exact codePutB_inj hu hv e
theorem linesGetB_put {u : ByteArray} (h : u.size ≤ 240) : linesGetB (linesPutB u) = (u, true) := by
  unfold linesGetB
  have hx : ∃ v : ByteArray, v.size ≤ 240 ∧ linesPutB v = linesPutB u := ⟨u, h, rfl⟩
  rw [dif_pos hx, linesPutB_inj hx.choose_spec.1 h hx.choose_spec.2]
theorem linesGetB_no {xs : List ByteArray} (h : ∀ u : ByteArray, u.size ≤ 240 → linesPutB u ≠ xs) : linesGetB xs = ({ data := #[] }, false) := by
  unfold linesGetB
  rw [dif_neg]
  rintro ⟨u, hu, e⟩
  exact h u hu e
theorem linesGetB_cases (xs : List ByteArray) : (∃ u : ByteArray, u.size ≤ 240 ∧ xs = linesPutB u ∧ linesGetB xs = (u, true)) ∨ ((∀ u : ByteArray, u.size ≤ 240 → linesPutB u ≠ xs) ∧ linesGetB xs = ({ data := #[] }, false)) := by
  by_cases h : ∃ u : ByteArray, u.size ≤ 240 ∧ linesPutB u = xs
  · obtain ⟨u, hu, rfl⟩ := h
    exact .inl ⟨u, hu, rfl, linesGetB_put hu⟩
  · have h' : ∀ u : ByteArray, u.size ≤ 240 → linesPutB u ≠ xs := fun u hu e => h ⟨u, hu, e⟩
    exact .inr ⟨h', linesGetB_no h'⟩
theorem linesPutB_full (u : ByteArray) : fullG 40 ((linesPutB u).map fun x => x.data.toList) := by
  unfold linesPutB; rw [datas_linesP]; exact full_chunks (by decide) _
theorem linesPutB_many {u : ByteArray} (h : u.size ≤ 240) : (linesPutB u).length ≤ 8 := by
  have h1 := chunks_many (n := 40) (by decide) (codePutB u).data.toList
  have h2 : (linesPutB u).length = (chunks 40 (codePutB u).data.toList).length := by unfold linesPutB linesP; rw [List.length_map]
  have h3 := codePutB_size h
  rw [Lib.size_eq] at h3
  omega
theorem linesPutB_body {u : ByteArray} (h : u.size ≤ 240) : bodyB (linesPutB u) = true := by
  unfold bodyB
  rw [Bool.and_eq_true, decide_eq_true_eq, List.all_eq_true]
  refine ⟨fun x hx => ?_, by have := linesPutB_many h; omega⟩
  have hx2 : x.data.toList ∈ chunks 40 (codePutB u).data.toList := by
    have := List.mem_map_of_mem (f := fun y : ByteArray => y.data.toList) hx
    unfold linesPutB at this
    rwa [datas_linesP] at this
  obtain ⟨⟨_, h40⟩, hm⟩ := chunks_mem (by decide) _ _ hx2
  unfold lineB
  rw [Bool.and_eq_true, decide_eq_true_eq, List.all_eq_true]
  refine ⟨fun c hc => ?_, by rw [Lib.size_eq]; exact h40⟩
  have := hm c hc
  rw [codePutB_data h] at this
  have := codeL_line _ c this
  exact lineC_true (by omega)
/-- Where the lines are full: what the text together is. -/
theorem linesGetB_join {xs : List ByteArray} (h : fullG 40 (xs.map fun x => x.data.toList)) : linesGetB xs = codeGetB (joinB xs) := by
  rcases codeGetB_cases (joinB xs) with ⟨u, hu, e1, e2⟩ | ⟨hn, e2⟩
  · have : linesPutB u = xs := by
      unfold linesPutB; rw [← e1, linesP_joinB (by decide) h]
    rw [e2, ← this]; exact linesGetB_put hu
  · rw [e2]
    refine linesGetB_no fun u hu e => hn u hu ?_
    rw [← e, linesPutB_join]
end Go.Proofs.YtmigcglcacpboaaDoor
