/- Plain facts on pieces of a text, and on bytes in figures of base 64. No program in this text. -/
import Derived.Test.YtmigcglcacpboaaDoorPlainQuote
namespace Go.Proofs.YtmigcglcacpboaaDoor
open Go

/-! ### pieces of one size; the last one has what is left -/
def chunks {α : Type} (n : Nat) (l : List α) : List (List α) :=
  if _h : 0 < n ∧ l ≠ [] then l.take n :: chunks n (l.drop n) else []
termination_by l.length
decreasing_by
  have h := ‹0 < n ∧ l ≠ []›
  rw [List.length_drop]
  have := List.length_pos_iff.2 h.2
  omega
theorem chunks_nil {α : Type} (n : Nat) : chunks n ([] : List α) = [] := by rw [chunks]; simp
theorem chunks_step {α : Type} {n : Nat} (hn : 0 < n) {l : List α} (h : l ≠ []) : chunks n l = l.take n :: chunks n (l.drop n) := by
  rw [chunks]; rw [dif_pos ⟨hn, h⟩]
theorem chunks_cons {α : Type} {n : Nat} (hn : 0 < n) {l m : List α} (hl : l.length = n) : chunks n (l ++ m) = l :: chunks n m := by
  have h : l ++ m ≠ [] := by
    intro e
    have := congrArg List.length e
    rw [List.length_append, List.length_nil] at this
    omega
  rw [chunks_step hn h, List.take_left' hl, List.drop_left' hl]

theorem chunks_length {α : Type} {n : Nat} (hn : 0 < n) (l : List α) : (chunks n l).length ≤ l.length := by
  have key : ∀ (k : Nat) (l : List α), l.length ≤ k → (chunks n l).length ≤ l.length := by
    intro k
    induction k with
    | zero =>
      intro l h
      obtain rfl : l = [] := List.eq_nil_of_length_eq_zero (by omega)
      rw [chunks_nil]; exact Nat.le_refl _
    | succ k ih =>
      intro l h
      by_cases h0 : l = []
      · subst h0; rw [chunks_nil]; exact Nat.le_refl _
      · have hp := List.length_pos_iff.2 h0
        rw [chunks_step hn h0, List.length_cons]
        have := ih (l.drop n) (by rw [List.length_drop]; omega)
        rw [List.length_drop] at this; omega
  exact key l.length l (Nat.le_refl _)

/-! ### figures -/
def figR : List UInt8 := [65, 66, 67, 68, 69, 70, 71, 72, 73, 74, 75, 76, 77, 78, 79, 80, 81, 82, 83, 84, 85, 86, 87, 88, 89, 90, 97, 98, 99, 100, 101, 102, 103, 104, 105, 106, 107, 108, 109, 110, 111, 112, 113, 114, 115, 116, 117, 118, 119, 120, 121, 122, 48, 49, 50, 51, 52, 53, 54, 55, 56, 57, 43, 47]
def figC (v : Nat) : UInt8 := figR.getD v 0
def figV (c : UInt8) : Nat := if figR.idxOf c < 64 then figR.idxOf c else 0
theorem figR_length : figR.length = 64 := rfl
theorem figC_get {v : Nat} (h : v < 64) : figR[v]? = some (figC v) := by
  unfold figC; rw [List.getD_eq_getElem?_getD, List.getElem?_eq_getElem (by rw [figR_length]; exact h)]; rfl
theorem figV_figC {v : Nat} (h : v < 64) : figV (figC v) = v := by
  have : ∀ v < 64, figV (figC v) = v := by decide +kernel
  exact this v h
theorem figC_ne {v : Nat} (h : v < 64) : figC v ≠ 61 := by
  have : ∀ v < 64, figC v ≠ 61 := by decide +kernel
  exact this v h
theorem figC_line {v : Nat} (h : v < 64) : 33 ≤ (figC v).toNat ∧ (figC v).toNat ≤ 126 := by
  have : ∀ v < 64, 33 ≤ (figC v).toNat ∧ (figC v).toNat ≤ 126 := by decide +kernel
  exact this v h
theorem figV_pad : figV 61 = 0 := by decide +kernel
theorem figV_lt (c : UInt8) : figV c < 64 := by unfold figV; split <;> omega
theorem figV_at {c : UInt8} {v : Nat} (h : figR[v]? = some c) : figV c = v := by
  have hv : v < 64 := by rw [← figR_length]; exact (List.getElem?_eq_some_iff.1 h).1
  rw [figC_get hv] at h
  rw [← Option.some.inj h, figV_figC hv]
theorem figV_none {c : UInt8} (h : ∀ v < 64, figR[v]? ≠ some c) : figV c = 0 := by
  unfold figV
  rw [if_neg]
  intro hlt
  exact h _ hlt (by rw [List.getElem?_eq_getElem (by rw [figR_length]; exact hlt), List.getElem_idxOf])

def byteAt (l : List UInt8) (k : Nat) : Nat := (l.getD k 0).toNat
def n3 (l : List UInt8) : Nat := byteAt l 0 * 65536 + byteAt l 1 * 256 + byteAt l 2
theorem byteAt_lt (l : List UInt8) (k : Nat) : byteAt l k < 256 := (l.getD k 0).toNat_lt
theorem byteAt_get {l : List UInt8} {k : Nat} {c : UInt8} (h : l[k]? = some c) : byteAt l k = c.toNat := by unfold byteAt; rw [List.getD_eq_getElem?_getD, h]; rfl
theorem byteAt_none {l : List UInt8} {k : Nat} (h : l.length ≤ k) : byteAt l k = 0 := by unfold byteAt; rw [List.getD_eq_getElem?_getD, List.getElem?_eq_none h]; rfl
theorem n3_lt (l : List UInt8) : n3 l < 16777216 := by
  have := byteAt_lt l 0; have := byteAt_lt l 1; have := byteAt_lt l 2
  unfold n3; omega
def figN (n k : Nat) : UInt8 := figC (n / 2 ^ (18 - 6 * k) % 64)
theorem figN_ne (n k : Nat) : figN n k ≠ 61 := figC_ne (Nat.mod_lt _ (by decide))
def figs3 (g : List UInt8) : List UInt8 := (List.range (g.length + 1)).map (figN (n3 g)) ++ List.replicate (3 - g.length) 61
theorem figs3_length {g : List UInt8} (h : g.length ≤ 3) : (figs3 g).length = 4 := by
  unfold figs3; rw [List.length_append, List.length_map, List.length_range, List.length_replicate]; omega
def codeL (l : List UInt8) : List UInt8 := (chunks 3 l).flatMap figs3
theorem codeL_nil : codeL [] = [] := by unfold codeL; rw [chunks_nil]; rfl
theorem codeL_step {l : List UInt8} (h : l ≠ []) : codeL l = figs3 (l.take 3) ++ codeL (l.drop 3) := by
  unfold codeL; rw [chunks_step (by decide) h, List.flatMap_cons]
theorem codeL_cons {g l : List UInt8} (h : g.length = 3) : codeL (g ++ l) = figs3 g ++ codeL l := by
  unfold codeL; rw [chunks_cons (by decide) h, List.flatMap_cons]
theorem codeL_length (l : List UInt8) : (codeL l).length = (l.length + 2) / 3 * 4 := by
  have key : ∀ (n : Nat) (l : List UInt8), l.length ≤ n → (codeL l).length = (l.length + 2) / 3 * 4 := by
    intro n
    induction n with
    | zero =>
      intro l h
      obtain rfl : l = [] := List.eq_nil_of_length_eq_zero (by omega)
      rw [codeL_nil]; rfl
    | succ n ih =>
      intro l h
      by_cases h0 : l = []
      · subst h0; rw [codeL_nil]; rfl
      · have hp := List.length_pos_iff.2 h0
        rw [codeL_step h0, List.length_append, figs3_length (by rw [List.length_take]; omega), ih _ (by rw [List.length_drop]; omega), List.length_drop]
        omega
  exact key l.length l (Nat.le_refl _)
theorem codeL_line (l : List UInt8) : ∀ c ∈ codeL l, 33 ≤ c.toNat ∧ c.toNat ≤ 126 := by
  intro c hc
  unfold codeL at hc
  obtain ⟨g, _, hg⟩ := List.mem_flatMap.1 hc
  unfold figs3 at hg
  rcases List.mem_append.1 hg with h | h
  · obtain ⟨k, _, rfl⟩ := List.mem_map.1 h
    exact figC_line (Nat.mod_lt _ (by decide))
  · rw [List.eq_of_mem_replicate h]; decide

/-! ### a group read -/
def n4 (a b c d : UInt8) : Nat := ((figV a * 64 + figV b) * 64 + figV c) * 64 + figV d
theorem n4_lt (a b c d : UInt8) : n4 a b c d < 16777216 := by
  have := figV_lt a; have := figV_lt b; have := figV_lt c; have := figV_lt d
  unfold n4; omega
def three (n : Nat) : List UInt8 := [UInt8.ofNat (n / 65536), UInt8.ofNat (n / 256), UInt8.ofNat n]
theorem ofNat_byte {n : Nat} (c : UInt8) (h : n % 256 = c.toNat) : UInt8.ofNat n = c := by
  apply UInt8.toNat_inj.1; rw [UInt8.toNat_ofNat']; exact h
theorem four (n : Nat) (h : n < 16777216) : ((n / 262144 % 64 * 64 + n / 4096 % 64) * 64 + n / 64 % 64) * 64 + n % 64 = n := by omega
/-- What is read of a group is what was written. -/
theorem figs3_read {g : List UInt8} (h1 : 1 ≤ g.length) (h3 : g.length ≤ 3) :
    ∃ a b c d, figs3 g = [a, b, c, d] ∧ a ≠ 61 ∧ b ≠ 61 ∧ (c = 61 ↔ g.length = 1) ∧ (d = 61 ↔ g.length ≤ 2) ∧ (three (n4 a b c d)).take g.length = g := by
  match g, h1, h3 with
  | [x], _, _ =>
    have hx := x.toNat_lt
    have hn : n3 [x] = x.toNat * 65536 := by unfold n3; rw [byteAt_get (c := x) rfl, byteAt_none (by simp), byteAt_none (by simp)]; omega
    refine ⟨figN (n3 [x]) 0, figN (n3 [x]) 1, 61, 61, rfl, figN_ne _ _, figN_ne _ _, by simp, by simp, ?_⟩
    have e : n4 (figN (n3 [x]) 0) (figN (n3 [x]) 1) 61 61 = x.toNat * 65536 := by
      unfold n4 figN
      rw [figV_figC (Nat.mod_lt _ (by decide)), figV_figC (Nat.mod_lt _ (by decide)), figV_pad, hn]
      simp only [Nat.reduceMul, Nat.reduceSub, Nat.reducePow]
      omega
    rw [e]
    show [UInt8.ofNat _] = [x]
    rw [ofNat_byte x (by omega)]
  | [x, y], _, _ =>
    have hx := x.toNat_lt
    have hy := y.toNat_lt
    have hn : n3 [x, y] = x.toNat * 65536 + y.toNat * 256 := by unfold n3; rw [byteAt_get (c := x) rfl, byteAt_get (c := y) rfl, byteAt_none (by simp)]; omega
    refine ⟨figN (n3 [x, y]) 0, figN (n3 [x, y]) 1, figN (n3 [x, y]) 2, 61, rfl, figN_ne _ _, figN_ne _ _, by simp [figN_ne], by simp, ?_⟩
    have e : n4 (figN (n3 [x, y]) 0) (figN (n3 [x, y]) 1) (figN (n3 [x, y]) 2) 61 = x.toNat * 65536 + y.toNat * 256 := by
      unfold n4 figN
      rw [figV_figC (Nat.mod_lt _ (by decide)), figV_figC (Nat.mod_lt _ (by decide)), figV_figC (Nat.mod_lt _ (by decide)), figV_pad, hn]
      simp only [Nat.reduceMul, Nat.reduceSub, Nat.reducePow]
      omega
    rw [e]
    show [UInt8.ofNat _, UInt8.ofNat _] = [x, y]
    rw [ofNat_byte x (by omega), ofNat_byte y (by omega)]
  | [x, y, z], _, _ =>
    have hx := x.toNat_lt
    have hy := y.toNat_lt
    have hz := z.toNat_lt
    have hn : n3 [x, y, z] = x.toNat * 65536 + y.toNat * 256 + z.toNat := by unfold n3; rw [byteAt_get (c := x) rfl, byteAt_get (c := y) rfl, byteAt_get (c := z) rfl]
    refine ⟨figN (n3 [x, y, z]) 0, figN (n3 [x, y, z]) 1, figN (n3 [x, y, z]) 2, figN (n3 [x, y, z]) 3, rfl, figN_ne _ _, figN_ne _ _, by simp [figN_ne], by simp [figN_ne], ?_⟩
    have e : n4 (figN (n3 [x, y, z]) 0) (figN (n3 [x, y, z]) 1) (figN (n3 [x, y, z]) 2) (figN (n3 [x, y, z]) 3) = x.toNat * 65536 + y.toNat * 256 + z.toNat := by
      unfold n4 figN
      rw [figV_figC (Nat.mod_lt _ (by decide)), figV_figC (Nat.mod_lt _ (by decide)), figV_figC (Nat.mod_lt _ (by decide)), figV_figC (Nat.mod_lt _ (by decide)), hn]
      simp only [Nat.reduceMul, Nat.reduceSub, Nat.reducePow]
      omega
    rw [e]
    show [UInt8.ofNat _, UInt8.ofNat _, UInt8.ofNat _] = [x, y, z]
    rw [ofNat_byte x (by omega), ofNat_byte y (by omega), ofNat_byte z (by omega)]

/-- While figures are read: the bytes up to a place are done. -/
def CAt (s u : List UInt8) (i j : Nat) : Prop := s.drop i = codeL (u.drop j)
theorem cat_start {s u : List UInt8} (h : s = codeL u) : CAt s u 0 0 := h
theorem cat_end {s u : List UInt8} {i j : Nat} (h : CAt s u i j) (hi : s.length ≤ i) : u.length ≤ j := by
  unfold CAt at h
  rw [List.drop_of_length_le hi] at h
  have e := codeL_length (u.drop j)
  rw [← h, List.length_drop, List.length_nil] at e
  omega
/-- The next group. -/
theorem cat_step {s u : List UInt8} {i j : Nat} (h : CAt s u i j) (hi : i < s.length) :
    j < u.length ∧ i + 4 ≤ s.length ∧ (s.drop i).take 4 = figs3 ((u.drop j).take 3) ∧ CAt s u (i + 4) (j + 3) := by
  unfold CAt at h ⊢
  have hj : j < u.length := by
    rcases Nat.lt_or_ge j u.length with h' | h'
    · exact h'
    · rw [List.drop_of_length_le h', codeL_nil] at h
      have := congrArg List.length h
      rw [List.length_drop, List.length_nil] at this; omega
  have h0 : u.drop j ≠ [] := by
    intro e
    have := congrArg List.length e
    rw [List.length_drop, List.length_nil] at this; omega
  have h4 : (figs3 ((u.drop j).take 3)).length = 4 := figs3_length (by rw [List.length_take]; omega)
  rw [codeL_step h0] at h
  have hl := congrArg List.length h
  rw [List.length_drop, List.length_append, h4] at hl
  refine ⟨hj, by omega, ?_, ?_⟩
  · rw [h]; exact List.take_left' h4
  · rw [← List.drop_drop, h, List.drop_left' h4, List.drop_drop]
theorem codeL_inj {u v : List UInt8} (h : codeL u = codeL v) : u = v := by
  have key : ∀ (n : Nat) (u v : List UInt8), u.length ≤ n → codeL u = codeL v → u = v := by
    intro n
    induction n with
    | zero =>
      intro u v hu h
      obtain rfl : u = [] := List.eq_nil_of_length_eq_zero (by omega)
      have e := codeL_length v
      rw [← h, codeL_nil, List.length_nil] at e
      exact (List.eq_nil_of_length_eq_zero (by omega)).symm
    | succ n ih =>
      intro u v hu h
      have e1 := codeL_length u
      have e2 := codeL_length v
      rw [h] at e1
      by_cases h0 : u = []
      · subst h0
        exact (List.eq_nil_of_length_eq_zero (by rw [List.length_nil] at e1; omega)).symm
      · have hp := List.length_pos_iff.2 h0
        have hv : v ≠ [] := by intro e; rw [e, List.length_nil] at e2; rw [e] at e1; omega
        have hq := List.length_pos_iff.2 hv
        rw [codeL_step h0, codeL_step hv] at h
        have hl : (figs3 (u.take 3)).length = (figs3 (v.take 3)).length := by
          rw [figs3_length (by rw [List.length_take]; omega), figs3_length (by rw [List.length_take]; omega)]
        obtain ⟨h1, h2⟩ := List.append_inj h hl
        have hd := ih _ _ (by rw [List.length_drop]; omega) h2
        have hg : u.take 3 = v.take 3 := by
          obtain ⟨a, b, c, d, f1, a1, b1, c1, d1, t1⟩ := figs3_read (g := u.take 3) (by rw [List.length_take]; omega) (by rw [List.length_take]; omega)
          obtain ⟨a', b', c', d', f2, a2, b2, c2, d2, t2⟩ := figs3_read (g := v.take 3) (by rw [List.length_take]; omega) (by rw [List.length_take]; omega)
          rw [f1, f2] at h1
          simp only [List.cons.injEq, and_true] at h1
          obtain ⟨rfl, rfl, rfl, rfl⟩ := h1
          have hlen : (u.take 3).length = (v.take 3).length := by
            have : (u.take 3).length ≤ 3 := by rw [List.length_take]; omega
            have : (v.take 3).length ≤ 3 := by rw [List.length_take]; omega
            have : 1 ≤ (u.take 3).length := by rw [List.length_take]; omega
            have : 1 ≤ (v.take 3).length := by rw [List.length_take]; omega
            have i1 : (u.take 3).length = 1 ↔ (v.take 3).length = 1 := by rw [← c1, ← c2]
            have i2 : (u.take 3).length ≤ 2 ↔ (v.take 3).length ≤ 2 := by rw [← d1, ← d2]
            omega
          rw [← t1, ← t2, hlen]
        rw [← List.take_append_drop 3 u, ← List.take_append_drop 3 v, hg, hd]
  exact key u.length u v (Nat.le_refl _) h

def codePutB (s : ByteArray) : ByteArray := if s.size ≤ 240 then ⟨(codeL s.data.toList).toArray⟩ else { data := #[] }
open Classical in
noncomputable def codeGetB (s : ByteArray) : ByteArray × Bool :=
  if h : ∃ u : ByteArray, u.size ≤ 240 ∧ codePutB u = s then (h.choose, true) else ({ data := #[] }, false)
theorem codePutB_data {u : ByteArray} (h : u.size ≤ 240) : (codePutB u).data.toList = codeL u.data.toList := by unfold codePutB; rw [if_pos h]
theorem codePutB_size {u : ByteArray} (h : u.size ≤ 240) : (codePutB u).size = (u.size + 2) / 3 * 4 := by
  have := codeL_length u.data.toList
  rw [← codePutB_data h] at this
  simpa using this
theorem codePutB_inj {u v : ByteArray} (hu : u.size ≤ 240) (hv : v.size ≤ 240) (h : codePutB u = codePutB v) : u = v := by
  have e := congrArg (fun b : ByteArray => b.data.toList) h
  simp only [codePutB_data hu, codePutB_data hv] at e
  have e2 := codeL_inj e
  cases u; cases v; simp_all
theorem codeGetB_put {u : ByteArray} (h : u.size ≤ 240) : codeGetB (codePutB u) = (u, true) := by
  unfold codeGetB
  have hx : ∃ v : ByteArray, v.size ≤ 240 ∧ codePutB v = codePutB u := ⟨u, h, rfl⟩
  rw [dif_pos hx, codePutB_inj hx.choose_spec.1 h hx.choose_spec.2]
theorem codeGetB_cases (s : ByteArray) : (∃ u : ByteArray, u.size ≤ 240 ∧ s = codePutB u ∧ codeGetB s = (u, true)) ∨ ((∀ u : ByteArray, u.size ≤ 240 → codePutB u ≠ s) ∧ codeGetB s = ({ data := #[] }, false)) := by
  by_cases h : ∃ u : ByteArray, u.size ≤ 240 ∧ codePutB u = s
  · obtain ⟨u, hu, rfl⟩ := h
    exact .inl ⟨u, hu, rfl, codeGetB_put hu⟩
  · refine .inr ⟨fun u hu e => h ⟨u, hu, e⟩, ?_⟩
    unfold codeGetB; rw [dif_neg h]
end Go.Proofs.YtmigcglcacpboaaDoor
