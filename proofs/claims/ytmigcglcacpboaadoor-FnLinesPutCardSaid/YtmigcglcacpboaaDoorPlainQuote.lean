/- Plain facts on bytes in figures: of base 16 behind a mark, of base 64. No program in this text. -/
import Derived.Lib.Split
import Derived.WalkKit
namespace Go.Proofs.YtmigcglcacpboaaDoor
open Go

/-! ### bytes that stand for themselves, and the others in two figures -/
def plainC (c : UInt8) : Bool := decide (33 ≤ c.toNat ∧ c.toNat ≤ 126) && decide (c.toNat ≠ 61)
def hexN (k : Nat) : Nat := if k < 10 then 48 + k else 55 + k
def hexC (k : Nat) : UInt8 := UInt8.ofNat (hexN k)
def quoteC (c : UInt8) : List UInt8 := if plainC c then [c] else [61, hexC (c.toNat / 16), hexC (c.toNat % 16)]
def quoteL (l : List UInt8) : List UInt8 := l.flatMap quoteC

theorem plainC_true {c : UInt8} (h : 33 ≤ c.toNat ∧ c.toNat ≤ 126) (h2 : c.toNat ≠ 61) : plainC c = true := by
  unfold plainC; rw [decide_eq_true h, decide_eq_true h2]; rfl
theorem plainC_false {c : UInt8} (h : ¬ (33 ≤ c.toNat ∧ c.toNat ≤ 126 ∧ c.toNat ≠ 61)) : plainC c = false := by
  rw [← Bool.not_eq_true]; unfold plainC; simp; omega
theorem quoteC_yes {c : UInt8} (h : plainC c = true) : quoteC c = [c] := by unfold quoteC; rw [h]; rfl
theorem quoteC_no {c : UInt8} (h : plainC c = false) : quoteC c = [61, hexC (c.toNat / 16), hexC (c.toNat % 16)] := by unfold quoteC; rw [h]; rfl
theorem quoteL_snoc {l : List UInt8} {k : Nat} {c : UInt8} (h : l[k]? = some c) : quoteL (l.take (k + 1)) = quoteL (l.take k) ++ quoteC c := by
  obtain ⟨hk, e⟩ := List.getElem?_eq_some_iff.1 h
  unfold quoteL
  rw [List.take_succ_eq_append_getElem hk, List.flatMap_append, e]; simp
theorem quoteL_append (l m : List UInt8) : quoteL (l ++ m) = quoteL l ++ quoteL m := by unfold quoteL; rw [List.flatMap_append]
theorem quoteC_len (c : UInt8) : 1 ≤ (quoteC c).length ∧ (quoteC c).length ≤ 3 := by
  unfold quoteC; split <;> simp
theorem quoteL_len (l : List UInt8) : l.length ≤ (quoteL l).length ∧ (quoteL l).length ≤ 3 * l.length := by
  induction l with
  | nil => simp [quoteL]
  | cons c l ih =>
    have := quoteC_len c
    rw [show quoteL (c :: l) = quoteC c ++ quoteL l from rfl, List.length_append, List.length_cons]
    omega

/-- The value of a figure of base 16. -/
def hexV (c : UInt8) : Int := if 48 ≤ c.toNat ∧ c.toNat ≤ 57 then (c.toNat : Int) - 48 else if 65 ≤ c.toNat ∧ c.toNat ≤ 70 then (c.toNat : Int) - 55 else -1
theorem hexV_hexC {k : Nat} (h : k < 16) : hexV (hexC k) = k := by
  have : ∀ k < 16, hexV (hexC k) = (k : Int) := by decide
  exact this k h
theorem hexC_ne {k : Nat} (h : k < 16) : hexC k ≠ 61 := by
  have : ∀ k < 16, hexC k ≠ 61 := by decide
  exact this k h
theorem plain_ne {c : UInt8} (h : plainC c = true) : c ≠ 61 := by
  intro e; subst e; exact absurd h (by decide)
theorem byte_parts (c : UInt8) : UInt8.ofNat (16 * (c.toNat / 16) + c.toNat % 16) = c := by
  rw [Nat.div_add_mod]; exact UInt8.ofNat_toNat

/-- What stands at a place of bytes in figures, while they are read: the bytes up to it are done. -/
def QAt (s u : List UInt8) (i j : Nat) : Prop := s.drop i = quoteL (u.drop j)
theorem qat_start {s u : List UInt8} (h : s = quoteL u) : QAt s u 0 0 := h
theorem qat_end {s u : List UInt8} {i j : Nat} (h : QAt s u i j) (hi : s.length ≤ i) : u.length ≤ j := by
  unfold QAt at h
  rw [List.drop_of_length_le hi] at h
  have := (quoteL_len (u.drop j)).1
  rw [← h, List.length_drop, List.length_nil] at this
  omega
theorem drop_cons {α : Type} {l : List α} {i : Nat} {a : α} {m : List α} (h : l.drop i = a :: m) : l[i]? = some a ∧ l.drop (i + 1) = m := by
  have hi : i < l.length := by
    rcases Nat.lt_or_ge i l.length with h' | h'
    · exact h'
    · rw [List.drop_of_length_le h'] at h; cases h
  rw [List.drop_eq_getElem_cons hi] at h
  injection h with h1 h2
  exact ⟨by rw [List.getElem?_eq_getElem hi, h1], h2⟩
/-- A byte that is no mark stands for itself. -/
theorem qat_plain {s u : List UInt8} {i j : Nat} {c : UInt8} (h : QAt s u i j) (hc : s[i]? = some c) (hn : c ≠ 61) : u[j]? = some c ∧ QAt s u (i + 1) (j + 1) := by
  obtain ⟨hi, e⟩ := List.getElem?_eq_some_iff.1 hc
  unfold QAt at h ⊢
  rw [List.drop_eq_getElem_cons hi, e] at h
  rcases Nat.lt_or_ge j u.length with hj | hj
  · rw [List.drop_eq_getElem_cons hj, show quoteL (u[j] :: u.drop (j + 1)) = quoteC u[j] ++ quoteL (u.drop (j + 1)) from rfl] at h
    cases hp : plainC u[j]
    · rw [quoteC_no hp] at h
      injection h with h1 _
      exact absurd h1 hn
    · rw [quoteC_yes hp] at h
      injection h with h1 h2
      exact ⟨by rw [List.getElem?_eq_getElem hj, h1], h2⟩
  · rw [List.drop_of_length_le hj] at h; cases h
/-- Behind a mark two figures stand, of one byte. -/
theorem qat_mark {s u : List UInt8} {i j : Nat} (h : QAt s u i j) (hc : s[i]? = some 61) : ∃ c, u[j]? = some c ∧ s[i + 1]? = some (hexC (c.toNat / 16)) ∧ s[i + 2]? = some (hexC (c.toNat % 16)) ∧ QAt s u (i + 3) (j + 1) := by
  obtain ⟨hi, e⟩ := List.getElem?_eq_some_iff.1 hc
  unfold QAt at h ⊢
  rcases Nat.lt_or_ge j u.length with hj | hj
  · rw [List.drop_eq_getElem_cons hj, show quoteL (u[j] :: u.drop (j + 1)) = quoteC u[j] ++ quoteL (u.drop (j + 1)) from rfl] at h
    cases hp : plainC u[j]
    · rw [quoteC_no hp] at h
      obtain ⟨_, h1⟩ := drop_cons h
      obtain ⟨h2, h3⟩ := drop_cons h1
      obtain ⟨h4, h5⟩ := drop_cons h3
      exact ⟨u[j], List.getElem?_eq_getElem hj, h2, h4, h5⟩
    · rw [quoteC_yes hp, List.drop_eq_getElem_cons hi, e] at h
      injection h with h1 _
      exact absurd h1.symm (plain_ne hp)
  · rw [List.drop_of_length_le hj, List.drop_eq_getElem_cons hi] at h; cases h
theorem quoteL_inj {u v : List UInt8} (h : quoteL u = quoteL v) : u = v := by
  have key : ∀ (n : Nat) (u v : List UInt8), u.length ≤ n → quoteL u = quoteL v → u = v := by
    intro n
    induction n with
    | zero =>
      intro u v hu h
      obtain rfl : u = [] := List.eq_nil_of_length_eq_zero (by omega)
      have := (quoteL_len v).1
      rw [← h] at this
      exact (List.eq_nil_of_length_eq_zero (by simpa [quoteL] using this)).symm
    | succ n ih =>
      intro u v hu h
      cases u with
      | nil =>
        have := (quoteL_len v).1
        rw [← h] at this
        exact (List.eq_nil_of_length_eq_zero (by simpa [quoteL] using this)).symm
      | cons c u =>
        have h0 : QAt (quoteL v) v 0 0 := rfl
        rw [← h] at h0
        have hl : quoteL (c :: u) = quoteC c ++ quoteL u := rfl
        cases hp : plainC c
        · obtain ⟨d, hd, h1, h2, h3⟩ := qat_mark h0 (by rw [hl, quoteC_no hp]; rfl)
          rw [hl, quoteC_no hp] at h1 h2 h3
          have e1 : hexV (hexC (c.toNat / 16)) = hexV (hexC (d.toNat / 16)) := congrArg hexV (Option.some.inj h1)
          have e2 : hexV (hexC (c.toNat % 16)) = hexV (hexC (d.toNat % 16)) := congrArg hexV (Option.some.inj h2)
          have hc8 := c.toNat_lt
          have hd8 := d.toNat_lt
          rw [hexV_hexC (by omega), hexV_hexC (by omega)] at e1 e2
          have ecd : c = d := UInt8.toNat_inj.1 (by omega)
          cases v with
          | nil => cases hd
          | cons d' v =>
            obtain rfl : d' = d := Option.some.inj hd
            rw [ecd, ih u v (by simp at hu; omega) h3]
        · obtain ⟨hd, h1⟩ := qat_plain (c := c) h0 (by rw [hl, quoteC_yes hp]; rfl) (plain_ne hp)
          rw [hl, quoteC_yes hp] at h1
          cases v with
          | nil => cases hd
          | cons d' v =>
            obtain rfl : d' = c := Option.some.inj hd
            rw [ih u v (by simp at hu; omega) h1]
  exact key u.length u v (Nat.le_refl _) h

def quotePutB (s : ByteArray) : ByteArray := if s.size ≤ 240 then ⟨(quoteL s.data.toList).toArray⟩ else { data := #[] }
open Classical in
noncomputable def quoteGetB (s : ByteArray) : ByteArray × Bool :=
  if h : ∃ u : ByteArray, u.size ≤ 240 ∧ quotePutB u = s then (h.choose, true) else ({ data := #[] }, false)
theorem quotePutB_data {u : ByteArray} (h : u.size ≤ 240) : (quotePutB u).data.toList = quoteL u.data.toList := by unfold quotePutB; rw [if_pos h]
theorem quotePutB_inj {u v : ByteArray} (hu : u.size ≤ 240) (hv : v.size ≤ 240) (h : quotePutB u = quotePutB v) : u = v := by
  have e := congrArg (fun b : ByteArray => b.data.toList) h
  simp only [quotePutB_data hu, quotePutB_data hv] at e
  have e2 := quoteL_inj e
  cases u; cases v; simp_all
theorem quoteGetB_put {u : ByteArray} (h : u.size ≤ 240) : quoteGetB (quotePutB u) = (u, true) := by
  unfold quoteGetB
  have hx : ∃ v : ByteArray, v.size ≤ 240 ∧ quotePutB v = quotePutB u := ⟨u, h, rfl⟩
  rw [dif_pos hx, quotePutB_inj hx.choose_spec.1 h hx.choose_spec.2]
theorem quoteGetB_cases (s : ByteArray) : (∃ u : ByteArray, u.size ≤ 240 ∧ s = quotePutB u ∧ quoteGetB s = (u, true)) ∨ ((∀ u : ByteArray, u.size ≤ 240 → quotePutB u ≠ s) ∧ quoteGetB s = ({ data := #[] }, false)) := by
  by_cases h : ∃ u : ByteArray, u.size ≤ 240 ∧ quotePutB u = s
  · obtain ⟨u, hu, rfl⟩ := h
    exact .inl ⟨u, hu, rfl, quoteGetB_put hu⟩
  · refine .inr ⟨fun u hu e => h ⟨u, hu, e⟩, ?_⟩
    unfold quoteGetB; rw [dif_neg h]
end Go.Proofs.YtmigcglcacpboaaDoor
