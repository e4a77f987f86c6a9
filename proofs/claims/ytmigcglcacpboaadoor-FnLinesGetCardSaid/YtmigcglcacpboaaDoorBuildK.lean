/- Contracts: a strings.Builder written within a range over a function: whatever is no row of cells stays. -/
import Derived.Test.YtmigcglcacpboaaDoorBuildS
import Derived.Test.YtmigcglcacpboaaDoorGroups
namespace Go.Proofs.YtmigcglcacpboaaDoor
open Go Go.RowKit

/-- Rows of other elements than bytes, but the block b, are left as they are. -/
def KeepsT (b : Nat) (W W' : World) : Prop := ∀ k cs t fr, k ≠ b → W.heap[k]? = some (.cells cs t fr) → t ≠ 5 → W'.heap[k]? = some (.cells cs t fr)
theorem KeepsT.refl (b : Nat) (W : World) : KeepsT b W W := fun _ _ _ _ _ h _ => h
theorem KeepsT.trans {b : Nat} {X Y Z : World} (h : KeepsT b X Y) (k : KeepsT b Y Z) : KeepsT b X Z := fun i cs t fr hi hx ht => k i cs t fr hi (h i cs t fr hi hx ht) ht
theorem KeepsT.setCell {b : Nat} (W : World) (j : Nat) (v : Value) : KeepsT b W (W.setCell ⟨b, j, none⟩ v) := fun i cs t fr hi hx _ => by
  rw [Below.heap_setCell _ _ _ _ (by simpa using hi)]; exact hx
theorem KeepsT.of_below {b C : Nat} {W W' : World} (h : Below C W W') (hC : W.heap.size ≤ C) : KeepsT b W W' := fun i _ _ _ _ hx _ => (h.block i (Nat.lt_of_lt_of_le (Array.getElem?_eq_some_iff.1 hx).1 hC)).trans hx
theorem KeepsT.box {b B : Nat} {W W' : World} {t : TypeId} {v : Value} (h : KeepsT b W W') (hb : Boxed W B t v) (hne : B ≠ b) (ht : t ≠ 5) : Boxed W' B t v := h B _ t _ hne hb ht

theorem copyCheckK_any (B b : Nat) (l : List UInt8) (w : World) (h : HoldsS B b l w) :
    Calls Tryd.prog 51 #[.pointer (some ⟨b, 0, none⟩)] w fun e w' => e = .returned (.tuple #[]) ∧ (Lib.BuilderAt 48 5 B b (.pointer (some ⟨b, 0, none⟩)) (Lib.byteCells l) w' ∧ Below B w w' ∧ KeepsOthers w w' ∧ KeepsT b w w') := by
  rcases h with h | h
  · refine (copyCheckS_fresh b w h.cell0 h.shape h.frozen0).mono ?_
    rintro e w' ⟨rfl, rfl⟩
    exact ⟨rfl, h.used _, (Below.refl B w).setCell (p := ⟨b, 0, none⟩) h.1 _, KeepsOthers.setCell _ _ _, KeepsT.setCell _ 0 _⟩
  · refine (copyCheckS_used b w h.cell0).mono ?_
    rintro e w' ⟨rfl, rfl⟩
    exact ⟨rfl, h, Below.refl B _, KeepsOthers.refl _, KeepsT.refl _ _⟩

set_option maxHeartbeats 1000000 in
theorem writeStringK_any (B b : Nat) (l : List UInt8) (s : ByteArray) (w : World) (h : HoldsS B b l w) (hlen : l.length + s.size ≤ 140737488355328) (hBw : B ≤ w.heap.size) :
    Calls Tryd.prog 33 #[.pointer (some ⟨b, 0, none⟩), .string s] w fun e w' => e = .returned (.tuple #[.int .i64 s.size, .nilIface]) ∧ (HoldsS B b (l ++ s.data.toList) w' ∧ Below B w w' ∧ KeepsOthers w w' ∧ KeepsT b w w') := by
  obtain ⟨i0, hi, hz0, hz1, hz2⟩ := info_parts infoByteS
  have hbl := Lib.byteCells_length l
  go_enter Tryd.func33, Tryd.ntmps33
  go_wp2_with (go_at_call 51; refine (copyCheckK_any B b l _ h).mono ?_)
  rintro e w1 ⟨rfl, h1, hb1, hk1, ht1⟩
  obtain ⟨hB, v, hbk, hown, hne⟩ := h1
  have c0 : w1.cell? ⟨b, 0, none⟩ = some (.pointer (some ⟨b, 0, none⟩)) := by rw [Lib.cell_of_heap hbk]; rfl
  have c1 : w1.cell? ⟨b, 1, none⟩ = some v := by rw [Lib.cell_of_heap hbk]; rfl
  go_wp2_with (at_builtin; refine Lib.wpList_append_own_string _ rfl _ _ 22 9 rfl B 5 i0 Tryd.underlying22 Tryd.underlying9 hi hz0 hz1 hz2 _ _ _ rfl hown s rfl ?c3 ?c4 ?c5 ?_)
  case c3 => unfold maxLen; omega
  case c4 => omega
  case c5 => have := hb1.size; omega
  intro v' w2 hown' hgrow _
  have hlt : b < w1.heap.size := by
    rcases Nat.lt_or_ge b w1.heap.size with h' | h'
    · exact h'
    · simp [Array.getElem?_eq_none h'] at hbk
  have hb2 : w2.heap[b]? = some (.cells #[.pointer (some ⟨b, 0, none⟩), v] 48 (0, 0)) := by
    rw [hgrow.block b hlt (fun e => hne e.symm)]
    exact hbk
  have d0 : w2.cell? ⟨b, 0, none⟩ = some (.pointer (some ⟨b, 0, none⟩)) := by rw [Lib.cell_of_heap hb2]; rfl
  have d1 : w2.cell? ⟨b, 1, none⟩ = some v := by rw [Lib.cell_of_heap hb2]; rfl
  have f1 : w2.frozen? ⟨b, 1, none⟩ = false := Lib.frozen_of_heap hb2 1
  obtain ⟨ao, n', cap, rfl⟩ : ∃ ao n' cap, v' = .slice ao n' cap := by
    rcases hown'.2 with ⟨hv, _⟩ | ⟨g, cap, cur, hv, _⟩
    · exact ⟨_, _, _, hv⟩
    · exact ⟨_, _, _, hv⟩
  go_wp2
  go_ret2
  refine ⟨rfl, .inr ?_, ?_, ?_, ?_⟩
  · exact Lib.BuilderAt.put (T := 48) (e := 5) hB hb2 (bs' := Lib.byteCells (l ++ s.data.toList)) (by rw [Lib.byteCells_append, ← Lib.strCells_eq]; simpa [Lib.strCells_length, Lib.byteCells_length] using hown') (by decide)
  · exact (hb1.grown hgrow (by have := hb1.size; omega) (fun k hk => (hown.lt k hk).1)).setCell (p := ⟨b, 1, none⟩) hB _
  · refine (hk1.trans (KeepsOthers.of_grownBy hgrow ?_)).trans (KeepsOthers.setCell _ _ _)
    intro j o hj ho
    rcases hown.2 with ⟨hv, _⟩ | ⟨g, cap', cur, hv, _, hg, _⟩
    · rw [hv] at hj; cases hj
    · rw [hv] at hj
      obtain rfl : g = j := Option.some.inj hj
      rw [hg] at ho
      cases ho; rfl
  · refine (ht1.trans ?_).trans (KeepsT.setCell _ _ _)
    intro k cs t fr _ hk ht
    refine (hgrow.block k (Array.getElem?_eq_some_iff.1 hk).1 fun e => ?_).trans hk
    rcases hown.2 with ⟨hv, _⟩ | ⟨g, cap', cur, hv, _, hg, _⟩
    · rw [hv] at e; cases e
    · rw [hv] at e
      obtain rfl : k = g := Option.some.inj e
      rw [hg] at hk
      cases hk; exact ht rfl

theorem holdsS_own {β : Type} (B b : Nat) (f : β → List UInt8) : Own (fun (s : β) W => HoldsS B b (f s) W) := by
  intro s X Y row h hg hrow
  have key : ∀ {p : Value}, Lib.BuilderAt 48 5 B b p (Lib.byteCells (f s)) X → Lib.BuilderAt 48 5 B b p (Lib.byteCells (f s)) Y := by
    rintro p ⟨hB, v, hbk, hown, hne⟩
    have hlt : b < X.heap.size := (Array.getElem?_eq_some_iff.1 hbk).1
    refine ⟨hB, v, (hg.block b hlt fun e => ?_).trans hbk, hown.kept hg ?_, hne⟩
    · obtain ⟨o, ho, hc⟩ := hrow b e.symm
      rw [hbk] at ho; cases ho; cases hc
    · rcases hown.2 with ⟨rfl, _⟩ | ⟨g, cap, cur, rfl, _, hgb, _⟩
      · exact .inl rfl
      · refine .inr fun e => ?_
        obtain ⟨o, ho, hc⟩ := hrow g e.symm
        rw [hgb] at ho; cases ho; cases hc
  exact h.imp key key
end Go.Proofs.YtmigcglcacpboaaDoor
