/- Contracts: slices.Clone at numbers, texts and addresses; a mail cloned. -/
import Derived.Test.YtcaknjdolfheaaaGreatDoorInts
import Derived.Test.YtcaknjdolfheaaaGreatDoorMails
import Derived.Test.YtcaknjdolfheaaaGreatDoorHopPut
import Derived.Lib.SliceRun
namespace Go.Proofs.YtcaknjdolfheaaaGreatDoor
open Go Go.RowKit

theorem infoAddr3 : (Tryz.prog.info? 27).map (fun i => (i.zero, i.size, i.bytes)) = some (some (.agg #[.string ByteArray.empty, .string ByteArray.empty]), 2, 32) := by kernel_rfl

/-- The cells of a row of the call's own, one by one. -/
theorem own_news {w : World} {B : Nat} {e : TypeId} {size n cap g : Nat} {xs : List Value} (h : w.ownsRow B e size (.slice (some ⟨g, 0, none⟩) n cap) n xs) : ∀ j u, xs[j]? = some u → w.cell? ((⟨g, 0, none⟩ : Addr).add j) = some u := by
  intro j u hj
  have hl : j < n * size := by
    have := (List.getElem?_eq_some_iff.1 hj).1
    rw [h.1] at this; exact this
  have hc := h.cellAt j hl
  by_cases h0 : j = 0
  · subst h0; simpa [Addr.add] using hc.trans hj
  · simpa [Addr.add, h0] using hc.trans hj
theorem own_split {w : World} {B : Nat} {e : TypeId} {size n cap : Nat} {ao : Option Addr} {xs : List Value} (h : w.ownsRow B e size (.slice ao n cap) n xs) : (ao = none ∧ n = 0 ∧ cap = 0) ∨ ∃ g, ao = some ⟨g, 0, none⟩ := by
  rcases h.2 with ⟨hv, hn⟩ | ⟨g, c, cur, hv, _⟩
  · simp only [Value.slice.injEq] at hv
    exact .inl ⟨hv.1, hn, hv.2.2⟩
  · simp only [Value.slice.injEq] at hv
    exact .inr ⟨g, hv.1⟩
theorem own_away {w : World} {B : Nat} {e : TypeId} {size n k j : Nat} {v : Value} {xs : List Value} (h : w.ownsRow B e size v n xs) (u : Value) (hk : ∀ g, v.ownBlock = some g → g ≠ k) : (w.setCell ⟨k, j, none⟩ u).ownsRow B e size v n xs := by
  refine h.kept (row := some k) ⟨rfl, rfl, rfl, by simp, fun i _ hi => heap_setCell_other w ⟨k, j, none⟩ i u (fun e => hi (by simp [e]))⟩ ?_
  cases e : v.ownBlock with
  | none => exact .inl rfl
  | some g => exact .inr (fun q => hk g e (Option.some.inj q))
theorem ints_one (xs : List Int) : ∀ u ∈ xs.map (Value.int .i64), u.oneCell' = true := by
  intro u hu
  obtain ⟨x, _, rfl⟩ := List.mem_map.1 hu
  rfl
theorem pairs_one' (ps : List Pair) : ∀ u ∈ pairCells ps, u.oneCell' = true := by
  intro u hu
  unfold pairCells at hu
  obtain ⟨p, _, hp⟩ := List.mem_flatMap.1 hu
  simp at hp
  rcases hp with rfl | rfl <;> rfl

set_option maxHeartbeats 800000 in
set_option maxRecDepth 100000 in
theorem cloneStrs_any (B : Nat) (ao : Option Addr) (cap : Nat) (xs : List ByteArray) (w : World) (ho : Row w B ao cap xs) (hl : xs.length ≤ 1048576) :
    Calls Tryz.prog 119 #[.slice ao xs.length cap] w fun e w' => ∃ bo c, e = .returned (.slice bo xs.length c) ∧ Row w' w.heap.size bo c xs ∧ Below w.heap.size w w' := by
  obtain ⟨i0, hi, hz0, hz1, hz2⟩ := info_parts infoS
  have qT : ∀ (w : World) (a : Option Addr) (n c n' c' : Nat), (binOp .eql 29 (.slice a n c) (.slice none n' c')).run Tryz.prog w = .ok (.bool a.isNone) w := fun w a n c n' c' => Lib.run_eql_slice_nil w _ _ a n c n' c' Tryz.underlying29
  rcases own_split ho with ⟨rfl, h0, rfl⟩ | ⟨g, rfl⟩
  · obtain rfl : xs = [] := List.eq_nil_of_length_eq_zero h0
    clear ho
    go_enter Tryz.func119, Tryz.ntmps119
    go_wp2
    go_ret
    exact ⟨none, 0, rfl, World.ownsRow_nil _ _ _ _, Below.refl _ _⟩
  · have HN := Lib.hid (own_news (World.ownsRow.alloc ho (.cells #[] 9)))
    have OW := Lib.hid (World.ownsRow_made (e := 9) (size := 1) w #[] 0 (Nat.le_refl _) (by unfold maxLen; omega) rfl : (w.alloc (.cells #[] 9)).ownsRow w.heap.size 9 1 (.slice (some ⟨w.heap.size, 0, none⟩) 0 0) 0 [])
    clear ho
    go_enter Tryz.func119, Tryz.ntmps119
    go_wp2_with (at_builtin; refine wpList_append_own _ rfl _ _ 29 rfl w.heap.size 9 i0 (.string ByteArray.empty) 1 16 Tryz.underlying29 hi hz0 hz1 hz2 rfl (by decide) _ 0 [] rfl OW.out ⟨g, 0, none⟩ xs.length cap (xs.map Value.string) rfl (by simp) ?c1 ?c2 ?c3 ?c4 ?c5 ?_)
    case c1 => exact HN.out
    case c2 => exact strs_one _
    case c3 => unfold maxLen; omega
    case c4 => omega
    case c5 => simp
    intro v' w2 hown hgrow _
    have hb : Below w.heap.size w w2 := ((Below.refl _ w).alloc (Nat.le_refl _) _).grown hgrow (by simp) (fun k e => by have : w.heap.size = k := Option.some.inj e; omega)
    obtain ⟨bo, c, rfl⟩ := shape_of hown
    have O2 := Lib.hid hown
    clear hown hgrow
    go_wp2
    go_ret
    exact ⟨bo, c, rfl, by unfold Row; simpa using O2.out, hb⟩

end Go.Proofs.YtcaknjdolfheaaaGreatDoor
