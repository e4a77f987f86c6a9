/- Contracts: a slice of strings copied; two compared. -/
import Derived.Test.YtfacdiimoncnnaaBody
namespace Go.Proofs.Ytfacdiimoncnnaa
open Go Go.RowKit

theorem infoS : (Try.prog.info? 9).map (fun i => (i.zero, i.size, i.bytes)) = some (some (.string ByteArray.empty), 1, 16) := by kernel_rfl

/-- A new row of the strings xs, made by the call; what lay below is as it was. -/
def RowsPost (w : World) (xs : List ByteArray) (e : Ending) (w' : World) : Prop :=
  ∃ ao cap, e = .returned (.slice ao xs.length cap) ∧ w'.ownsRow w.heap.size 9 1 (.slice ao xs.length cap) xs.length (xs.map Value.string) ∧ Below w.heap.size w w'

def rowCells (xs : List ByteArray) (k : Nat) : List Value := (xs.take k).map Value.string ++ List.replicate (xs.length - k) (.string ByteArray.empty)
theorem rowCells_zero (xs : List ByteArray) : rowCells xs 0 = List.replicate xs.length (.string ByteArray.empty) := by simp [rowCells]
theorem rowCells_end (xs : List ByteArray) : rowCells xs xs.length = xs.map Value.string := by simp [rowCells]
theorem rowCells_get (xs : List ByteArray) (k : Nat) (hk : k < xs.length) : (rowCells xs k)[k]? = some (.string ByteArray.empty) := by
  unfold rowCells
  rw [List.getElem?_append_right (by simp; omega)]
  simp [List.getElem?_replicate]; omega
theorem rowCells_set (xs : List ByteArray) (k : Nat) (x : ByteArray) (hx : xs[k]? = some x) : (rowCells xs k).set k (.string x) = rowCells xs (k + 1) := by
  obtain ⟨hk, e⟩ := List.getElem?_eq_some_iff.1 hx
  have hr : xs.length - k = (xs.length - (k + 1)) + 1 := by omega
  unfold rowCells
  rw [hr, List.replicate_succ, List.take_succ_eq_append_getElem hk, List.map_append, e]
  rw [List.set_append_right _ _ (by simp; omega), List.append_assoc]
  congr 1
  rw [List.length_map, List.length_take, show k - min k xs.length = 0 by omega]
  rfl

theorem toStringS_any (ao : Option Addr) (cap : Nat) (xs : List ByteArray) (w : World) (hr : StrRow w ao xs) (hl : xs.length ≤ 1048576) :
    Calls Try.prog 7 #[.slice ao xs.length cap] w (RowsPost w xs) := by
  obtain ⟨i0, hi, hz0, hz1, hz2⟩ := info_parts infoS
  have HR := Lib.hid hr
  clear hr
  go_enter Try.func7, Try.ntmps7
  go_wp2_with (at_make; refine wpList_make_full _ rfl _ _ 22 rfl w.heap.size 9 i0 (.string ByteArray.empty) 1 Try.underlying22 hi hz0 hz1 .i64 .i64 xs.length xs.length xs.length rfl rfl rfl rfl ?b2 ?b3 ?b4 ?_)
  case b2 => rw [hz2]; omega
  case b3 => unfold maxLen; omega
  case b4 => exact Nat.le_refl _
  intro w1 hown1 hgrow1
  have hb1 : Below w.heap.size w w1 := (Below.refl _ _).grown hgrow1 (Nat.le_refl _) (fun k e => by cases e)
  have hown : w1.ownsRow w.heap.size 9 1 (.slice (some ⟨w.heap.size, 0, none⟩) xs.length xs.length) xs.length (rowCells xs 0) := by
    rw [rowCells_zero, ← toList_madeCells_one (.string ByteArray.empty) xs.length]
    exact hown1
  clear hown1 hgrow1
  go_wp2
  go_loopw [4] (fun i wr => ∃ k : Nat, k ≤ xs.length ∧ i = .int .i64 k ∧ wr.ownsRow w.heap.size 9 1 (.slice (some ⟨w.heap.size, 0, none⟩) xs.length xs.length) xs.length (rowCells xs k) ∧ Below w.heap.size w wr) (fun i _ => xs.length - (intOf i).toNat)
  case atStart => exact ⟨0, Nat.zero_le _, rfl, hown, hb1⟩
  case round =>
    obtain ⟨k, hk, rfl, ho, hb⟩ := hrel
    clear hown hb1
    by_cases hlt : k < xs.length
    · obtain ⟨x, hx⟩ : ∃ x, xs[k]? = some x := ⟨_, List.getElem?_eq_getElem hlt⟩
      obtain ⟨b, off, rfl, hcell⟩ := (HR.out.below hb (Nat.le_refl _)) k x hx
      have hc2 : wr.cell? ⟨w.heap.size, k, none⟩ = some (.string ByteArray.empty) := (ho.cellAt k (by omega)).trans (rowCells_get xs k hlt)
      have hf2 := ho.frozenAt k
      have hs := ho.stored k (.string x)
      have ho' := hs.1
      rw [rowCells_set xs k x hx] at ho'
      have hb' := hb.setCell (p := ⟨w.heap.size, k, none⟩) (Nat.le_refl _) (.string x)
      clear hx hs ho
      go_wp2
      go_roundw
      case rel => exact ⟨k + 1, by omega, by go_num, ho', hb'⟩
      case measure => simp [intOf]; omega
    · obtain rfl : k = xs.length := by omega
      rw [rowCells_end] at ho
      go_wp2
      go_ret
      exact ⟨_, _, rfl, ho, hb⟩

theorem eqStringS_same (ao bo : Option Addr) (c1 c2 : Nat) (xs : List ByteArray) (w : World) (ha : StrRow w ao xs) (hb : StrRow w bo xs) (hl : xs.length ≤ 1048576) :
    Calls Try.prog 9 #[.slice ao xs.length c1, .slice bo xs.length c2] w fun e w' => e = .returned (.bool true) ∧ ∃ n, w' = w.drewN n := by
  have HA := Lib.hid ha
  have HB := Lib.hid hb
  clear ha hb
  go_enter Try.func9, Try.ntmps9
  go_wp2
  go_loopw [5] (fun i wr => ∃ k n : Nat, k ≤ xs.length ∧ i = .int .i64 k ∧ wr = w.drewN n) (fun i _ => xs.length - (intOf i).toNat)
  case atStart => exact ⟨0, 0, Nat.zero_le _, rfl, rfl⟩
  case round =>
    obtain ⟨k, n, hk, rfl, rfl⟩ := hrel
    by_cases hlt : k < xs.length
    · obtain ⟨x, hx⟩ : ∃ x, xs[k]? = some x := ⟨_, List.getElem?_eq_getElem hlt⟩
      obtain ⟨b, off, rfl, hcell⟩ := HA.out k x hx
      obtain ⟨b', off', rfl, hcell'⟩ := HB.out k x hx
      clear hx
      go_wp2
      go_quiet (fail)
      go_wp2
      exact ⟨⟨k + 1, n + nq, by omega, by go_num, rfl⟩, by simp [intOf]; omega⟩
    · go_wp2
      go_ret
      exact ⟨rfl, n, rfl⟩
end Go.Proofs.Ytfacdiimoncnnaa
