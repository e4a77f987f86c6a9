/- Body, Copy, Small, Mark, Own, Cells, St, Bytes. -/
import Derived.Test.YtcaknjdolfheaaaGreatDoorProg
import Derived.Test.YtcaknjdolfheaaaGreatDoorPlains
import Derived.WalkKit
import Derived.Lib.Hide
import Derived.Outline
import Derived.Maps.AppendAt
import Derived.Deep.QuietTactic
import Derived.BigQuiet
import Derived.Laws.IdiomStrings
import Derived.Deep.RegionHeld3
import Derived.Below
import Derived.Laws.AppendOwn
namespace Go.Proofs.YtcaknjdolfheaaaGreatDoor
open Go Go.RowKit

theorem ret_bo {a b : Bool} (h : a = b) : Ending.returned (.bool a) = .returned (.bool b) := by rw [h]

theorem l2LineOk_any (s : ByteArray) (w : World) (hs : s.size ≤ maxLen) :
    Calls Tryz.prog 189 #[.string s] w fun e w' => e = .returned (.bool (lineB s)) ∧ w = w' := by
  unfold maxLen at hs
  go_enter Tryz.func189, Tryz.ntmps189
  go_wp2
  go_loop [3] (fun i => ∃ k : Nat, k ≤ s.size ∧ i = .int .i64 k ∧ Hid ((s.data.toList.take k).all lineC = true)) (fun i => s.size - (intOf i).toNat)
  case atStart => exact ⟨0, Nat.zero_le _, rfl, Lib.hid (by simp)⟩
  case round =>
    obtain ⟨k, hk, rfl, H⟩ := hrel
    by_cases hlt : k < s.size
    · by_cases h1 : (32 : Int) ≤ (s[k].toNat : Int)
      · by_cases h2 : (s[k].toNat : Int) ≤ 126
        · go_wp2
          go_round
          case rel => exact ⟨k + 1, by omega, by go_num, Lib.hid (all_take_succ hlt H.out (lineC_true (by omega)))⟩
          case measure => simp [intOf]; omega
        · have hm : Hid (lineB s = false) := Lib.hid (lineB_miss hlt (lineC_false (by omega)))
          go_wp2
          go_ret
          exact ⟨ret_bo hm.out.symm, rfl⟩
      · have hm : Hid (lineB s = false) := Lib.hid (lineB_miss hlt (lineC_false (by omega)))
        go_wp2
        go_ret
        exact ⟨ret_bo hm.out.symm, rfl⟩
    · have hm : Hid (lineB s = decide ((s.size : Int) ≤ 40)) := Lib.hid ((lineB_end (by omega) H.out).trans (by rw [decide_eq_decide]; omega))
      go_wp2
      go_ret
      exact ⟨ret_bo hm.out.symm, rfl⟩

theorem isLine_any (s : ByteArray) (w : World) (hs : s.size ≤ maxLen) :
    Calls Tryz.prog 185 #[.string s] w fun e w' => e = .returned (.bool (lineB s)) ∧ w = w' := by
  unfold maxLen at hs
  by_cases h40 : 40 < s.size
  · have hm : Hid (lineB s = false) := Lib.hid (lineB_size h40)
    go_enter Tryz.func185, Tryz.ntmps185
    go_wp2
    go_ret
    exact ⟨ret_bo hm.out.symm, rfl⟩
  · go_enter Tryz.func185, Tryz.ntmps185
    go_wp2
    go_loop [9] (fun i => ∃ k : Nat, k ≤ s.size ∧ i = .int .i64 k ∧ Hid ((s.data.toList.take k).all lineC = true)) (fun i => s.size - (intOf i).toNat)
    case atStart => exact ⟨0, Nat.zero_le _, rfl, Lib.hid (by simp)⟩
    case round =>
      obtain ⟨k, hk, rfl, H⟩ := hrel
      by_cases hlt : k < s.size
      · by_cases h1 : (32 : Int) ≤ (s[k].toNat : Int)
        · by_cases h2 : (s[k].toNat : Int) ≤ 126
          · go_wp2
            go_round
            case rel => exact ⟨k + 1, by omega, by go_num, Lib.hid (all_take_succ hlt H.out (lineC_true (by omega)))⟩
            case measure => simp [intOf]; omega
          · have hm : Hid (lineB s = false) := Lib.hid (lineB_miss hlt (lineC_false (by omega)))
            go_wp2
            go_ret
            exact ⟨ret_bo hm.out.symm, rfl⟩
        · have hm : Hid (lineB s = false) := Lib.hid (lineB_miss hlt (lineC_false (by omega)))
          go_wp2
          go_ret
          exact ⟨ret_bo hm.out.symm, rfl⟩
      · have hm : Hid (lineB s = true) := Lib.hid ((lineB_end (by omega) H.out).trans (decide_eq_true (by omega)))
        go_wp2
        go_ret
        exact ⟨ret_bo hm.out.symm, rfl⟩

/-- THE SLICE VALUE '.slice ao xs.length cap' READS AS THE STRINGS xs. -/
def StrRow (w : World) (ao : Option Addr) (xs : List ByteArray) : Prop :=
  ∀ k x, xs[k]? = some x → ∃ b off, ao = some ⟨b, off, none⟩ ∧ w.cell? ⟨b, off + k, none⟩ = some (.string x)

theorem StrRow.below {B : Nat} {w w' : World} {ao : Option Addr} {xs : List ByteArray} (h : StrRow w ao xs) (hb : Below B w w') (hB : w.heap.size ≤ B) : StrRow w' ao xs := by
  intro k x hx
  obtain ⟨b, off, e, hc⟩ := h k x hx
  have hlt := World.block_lt_of_cell? w _ hc
  exact ⟨b, off, e, (hb.cell (p := ⟨b, off + k, none⟩) (Nat.lt_of_lt_of_le hlt hB)).trans hc⟩

theorem StrRow.of_own {w : World} {base : Nat} {e : TypeId} {ao : Option Addr} {cap : Nat} {xs : List ByteArray} (h : w.ownsRow base e 1 (.slice ao xs.length cap) xs.length (xs.map Value.string)) : StrRow w ao xs := by
  intro k x hx
  obtain ⟨hk, _⟩ := List.getElem?_eq_some_iff.1 hx
  rcases h.2 with ⟨_, h0⟩ | ⟨g, c, cur, h', _⟩
  · omega
  · simp only [Value.slice.injEq, true_and] at h'
    obtain ⟨rfl, rfl⟩ := h'
    refine ⟨g, 0, rfl, ?_⟩
    rw [h.cellAt _ (by omega), Nat.zero_add, List.getElem?_map, hx]
    rfl

theorem l2BodyOk_any (ao : Option Addr) (cap : Nat) (xs : List ByteArray) (w : World) (hr : StrRow w ao xs) (hl : xs.length ≤ maxLen) (hs : ∀ x ∈ xs, x.size ≤ maxLen) :
    Calls Tryz.prog 124 #[.slice ao xs.length cap] w fun e w' => e = .returned (.bool (bodyB xs)) ∧ w = w' := by
  unfold maxLen at hl
  have HR := Lib.hid hr
  have HS := Lib.hid hs
  clear hr hs
  go_enter Tryz.func124, Tryz.ntmps124
  go_wp2
  go_loop [3] (fun i => ∃ k : Nat, k ≤ xs.length ∧ i = .int .i64 k ∧ Hid ((xs.take k).all lineB = true)) (fun i => xs.length - (intOf i).toNat)
  case atStart => exact ⟨0, Nat.zero_le _, rfl, Lib.hid (by simp)⟩
  case round =>
    obtain ⟨k, hk, rfl, H⟩ := hrel
    by_cases hlt : k < xs.length
    · obtain ⟨x, hx⟩ : ∃ x, xs[k]? = some x := ⟨_, List.getElem?_eq_getElem hlt⟩
      obtain ⟨b, off, rfl, hcell⟩ := HR.out k x hx
      have hxs := HS.out x (List.mem_of_getElem? hx)
      have HX := Lib.hid hx
      clear hx
      cases hc : lineB x
      · have hm : Hid (bodyB xs = false) := Lib.hid (bodyB_miss HX.out hc)
        have HC := Lib.hid hc
        clear hc
        go_wp2_with (go_at_call 189; refine (l2LineOk_any x _ hxs).mono ?_; rintro e w1 ⟨rfl, rfl⟩; rw [HC.out])
        go_ret
        exact ⟨ret_bo hm.out.symm, rfl⟩
      · have HC := Lib.hid hc
        clear hc
        go_wp2_with (go_at_call 189; refine (l2LineOk_any x _ hxs).mono ?_; rintro e w1 ⟨rfl, rfl⟩; rw [HC.out])
        go_round
        case rel => exact ⟨k + 1, by omega, by go_num, Lib.hid (list_all_succ HX.out H.out HC.out)⟩
        case measure => simp [intOf]; omega
    · have hm : Hid (bodyB xs = decide ((xs.length : Int) ≤ 12)) := Lib.hid (bodyB_end (by omega) H.out)
      go_wp2
      go_ret
      exact ⟨ret_bo hm.out.symm, rfl⟩

theorem isBody_any (ao : Option Addr) (cap : Nat) (xs : List ByteArray) (w : World) (hr : StrRow w ao xs) (hl : xs.length ≤ maxLen) (hs : ∀ x ∈ xs, x.size ≤ maxLen) :
    Calls Tryz.prog 116 #[.slice ao xs.length cap] w fun e w' => e = .returned (.bool (bodyB xs)) ∧ w = w' := by
  unfold maxLen at hl
  have HR := Lib.hid hr
  have HS := Lib.hid hs
  clear hr hs
  by_cases h12 : 12 < xs.length
  · have hm : Hid (bodyB xs = false) := Lib.hid (bodyB_many h12)
    go_enter Tryz.func116, Tryz.ntmps116
    go_wp2
    go_ret
    exact ⟨ret_bo hm.out.symm, rfl⟩
  · go_enter Tryz.func116, Tryz.ntmps116
    go_wp2
    go_loop [10] (fun i => ∃ k : Nat, k ≤ xs.length ∧ i = .int .i64 k ∧ Hid ((xs.take k).all lineB = true)) (fun i => xs.length - (intOf i).toNat)
    case atStart => exact ⟨0, Nat.zero_le _, rfl, Lib.hid (by simp)⟩
    case round =>
      obtain ⟨k, hk, rfl, H⟩ := hrel
      by_cases hlt : k < xs.length
      · obtain ⟨x, hx⟩ : ∃ x, xs[k]? = some x := ⟨_, List.getElem?_eq_getElem hlt⟩
        obtain ⟨b, off, rfl, hcell⟩ := HR.out k x hx
        have hxs := HS.out x (List.mem_of_getElem? hx)
        have HX := Lib.hid hx
        clear hx
        cases hc : lineB x
        · have hm : Hid (bodyB xs = false) := Lib.hid (bodyB_miss HX.out hc)
          have HC := Lib.hid hc
          clear hc
          go_wp2_with (go_at_call 185; refine (isLine_any x _ hxs).mono ?_; rintro e w1 ⟨rfl, rfl⟩; rw [HC.out])
          go_ret
          exact ⟨ret_bo hm.out.symm, rfl⟩
        · have HC := Lib.hid hc
          clear hc
          go_wp2_with (go_at_call 185; refine (isLine_any x _ hxs).mono ?_; rintro e w1 ⟨rfl, rfl⟩; rw [HC.out])
          go_round
          case rel => exact ⟨k + 1, by omega, by go_num, Lib.hid (list_all_succ HX.out H.out HC.out)⟩
          case measure => simp [intOf]; omega
      · have hm : Hid (bodyB xs = true) := Lib.hid ((bodyB_end (by omega) H.out).trans (decide_eq_true (by omega)))
        go_wp2
        go_ret
        exact ⟨ret_bo hm.out.symm, rfl⟩

/-- szStringS: what is left. -/
def leftB (xs : List ByteArray) (left : Int) : Int := if (xs.length : Int) + sumB xs ≤ left then left - xs.length - sumB xs else -1

theorem ret_in {a b : Int} (h : a = b) : Ending.returned (.int .i64 a) = .returned (.int .i64 b) := by rw [h]

theorem szStringS_any (ao : Option Addr) (cap : Nat) (xs : List ByteArray) (left : Int) (w : World) (hr : StrRow w ao xs) (hl : xs.length ≤ 9223372036854775807) (h0 : 0 ≤ left) (h1 : left ≤ 1048576) (hs : ∀ x ∈ xs, x.size ≤ 9223372036854775807) :
    Calls Tryz.prog 167 #[.slice ao xs.length cap, .int .i64 left] w fun e w' => e = .returned (.int .i64 (leftB xs left)) ∧ w = w' := by
  have HR := Lib.hid hr
  have HS := Lib.hid hs
  clear hr hs
  by_cases hlen : left < xs.length
  · have hm : Hid (leftB xs left = -1) := Lib.hid (by unfold leftB; rw [if_neg (by omega)])
    go_enter Tryz.func167, Tryz.ntmps167
    go_wp2
    go_ret
    exact ⟨ret_in hm.out.symm, rfl⟩
  · go_enter Tryz.func167, Tryz.ntmps167
    go_wp2
    go_loop [1, 5] (fun l i => ∃ (k : Nat) (r : Int), k ≤ xs.length ∧ i = .int .i64 k ∧ l = .int .i64 r ∧ 0 ≤ r ∧ r ≤ 1048576 ∧ Hid (r = left - xs.length - sumB (xs.take k))) (fun _ i => xs.length - (intOf i).toNat)
    case atStart => exact ⟨0, left - xs.length, Nat.zero_le _, rfl, rfl, by omega, by omega, Lib.hid (by simp [sumB])⟩
    case round =>
      obtain ⟨k, r, hk, rfl, rfl, hr0, hr1, H⟩ := hrel
      by_cases hlt : k < xs.length
      · obtain ⟨x, hx⟩ : ∃ x, xs[k]? = some x := ⟨_, List.getElem?_eq_getElem hlt⟩
        obtain ⟨b, off, rfl, hcell⟩ := HR.out k x hx
        have hxs := HS.out x (List.mem_of_getElem? hx)
        have HN : Hid (sumB (xs.take (k + 1)) = sumB (xs.take k) + x.size) := Lib.hid (sumB_snoc hx)
        clear hx
        by_cases hneg : r < x.size
        · have hm : Hid (leftB xs left = -1) := Lib.hid (by have e1 := H.out; have e2 := HN.out; have e3 := sumB_take_le xs (k + 1); unfold leftB; rw [if_neg (by omega)])
          go_wp2
          go_ret
          exact ⟨ret_in hm.out.symm, rfl⟩
        · go_wp2
          go_round
          case rel => exact ⟨k + 1, r - x.size, by omega, by go_num, rfl, by omega, by omega, Lib.hid (by have e1 := H.out; have e2 := HN.out; omega)⟩
          case measure => simp [intOf]; omega
      · have hm : Hid (leftB xs left = r) := Lib.hid (by
          have e1 := H.out
          rw [List.take_of_length_le (by omega)] at e1
          unfold leftB; rw [if_pos (by omega)]; omega)
        go_wp2
        go_ret
        exact ⟨ret_in hm.out.symm, rfl⟩
end Go.Proofs.YtcaknjdolfheaaaGreatDoor
namespace Go.Proofs.YtcaknjdolfheaaaGreatDoor
open Go Go.RowKit

theorem infoS : (Tryz.prog.info? 9).map (fun i => (i.zero, i.size, i.bytes)) = some (some (.string ByteArray.empty), 1, 16) := by kernel_rfl

/-- A new row of the strings xs, made by the call; what lay below is as it was. -/
def RowsPost (w : World) (xs : List ByteArray) (e : Ending) (w' : World) : Prop :=
  ∃ ao cap, e = .returned (.slice ao xs.length cap) ∧ w'.ownsRow w.heap.size 9 1 (.slice ao xs.length cap) xs.length (xs.map Value.string) ∧ Below w.heap.size w w'

def rowCells (xs : List ByteArray) (k : Nat) : List Value := (xs.take k).map Value.string ++ List.replicate (xs.length - k) (.string ByteArray.empty)
theorem rowCells_zero (xs : List ByteArray) : rowCells xs 0 = List.replicate xs.length (.string ByteArray.empty) := by simp [rowCells]
theorem rowCells_end (xs : List ByteArray) : rowCells xs xs.length = xs.map Value.string := by simp [rowCells]
theorem rowCells_get (xs : List ByteArray) (k : Nat) (hk : k < xs.length) : (rowCells xs k)[k]? = some (.string ByteArray.empty) := by
  unfold rowCells
  rw [List.getElem?_append_right (by simp; omega)]
  simp [List.getElem?_replicate]; omega
theorem rowCells_set (xs : List ByteArray) (k : Nat) (x : ByteArray) (hx : xs[k]? = some x) : (rowCells xs k).set k (.string x) = rowCells xs (k + 1) := by
  obtain ⟨hk, e⟩ := List.getElem?_eq_some_iff.1 hx
  have hr : xs.length - k = (xs.length - (k + 1)) + 1 := by omega
  unfold rowCells
  rw [hr, List.replicate_succ, List.take_succ_eq_append_getElem hk, List.map_append, e]
  rw [List.set_append_right _ _ (by simp; omega), List.append_assoc]
  congr 1
  rw [List.length_map, List.length_take, show k - min k xs.length = 0 by omega]
  rfl

theorem toStringS_any (ao : Option Addr) (cap : Nat) (xs : List ByteArray) (w : World) (hr : StrRow w ao xs) (hl : xs.length ≤ 1048576) :
    Calls Tryz.prog 170 #[.slice ao xs.length cap] w (RowsPost w xs) := by
  obtain ⟨i0, hi, hz0, hz1, hz2⟩ := info_parts infoS
  have HR := Lib.hid hr
  clear hr
  go_enter Tryz.func170, Tryz.ntmps170
  go_wp2_with (at_make; refine wpList_make_full _ rfl _ _ 29 rfl w.heap.size 9 i0 (.string ByteArray.empty) 1 Tryz.underlying29 hi hz0 hz1 .i64 .i64 xs.length xs.length xs.length rfl rfl rfl rfl ?b2 ?b3 ?b4 ?_)
  case b2 => rw [hz2]; omega
  case b3 => unfold maxLen; omega
  case b4 => exact Nat.le_refl _
  intro w1 hown1 hgrow1
  have hb1 : Below w.heap.size w w1 := (Below.refl _ _).grown hgrow1 (Nat.le_refl _) (fun k e => by cases e)
  have hown : w1.ownsRow w.heap.size 9 1 (.slice (some ⟨w.heap.size, 0, none⟩) xs.length xs.length) xs.length (rowCells xs 0) := by
    rw [rowCells_zero, ← toList_madeCells_one (.string ByteArray.empty) xs.length]
    exact hown1
  clear hown1 hgrow1
  go_wp2
  go_loopw [4] (fun i wr => ∃ k : Nat, k ≤ xs.length ∧ i = .int .i64 k ∧ wr.ownsRow w.heap.size 9 1 (.slice (some ⟨w.heap.size, 0, none⟩) xs.length xs.length) xs.length (rowCells xs k) ∧ Below w.heap.size w wr) (fun i _ => xs.length - (intOf i).toNat)
  case atStart => exact ⟨0, Nat.zero_le _, rfl, hown, hb1⟩
  case round =>
    obtain ⟨k, hk, rfl, ho, hb⟩ := hrel
    clear hown hb1
    by_cases hlt : k < xs.length
    · obtain ⟨x, hx⟩ : ∃ x, xs[k]? = some x := ⟨_, List.getElem?_eq_getElem hlt⟩
      obtain ⟨b, off, rfl, hcell⟩ := (HR.out.below hb (Nat.le_refl _)) k x hx
      have hc2 : wr.cell? ⟨w.heap.size, k, none⟩ = some (.string ByteArray.empty) := (ho.cellAt k (by omega)).trans (rowCells_get xs k hlt)
      have hf2 := ho.frozenAt k
      have hs := ho.stored k (.string x)
      have ho' := hs.1
      rw [rowCells_set xs k x hx] at ho'
      have hb' := hb.setCell (p := ⟨w.heap.size, k, none⟩) (Nat.le_refl _) (.string x)
      clear hx hs ho
      go_wp2
      go_roundw
      case rel => exact ⟨k + 1, by omega, by go_num, ho', hb'⟩
      case measure => simp [intOf]; omega
    · obtain rfl : k = xs.length := by omega
      rw [rowCells_end] at ho
      go_wp2
      go_ret
      exact ⟨_, _, rfl, ho, hb⟩

theorem eqStringS_same (ao bo : Option Addr) (c1 c2 : Nat) (xs : List ByteArray) (w : World) (ha : StrRow w ao xs) (hb : StrRow w bo xs) (hl : xs.length ≤ 1048576) :
    Calls Tryz.prog 160 #[.slice ao xs.length c1, .slice bo xs.length c2] w fun e w' => e = .returned (.bool true) ∧ ∃ n, w' = w.drewN n := by
  have HA := Lib.hid ha
  have HB := Lib.hid hb
  clear ha hb
  go_enter Tryz.func160, Tryz.ntmps160
  go_wp2
  go_loopw [5] (fun i wr => ∃ k n : Nat, k ≤ xs.length ∧ i = .int .i64 k ∧ wr = w.drewN n) (fun i _ => xs.length - (intOf i).toNat)
  case atStart => exact ⟨0, 0, Nat.zero_le _, rfl, rfl⟩
  case round =>
    obtain ⟨k, n, hk, rfl, rfl⟩ := hrel
    by_cases hlt : k < xs.length
    · obtain ⟨x, hx⟩ : ∃ x, xs[k]? = some x := ⟨_, List.getElem?_eq_getElem hlt⟩
      obtain ⟨b, off, rfl, hcell⟩ := HA.out k x hx
      obtain ⟨b', off', rfl, hcell'⟩ := HB.out k x hx
      clear hx
      go_wp2
      go_quiet (fail)
      go_wp2
      exact ⟨⟨k + 1, n + nq, by omega, by go_num, rfl⟩, by simp [intOf]; omega⟩
    · go_wp2
      go_ret
      exact ⟨rfl, n, rfl⟩
end Go.Proofs.YtcaknjdolfheaaaGreatDoor
namespace Go.Proofs.YtcaknjdolfheaaaGreatDoor
open Go Go.RowKit

theorem leftB_small {xs : List ByteArray} (h : ¬ leftB xs 1048576 < 0) : xs.length ≤ 1048576 ∧ ∀ x ∈ xs, x.size ≤ 1048576 := by
  unfold leftB at h
  split at h
  · refine ⟨by omega, fun x hx => ?_⟩
    have := sumB_mem hx
    omega
  · exact absurd (show (-1 : Int) < 0 by decide) h

theorem drewN_below {B : Nat} {a w : World} (h : Below B a w) : ∀ n, Below B a (w.drewN n)
  | 0 => h
  | n + 1 => (drewN_below h n).drew

end Go.Proofs.YtcaknjdolfheaaaGreatDoor
namespace Go.Proofs.YtcaknjdolfheaaaGreatDoor
open Go Go.RowKit

def dig (q : Nat) : ByteArray := ⟨#[UInt8.ofNat (48 + q % 10)]⟩
def digs : Nat → Nat → ByteArray → ByteArray
  | 0, _, o => o
  | f + 1, q, o => if q = 0 then o else digs f (q / 10) (dig q ++ o)
def markT (k : Nat) : ByteArray := if k = 0 then { data := #[109, 48] } else { data := #[109] } ++ digs k k { data := #[] }
theorem digs_zero (f : Nat) (o : ByteArray) : digs f 0 o = o := by cases f <;> rfl
theorem digs_step {f q : Nat} (o : ByteArray) (h : 0 < q) (hf : q ≤ f) : ∃ f', f = f' + 1 ∧ q / 10 ≤ f' ∧ digs f q o = digs f' (q / 10) (dig q ++ o) := by
  cases f with
  | zero => omega
  | succ f =>
    refine ⟨f, rfl, by omega, ?_⟩
    rw [digs, if_neg (by omega)]
theorem dig_conv (q : Nat) (w : World) : (convert 22 9 (.slice (some ⟨w.heap.size, 0, none⟩) 1 1)).run Tryz.prog (w.alloc (.cells #[.int .u8 (48 + (q : Int) % 10)] 5)) = .ok (.string (dig q)) (w.alloc (.cells #[.int .u8 (48 + (q : Int) % 10)] 5)) := by
  refine run_convert_bytes_back (P := Tryz.prog) _ _ _ _ ⟨w.heap.size, 0, none⟩ 1 [UInt8.ofNat (48 + q % 10)] Tryz.underlying22 Tryz.underlying5 Tryz.underlying9 ?_
  intro j hj
  obtain rfl : j = 0 := by simpa using hj
  have e : ((UInt8.ofNat (48 + q % 10)).toNat : Int) = 48 + (q : Int) % 10 := by
    rw [UInt8.toNat_ofNat_of_lt' (by simp [UInt8.size]; omega)]; omega
  show _ = some (Value.int .u8 ((UInt8.ofNat (48 + q % 10)).toNat : Int))
  rw [e, show ((⟨w.heap.size, 0, none⟩ : Addr).add 0) = ⟨w.heap.size, 0, none⟩ from rfl, World.cell?_alloc_at _ _ _ _ rfl]
  rfl

theorem ret_sm {a b : ByteArray} (h : a = b) : Ending.returned (.string a) = .returned (.string b) := by rw [h]
theorem ret_im {a b : Int} (h : a = b) : Ending.returned (.int .i64 a) = .returned (.int .i64 b) := by rw [h]

set_option maxHeartbeats 400000 in
theorem markText_any (k : Nat) (hk : k ≤ 16777216) (w : World) :
    Calls Tryz.prog 172 #[.int .i64 k] w fun e w' => e = .returned (.string (markT k)) ∧ Below w.heap.size w w' := by
  by_cases h0 : k = 0
  · subst h0
    go_enter Tryz.func172, Tryz.ntmps172
    go_wp2
    go_ret
    exact ⟨rfl, Below.refl _ _⟩
  · have hm : Hid (markT k = { data := #[109] } ++ digs k k { data := #[] }) := Lib.hid (by unfold markT; rw [if_neg h0])
    have hb0 : decide ((k : Int) ≤ 0) = false := decide_eq_false (by omega)
    have hb1 : decide (k = 0) = false := decide_eq_false h0
    clear h0
    go_enter Tryz.func172, Tryz.ntmps172
    go_wp2
    go_loopw [0, 3] (fun v o wr => ∃ (q f : Nat) (s : ByteArray), v = .int .i64 q ∧ o = .string s ∧ s.size + q ≤ k ∧ q ≤ f ∧ Hid (digs f q s = digs k k { data := #[] }) ∧ Below w.heap.size w wr) (fun v _ _ => (intOf v).toNat)
    case atStart => exact ⟨k, k, { data := #[] }, rfl, rfl, by show 0 + k ≤ k; omega, Nat.le_refl _, Lib.hid rfl, Below.refl _ _⟩
    case round =>
      obtain ⟨q, f, s, rfl, rfl, hs, hf, H, hb⟩ := hrel
      have hsz := hb.size
      by_cases hlt : 0 < q
      · have hconv := dig_conv q wr
        obtain ⟨f', rfl, hf', hst⟩ := digs_step s hlt hf
        have HN : Hid (digs f' (q / 10) (dig q ++ s) = digs k k { data := #[] }) := Lib.hid (hst.symm.trans H.out)
        clear hst H
        have hds : (dig q).size = 1 := rfl
        have HDS := Lib.hid hds
        have hdl : (dig q).size ≤ 1 := by omega
        clear hds
        go_wp2
        go_roundw
        case rel => exact ⟨q / 10, f', dig q ++ s, by go_num, rfl, by rw [ByteArray.size_append, HDS.out]; omega, by omega, HN, hb.alloc (by omega) _⟩
        case measure => simp [intOf]; omega
      · obtain rfl : q = 0 := by omega
        have HE : Hid (s = digs k k { data := #[] }) := Lib.hid ((digs_zero f s).symm.trans H.out)
        go_wp2
        go_ret
        exact ⟨ret_sm (by rw [hm.out, ← HE.out]), hb⟩

/-- The row of the marks from k on. -/
def markRow (k n : Nat) : List ByteArray := (List.range n).map fun i => markT (k + i)
theorem markRow_length (k n : Nat) : (markRow k n).length = n := by simp [markRow]
theorem markRow_get (k n i : Nat) (h : i < n) : (markRow k n)[i]? = some (markT (k + i)) := by simp [markRow, h]

def markCells (k i : Nat) (xs : List ByteArray) : List Value := (markRow k i).map Value.string ++ (xs.drop i).map Value.string
theorem markCells_zero (k : Nat) (xs : List ByteArray) : markCells k 0 xs = xs.map Value.string := by simp [markCells, markRow]
theorem markCells_get (k i : Nat) (xs : List ByteArray) (h : i < xs.length) : ∃ y, (markCells k i xs)[i]? = some (.string y) := by
  unfold markCells
  rw [List.getElem?_append_right (by simp [markRow])]
  simp [markRow, h]
theorem markCells_set (k i : Nat) (xs : List ByteArray) (h : i < xs.length) : (markCells k i xs).set i (.string (markT (k + i))) = markCells k (i + 1) xs := by
  unfold markCells
  rw [List.set_append_right _ _ (by simp [markRow]), List.length_map, markRow_length, Nat.sub_self, List.drop_eq_getElem_cons h]
  rw [List.map_cons, List.set_cons_zero]
  simp [markRow, List.range_succ]
theorem markCells_end (k : Nat) (xs : List ByteArray) : markCells k xs.length xs = (markRow k xs.length).map Value.string := by simp [markCells]

theorem own_later {w w' : World} {B : Nat} {e : TypeId} {size : Nat} {v : Value} {n : Nat} {xs : List Value} (h : w.ownsRow B e size v n xs) (hb : Below w.heap.size w w') : w'.ownsRow B e size v n xs :=
  h.kept (row := none) ⟨hb.os, hb.tape, hb.output, hb.size, fun k hk _ => hb.block k hk⟩ (by cases hv : v.ownBlock <;> simp)

set_option maxHeartbeats 400000 in
/-- markStringS writes the marks into a row of the call's own; nothing below it turns. -/
theorem markStringS_any (B g cap k : Nat) (xs : List ByteArray) (w : World) (ho : w.ownsRow B 9 1 (.slice (some ⟨g, 0, none⟩) xs.length cap) xs.length (xs.map Value.string)) (hB : B ≤ w.heap.size) (hl : k + xs.length ≤ 16777216) :
    Calls Tryz.prog 162 #[.slice (some ⟨g, 0, none⟩) xs.length cap, .int .i64 k] w fun e w' => e = .returned (.int .i64 ((k + xs.length : Nat) : Int)) ∧
      w'.ownsRow B 9 1 (.slice (some ⟨g, 0, none⟩) xs.length cap) xs.length ((markRow k xs.length).map Value.string) ∧ Below B w w' ∧ ∀ b < w.heap.size, b ≠ g → w'.heap[b]? = w.heap[b]? := by
  go_enter Tryz.func162, Tryz.ntmps162
  go_wp2
  go_loopw [1, 5] (fun c i wr => ∃ n : Nat, n ≤ xs.length ∧ i = .int .i64 n ∧ c = .int .i64 ((k + n : Nat) : Int) ∧ wr.ownsRow B 9 1 (.slice (some ⟨g, 0, none⟩) xs.length cap) xs.length (markCells k n xs) ∧ Below B w wr ∧ Hid (∀ b < w.heap.size, b ≠ g → wr.heap[b]? = w.heap[b]?)) (fun _ i _ => xs.length - (intOf i).toNat)
  case atStart => exact ⟨0, Nat.zero_le _, rfl, rfl, by rw [markCells_zero]; exact ho, Below.refl _ _, Lib.hid fun _ _ _ => rfl⟩
  case round =>
    obtain ⟨n, hn, rfl, rfl, hor, hb, HK⟩ := hrel
    clear ho
    have hsz := hb.size
    have hg := hor.lt g rfl
    by_cases hlt : n < xs.length
    · go_wp2_with (go_at_call 172; refine (markText_any (k + n) (by omega) _).mono ?_)
      rintro e w1 ⟨rfl, hb1⟩
      have ho1 := own_later hor hb1
      obtain ⟨y, hy⟩ := markCells_get k n xs hlt
      have hc2 : w1.cell? ⟨g, n, none⟩ = some (.string y) := (ho1.cellAt n (by omega)).trans hy
      have hf2 := ho1.frozenAt n
      have hs := (ho1.stored n (.string (markT (k + n)))).1
      rw [markCells_set k n xs hlt] at hs
      have HB := Lib.hid ((hb.trans (hb1.mono (Nat.le_trans hB hsz))).setCell (p := ⟨g, n, none⟩) hg.1 (.string (markT (k + n))))
      have HK2 : Hid (∀ b < w.heap.size, b ≠ g → (w1.setCell ⟨g, n, none⟩ (.string (markT (k + n)))).heap[b]? = w.heap[b]?) := Lib.hid fun b hb2 hne => by
        rw [Below.heap_setCell _ _ _ _ (by simpa using hne), hb1.block b (by omega), HK.out b hb2 hne]
      clear hy ho1 hor hb1 hb HK
      go_wp2
      go_roundw
      case rel => exact ⟨n + 1, by omega, by go_num, by go_num, hs, HB.out, HK2⟩
      case measure => simp [intOf]; omega
    · obtain rfl : n = xs.length := by omega
      rw [markCells_end] at hor
      go_wp2
      go_ret
      exact ⟨rfl, hor, hb, HK.out⟩

theorem held_keep {a : Addr} {v : Value} {B : Nat} {w0 w1 w2 : World} (h : w1.cell? a = some v) (hB : Below B w0 w1) (hBs : B ≤ w0.heap.size) (hb : Below w1.heap.size w1 w2) : w2.cell? a = some v ∧ Below B w0 w2 :=
  ⟨(hb.cell (World.block_lt_of_cell? w1 _ h)).trans h, hB.trans (hb.mono (Nat.le_trans hBs hB.size))⟩

set_option maxHeartbeats 800000 in
set_option maxRecDepth 100000 in
/-- heldStringS finds the marks in a row that holds them. -/
theorem heldStringS_any (ao : Option Addr) (cap k N : Nat) (w : World) (hr : StrRow w ao (markRow k N)) (hl : k + N ≤ 16777216) :
    Calls Tryz.prog 164 #[.slice ao (markRow k N).length cap, .int .i64 k] w fun e w' => e = .returned (.int .i64 ((k + N : Nat) : Int)) ∧ Below w.heap.size w w' := by
  have HR := Lib.hid hr
  have hN := markRow_length k N
  rw [hN]
  clear hr hN
  go_enter Tryz.func164, Tryz.ntmps164
  go_wp2
  go_loopw [1, 5] (fun c i wr => ∃ n : Nat, n ≤ N ∧ i = .int .i64 n ∧ c = .int .i64 ((k + n : Nat) : Int) ∧ Below w.heap.size w wr) (fun _ i _ => N - (intOf i).toNat)
  case atStart => exact ⟨0, Nat.zero_le _, rfl, rfl, Below.refl _ _⟩
  case round =>
    obtain ⟨n, hn, rfl, rfl, hb⟩ := hrel
    have hsz := hb.size
    by_cases hlt : n < N
    · obtain ⟨b, off, rfl, hcell⟩ := (HR.out.below hb (Nat.le_refl _)) n _ (markRow_get k N n hlt)
      have hrefl : Below wr.heap.size wr wr := Below.refl _ _
      have hkn : k + n ≤ 16777216 := by omega
      go_wp2_with fail
      go_region_held3 (fun w' => w'.cell? ⟨b, off + n, none⟩ = some (.string (markT (k + n))) ∧ Below wr.heap.size wr w') (first | exact ⟨hcell, hrefl.drew⟩ | (go_split_ands; exact held_keep (by assumption) (by assumption) (Nat.le_refl _) hb1) | (go_split_ands; exact ⟨by assumption, Below.drew (by assumption)⟩) | (go_split_ands; exact ⟨by assumption, by assumption⟩)) (first | (go_at_call 172; refine (markText_any (k + n) hkn _).mono ?_; rintro e w1 ⟨rfl, hb1⟩))
      go_split_ands
      clear hrefl
      have hbx := (by assumption : Below wr.heap.size wr _)
      go_wp2
      go_roundw
      case rel => exact ⟨n + 1, by omega, by go_num, by go_num, hb.trans (hbx.mono hsz)⟩
      case measure => simp [intOf]; omega
    · obtain rfl : n = N := by omega
      go_wp2
      go_ret
      exact ⟨rfl, hb⟩

/-- markStringS, whatever the row: what is written is the row alone. -/
theorem markStringS_row (B cap k : Nat) (ao : Option Addr) (xs : List ByteArray) (w : World) (ho : w.ownsRow B 9 1 (.slice ao xs.length cap) xs.length (xs.map Value.string)) (hB : B ≤ w.heap.size) (hl : k + xs.length ≤ 16777216) :
    Calls Tryz.prog 162 #[.slice ao xs.length cap, .int .i64 k] w fun e w' => e = .returned (.int .i64 ((k + xs.length : Nat) : Int)) ∧
      w'.ownsRow B 9 1 (.slice ao xs.length cap) xs.length ((markRow k xs.length).map Value.string) ∧ w.grownBy w' (Value.slice ao xs.length cap).ownBlock := by
  rcases ho.2 with ⟨hv, hn⟩ | ⟨g, cap', cur, hv, _⟩
  · obtain rfl : xs = [] := List.length_eq_zero_iff.1 hn
    simp only [Value.slice.injEq] at hv
    obtain ⟨rfl, _, rfl⟩ := hv
    clear ho
    go_enter Tryz.func162, Tryz.ntmps162
    go_wp2
    refine wp_loop_rounds 1 ?_
    rw [rounds_succ]
    go_wp2
    go_ret
    exact ⟨by simp, World.ownsRow_nil _ _ _ _, World.grownBy.refl _ _⟩
  · simp only [Value.slice.injEq, true_and] at hv
    obtain ⟨rfl, rfl⟩ := hv
    refine (markStringS_any B g cap k xs w ho hB hl).mono ?_
    rintro e w' ⟨rfl, h1, h2, h3⟩
    refine ⟨rfl, h1, h2.os, h2.tape, h2.output, ?_, fun b hb hne => h3 b hb (fun e => hne (by rw [e]; rfl))⟩
    exact h2.size
end Go.Proofs.YtcaknjdolfheaaaGreatDoor
namespace Go.Proofs.YtcaknjdolfheaaaGreatDoor
open Go Go.RowKit

/-- THE ROW '.slice ao xs.length cap' HOLDS xs, a row of the call's own from block B on. -/
def Row (w : World) (B : Nat) (ao : Option Addr) (cap : Nat) (xs : List ByteArray) : Prop := w.ownsRow B 9 1 (.slice ao xs.length cap) xs.length (xs.map Value.string)

theorem Row.strs {w : World} {B : Nat} {ao : Option Addr} {cap : Nat} {xs : List ByteArray} (h : Row w B ao cap xs) : StrRow w ao xs := StrRow.of_own h
theorem Row.later {w w' : World} {B : Nat} {ao : Option Addr} {cap : Nat} {xs : List ByteArray} (h : Row w B ao cap xs) (hb : Below w.heap.size w w') : Row w' B ao cap xs := own_later h hb
def blockOf : Option Addr → Option Nat
  | some a => some a.block
  | none => none
theorem own_block (ao : Option Addr) (n cap : Nat) : (Value.slice ao n cap).ownBlock = blockOf ao := by cases ao <;> rfl
theorem Row.lt {w : World} {B : Nat} {ao : Option Addr} {cap : Nat} {xs : List ByteArray} (h : Row w B ao cap xs) {k : Nat} (hk : blockOf ao = some k) : B ≤ k ∧ k < w.heap.size :=
  World.ownsRow.lt h k (by rw [own_block]; exact hk)
/-- Behind a write to another row. -/
theorem Row.other {w w' : World} {B : Nat} {ao bo : Option Addr} {cap : Nat} {xs : List ByteArray} (h : Row w B ao cap xs) (hg : w.grownBy w' (blockOf bo)) (hne : blockOf ao = none ∨ blockOf ao ≠ blockOf bo) : Row w' B ao cap xs :=
  World.ownsRow.kept h hg (by rw [own_block]; exact hne)
/-- Two rows, the one made before the other. -/
theorem Row.ne {wA wB : World} {B1 B2 : Nat} {ao bo : Option Addr} {c1 c2 : Nat} {xs ys : List ByteArray} (h1 : Row wA B1 ao c1 xs) (h2 : Row wB B2 bo c2 ys) (hs : wA.heap.size ≤ B2) : (blockOf ao = none ∨ blockOf ao ≠ blockOf bo) ∧ (blockOf bo = none ∨ blockOf bo ≠ blockOf ao) := by
  have key : ∀ k, blockOf ao = some k → blockOf bo = some k → False := fun k e1 e2 => by
    have := (h1.lt e1).2
    have := (h2.lt e2).1
    omega
  constructor
  · cases e : blockOf ao with
    | none => exact .inl rfl
    | some k => exact .inr fun e2 => key k e e2.symm
  · cases e : blockOf bo with
    | none => exact .inl rfl
    | some k => exact .inr fun e2 => key k e2.symm e
theorem below_drewN (B : Nat) (w : World) (n : Nat) : Below B w (w.drewN n) := drewN_below (Below.refl B w) n
theorem below_grown {w w' : World} {B C : Nat} {ao : Option Addr} {cap : Nat} {xs : List ByteArray} (h : Row w B ao cap xs) (hg : w.grownBy w' (blockOf ao)) (hC : C ≤ B) (hw : C ≤ w.heap.size) : Below C w w' :=
  (Below.refl C w).grown hg hw fun _ hk => Nat.le_trans hC (h.lt hk).1
theorem drewN_size (w : World) (n : Nat) : (w.drewN n).heap.size = w.heap.size :=
  Nat.le_antisymm (by induction n generalizing w with | zero => exact Nat.le_refl _ | succ n ih => exact Nat.le_trans (ih _) (Nat.le_refl _)) (below_drewN 0 w n).size

theorem toStringS_row (ao : Option Addr) (cap : Nat) (xs : List ByteArray) (w : World) (hr : StrRow w ao xs) (hl : xs.length ≤ 1048576) :
    Calls Tryz.prog 170 #[.slice ao xs.length cap] w fun e w' => ∃ bo c, e = .returned (.slice bo xs.length c) ∧ Row w' w.heap.size bo c xs ∧ Below w.heap.size w w' :=
  toStringS_any ao cap xs w hr hl
theorem markStringS_own (B cap k : Nat) (ao : Option Addr) (xs : List ByteArray) (w : World) (ho : Row w B ao cap xs) (hB : B ≤ w.heap.size) (hl : k + xs.length ≤ 16777216) :
    Calls Tryz.prog 162 #[.slice ao xs.length cap, .int .i64 k] w fun e w' => e = .returned (.int .i64 ((k + xs.length : Nat) : Int)) ∧
      Row w' B ao cap (markRow k xs.length) ∧ w.grownBy w' (blockOf ao) := by
  have := markStringS_row B cap k ao xs w ho hB hl
  rw [own_block] at this
  unfold Row
  rw [markRow_length]
  exact this
theorem heldStringS_own (ao : Option Addr) (cap k N : Nat) (w : World) (hr : StrRow w ao (markRow k N)) (hl : k + N ≤ 16777216) :
    Calls Tryz.prog 164 #[.slice ao N cap, .int .i64 k] w fun e w' => e = .returned (.int .i64 ((k + N : Nat) : Int)) ∧ Below w.heap.size w w' := by
  have := heldStringS_any ao cap k N w hr hl
  rwa [markRow_length] at this
end Go.Proofs.YtcaknjdolfheaaaGreatDoor
namespace Go.Proofs.YtcaknjdolfheaaaGreatDoor
open Go Go.RowKit

/-- Block k holds xs, and may be written. -/
structure CellsM (w : World) (k : Nat) (xs : List Value) : Prop where
  c : ∀ (j : Nat) (v : Value), xs[j]? = some v → w.cell? ⟨k, j, none⟩ = some v
  f : ∀ (j : Nat), j < xs.length → w.frozen? ⟨k, j, none⟩ = false
  lt : k < w.heap.size
theorem CellsM.new (w : World) (cs : Array Value) (t : TypeId) : CellsM (w.alloc (.cells cs t)) w.heap.size cs.toList :=
  ⟨fun j v h => by rw [World.cell?_alloc_new, ← Array.getElem?_toList]; exact h, fun j _ => by simp [go_sem], by simp⟩
theorem CellsM.later {w w' : World} {k : Nat} {xs : List Value} (h : CellsM w k xs) (hb : Below w.heap.size w w') : CellsM w' k xs :=
  ⟨fun j v e => (hb.cell (p := ⟨k, j, none⟩) h.lt).trans (h.c j v e), fun j e => (hb.frozen (p := ⟨k, j, none⟩) h.lt).trans (h.f j e), Nat.lt_of_lt_of_le h.lt hb.size⟩
theorem CellsM.more {w : World} {k : Nat} {xs : List Value} (h : CellsM w k xs) (o : Obj) : CellsM (w.alloc o) k xs := h.later ((Below.refl _ _).alloc (Nat.le_refl _) o)
theorem CellsM.kept {w w' : World} {r : Option Nat} {k : Nat} {xs : List Value} (h : CellsM w k xs) (hg : w.grownBy w' r) (hne : r ≠ some k) : CellsM w' k xs :=
  have hk := hg.block k h.lt (fun e => hne e.symm)
  ⟨fun j v e => (World.cell?_of_block (a := ⟨k, j, none⟩) hk).trans (h.c j v e), fun j e => (World.frozen?_of_block (a := ⟨k, j, none⟩) hk).trans (h.f j e), Nat.lt_of_lt_of_le h.lt hg.size⟩
theorem CellsM.far {w : World} {k k' j : Nat} {xs : List Value} (h : CellsM w k xs) (v : Value) (hne : k' ≠ k) : CellsM (w.setCell ⟨k', j, none⟩ v) k xs :=
  ⟨fun i u e => (World.cell?_setCell_other _ _ _ _ (fun q => hne (congrArg Addr.block q))).trans (h.c i u e), fun i e => by simpa using h.f i e, by simpa using h.lt⟩
theorem CellsM.set {w : World} {k : Nat} {xs : List Value} (h : CellsM w k xs) (j : Nat) (v : Value) (hj : j < xs.length) : CellsM (w.setCell ⟨k, j, none⟩ v) k (xs.set j v) := by
  obtain ⟨x, hx⟩ : ∃ x, xs[j]? = some x := ⟨_, List.getElem?_eq_getElem hj⟩
  refine ⟨fun i u e => ?_, fun i e => by simpa using h.f i (by simpa using e), by simpa using h.lt⟩
  by_cases hij : i = j
  · subst hij
    rw [List.getElem?_set_self hj] at e
    rw [← Option.some.inj e]
    exact World.cell?_setCell_same _ _ _ (h.c i x hx)
  · rw [List.getElem?_set_ne (Ne.symm hij)] at e
    exact (World.cell?_setCell_other _ _ _ _ (fun q => hij (congrArg Addr.off q).symm)).trans (h.c i u e)
end Go.Proofs.YtcaknjdolfheaaaGreatDoor
namespace Go.Proofs.YtcaknjdolfheaaaGreatDoor
open Go Go.RowKit

/-- A fact that neither the walk nor a unification looks into. -/
structure Seal (p : Prop) : Prop where
  out : p

/-- Only blocks of S are written, or new ones. -/
structure Only (S : Nat → Prop) (w w' : World) : Prop where
  os : w'.os = w.os
  tape : w'.tape = w.tape
  output : w'.output = w.output
  size : w.heap.size ≤ w'.heap.size
  block : ∀ i, i < w.heap.size → ¬ S i → w'.heap[i]? = w.heap[i]?
theorem Only.of_below {S : Nat → Prop} {w w' : World} (h : Below w.heap.size w w') : Only S w w' := ⟨h.os, h.tape, h.output, h.size, fun i hi _ => h.block i hi⟩
theorem Only.of_grown {S : Nat → Prop} {w w' : World} {r : Option Nat} (h : w.grownBy w' r) (hS : ∀ g, r = some g → S g) : Only S w w' :=
  ⟨h.os, h.tape, h.output, h.size, fun i hi hn => h.block i hi fun e => hn (hS i e.symm)⟩
theorem Only.trans {S : Nat → Prop} {a b c : World} (h : Only S a b) (k : Only S b c) : Only S a c :=
  ⟨k.os.trans h.os, k.tape.trans h.tape, k.output.trans h.output, Nat.le_trans h.size k.size, fun i hi hn => (k.block i (Nat.lt_of_lt_of_le hi h.size) hn).trans (h.block i hi hn)⟩
theorem Only.mono {S T : Nat → Prop} {w w' : World} (h : Only S w w') (hS : ∀ i, S i → T i) : Only T w w' := ⟨h.os, h.tape, h.output, h.size, fun i hi hn => h.block i hi fun e => hn (hS i e)⟩
theorem Only.set (w : World) (k j : Nat) (v : Value) : Only (fun i => i = k) w (w.setCell ⟨k, j, none⟩ v) :=
  ⟨rfl, rfl, rfl, by simp, fun i _ hn => Below.heap_setCell w ⟨k, j, none⟩ v i hn⟩
theorem Only.below {S : Nat → Prop} {w0 w w' : World} {B : Nat} (h : Only S w w') (hb : Below B w0 w) (hB : B ≤ w.heap.size) (hS : ∀ i, S i → B ≤ i) : Below B w0 w' :=
  hb.trans ⟨h.os, h.tape, h.output, h.size, fun k hk => h.block k (by omega) fun e => by have := hS k e; omega⟩

/-- A part of memory: what is said of it, and of which blocks. -/
structure Res where
  P : World → Prop
  S : Nat → Prop
  loc : ∀ w w', P w → w.heap.size ≤ w'.heap.size → (∀ i, S i → w'.heap[i]? = w.heap[i]?) → P w'

/-- A block of cells. -/
def Res.cells (k : Nat) (xs : List Value) : Res where
  P w := CellsM w k xs
  S i := i = k
  loc w w' h hs hb := by
    have hk := hb k rfl
    exact ⟨fun j v e => (World.cell?_of_block (a := ⟨k, j, none⟩) hk).trans (h.c j v e), fun j e => (World.frozen?_of_block (a := ⟨k, j, none⟩) hk).trans (h.f j e), Nat.lt_of_lt_of_le h.lt hs⟩
theorem row_zero {w : World} {B : Nat} {e : TypeId} {size : Nat} {v : Value} {n : Nat} {xs : List Value} (h : w.ownsRow B e size v n xs) : w.ownsRow 0 e size v n xs := by
  refine ⟨h.1, ?_⟩
  rcases h.2 with hn | ⟨g, cap, cur, hv, hb, rest⟩
  · exact .inl hn
  · exact .inr ⟨g, cap, cur, hv, Nat.zero_le _, rest⟩
theorem row_base {w : World} {B B' : Nat} {e : TypeId} {size : Nat} {v : Value} {n : Nat} {xs : List Value} (h : w.ownsRow B e size v n xs) (hB : ∀ g, v.ownBlock = some g → B' ≤ g) : w.ownsRow B' e size v n xs := by
  refine ⟨h.1, ?_⟩
  rcases h.2 with hn | ⟨g, cap, cur, hv, hb, rest⟩
  · exact .inl hn
  · exact .inr ⟨g, cap, cur, hv, hB g (by rw [hv]; rfl), rest⟩
/-- A row. -/
def Res.row (e : TypeId) (size : Nat) (v : Value) (n : Nat) (xs : List Value) : Res where
  P w := w.ownsRow 0 e size v n xs
  S i := v.ownBlock = some i
  loc w w' h hs hb := by
    refine ⟨h.1, ?_⟩
    rcases h.2 with hn | ⟨g, cap, cur, hv, hb', hg, rest⟩
    · exact .inl hn
    · exact .inr ⟨g, cap, cur, hv, hb', (hb g (by rw [hv]; rfl)).trans hg, rest⟩

/-- The call began at w0; these parts lie in its own memory, apart from one another; of what was there only blocks of X are written. -/
structure StX (X : Nat → Prop) (w0 w : World) (l : List Res) : Prop where
  grown : Only X w0 w
  fits : ∀ r ∈ l, r.P w ∧ ∀ i, r.S i → w0.heap.size ≤ i ∧ i < w.heap.size
  apart : l.Pairwise fun a b => ∀ i, a.S i → ¬ b.S i
abbrev St (w0 w : World) (l : List Res) : Prop := StX (fun _ => False) w0 w l
theorem StX.below {w0 w : World} {l : List Res} (h : StX (fun _ => False) w0 w l) : Below w0.heap.size w0 w := ⟨h.grown.os, h.grown.tape, h.grown.output, h.grown.size, fun i hi => h.grown.block i hi fun e => e⟩
theorem Only.refl (X : Nat → Prop) (w : World) : Only X w w := ⟨rfl, rfl, rfl, Nat.le_refl _, fun _ _ _ => rfl⟩
theorem St.start (w : World) : St w w [] := ⟨Only.refl _ w, fun _ h => (List.not_mem_nil h).elim, List.Pairwise.nil⟩
theorem StX.start (X : Nat → Prop) (w : World) : StX X w w [] := ⟨Only.refl _ w, fun _ h => (List.not_mem_nil h).elim, List.Pairwise.nil⟩
section
variable {X : Nat → Prop}
theorem StX.size {w0 w : World} {l : List Res} (h : StX X w0 w l) : w0.heap.size ≤ w.heap.size := h.grown.size
/-- Blocks of X are written, or new ones made. -/
theorem StX.out {w0 w w' : World} {l : List Res} (h : StX X w0 w l) (ho : Only X w w') (hX : ∀ i, X i → i < w0.heap.size) : StX X w0 w' l :=
  ⟨h.grown.trans ho, fun r hr => ⟨r.loc w w' (h.fits r hr).1 ho.size fun i hi => ho.block i ((h.fits r hr).2 i hi).2 fun e => by have := hX i e; have := ((h.fits r hr).2 i hi).1; omega, fun i hi => ⟨((h.fits r hr).2 i hi).1, Nat.lt_of_lt_of_le ((h.fits r hr).2 i hi).2 ho.size⟩⟩, h.apart⟩
theorem StX.later {w0 w w' : World} {l : List Res} (h : StX X w0 w l) (hb : Below w.heap.size w w') : StX X w0 w' l :=
  ⟨h.grown.trans (Only.of_below hb), fun r hr => ⟨r.loc w w' (h.fits r hr).1 hb.size fun i hi => hb.block i ((h.fits r hr).2 i hi).2, fun i hi => ⟨((h.fits r hr).2 i hi).1, Nat.lt_of_lt_of_le ((h.fits r hr).2 i hi).2 hb.size⟩⟩, h.apart⟩
theorem StX.drew {w0 w : World} {l : List Res} (h : StX X w0 w l) : StX X w0 w.drew l := h.later (Below.refl _ _).drew
theorem StX.more {w0 w : World} {l : List Res} (h : StX X w0 w l) (o : Obj) : StX X w0 (w.alloc o) l := h.later ((Below.refl _ _).alloc (Nat.le_refl _) _)
/-- A new part, in blocks that were not there; w' is as w but for new blocks (and those of X). -/
theorem StX.push {w0 w w' : World} {l : List Res} (h : StX X w0 w l) (hl : StX X w0 w' l) (r : Res) (hp : r.P w') (hS : ∀ i, r.S i → w.heap.size ≤ i ∧ i < w'.heap.size) : StX X w0 w' (r :: l) := by
  refine ⟨hl.grown, fun q hq => ?_, .cons (fun q hq i hi hj => ?_) hl.apart⟩
  · rcases List.mem_cons.1 hq with rfl | hq
    · exact ⟨hp, fun i hi => ⟨Nat.le_trans h.size (hS i hi).1, (hS i hi).2⟩⟩
    · exact hl.fits q hq
  · have h1 := (hS i hi).1
    have h2 := ((h.fits q hq).2 i hj).2
    omega
theorem StX.add {w0 w w' : World} {l : List Res} (h : StX X w0 w l) (hb : Below w.heap.size w w') (r : Res) (hp : r.P w') (hS : ∀ i, r.S i → w.heap.size ≤ i ∧ i < w'.heap.size) : StX X w0 w' (r :: l) := h.push (h.later hb) r hp hS
theorem StX.alloc {w0 w : World} {l : List Res} (h : StX X w0 w l) (cs : Array Value) (t : TypeId) : StX X w0 (w.alloc (.cells cs t)) (Res.cells w.heap.size cs.toList :: l) :=
  h.add ((Below.refl _ _).alloc (Nat.le_refl _) _) _ (CellsM.new w cs t) fun i hi => by cases hi; simp
theorem StX.made {w0 w : World} {l : List Res} (h : StX X w0 w l) (e : TypeId) (size : Nat) (cur : Array Value) (cap : Nat) (hm : cap ≤ maxLen) (hs : cur.size = cap * size) :
    StX X w0 (w.alloc (.cells cur e)) (Res.row e size (.slice (some ⟨w.heap.size, 0, none⟩) 0 cap) 0 [] :: l) :=
  h.add ((Below.refl _ _).alloc (Nat.le_refl _) _) _ (World.ownsRow_made w cur cap (Nat.zero_le _) hm hs) fun i hi => by
    have : w.heap.size = i := Option.some.inj hi
    subst this; simp
theorem StX.row {w0 w w' : World} {l : List Res} (h : StX X w0 w l) (hb : Below w.heap.size w w') {e : TypeId} {size : Nat} {v : Value} {n : Nat} {xs : List Value} (ho : w'.ownsRow w.heap.size e size v n xs) : StX X w0 w' (Res.row e size v n xs :: l) :=
  h.add hb _ (row_zero ho) fun i hi => World.ownsRow.lt ho i hi
theorem StX.nothing {w0 w : World} {l : List Res} (h : StX X w0 w l) (e : TypeId) (size : Nat) : StX X w0 w (Res.row e size (.slice none 0 0) 0 [] :: l) :=
  h.add (Below.refl _ _) _ (World.ownsRow_nil _ _ _ _) fun i hi => by cases hi
/-- The first part is written, or laid anew. -/
theorem StX.change {w0 w w' : World} {r : Res} {l : List Res} (h : StX X w0 w (r :: l)) (ho : Only r.S w w') (r' : Res) (hp : r'.P w') (hS : ∀ i, r'.S i → (r.S i ∨ w.heap.size ≤ i) ∧ i < w'.heap.size) : StX X w0 w' (r' :: l) := by
  have hap := List.pairwise_cons.1 h.apart
  have hr := h.fits r List.mem_cons_self
  refine ⟨⟨ho.os.trans h.grown.os, ho.tape.trans h.grown.tape, ho.output.trans h.grown.output, Nat.le_trans h.grown.size ho.size, fun i hi hn => (ho.block i (Nat.lt_of_lt_of_le hi h.grown.size) fun e => by have := (hr.2 i e).1; omega).trans (h.grown.block i hi hn)⟩, fun q hq => ?_, .cons (fun q hq i hi hj => ?_) hap.2⟩
  · rcases List.mem_cons.1 hq with rfl | hq
    · refine ⟨hp, fun i hi => ⟨?_, (hS i hi).2⟩⟩
      rcases (hS i hi).1 with h1 | h1
      · exact (hr.2 i h1).1
      · exact Nat.le_trans h.size h1
    · have hf := h.fits q (List.mem_cons_of_mem _ hq)
      exact ⟨q.loc w w' hf.1 ho.size fun i hi => ho.block i (hf.2 i hi).2 fun e => hap.1 q hq i e hi, fun i hi => ⟨(hf.2 i hi).1, Nat.lt_of_lt_of_le (hf.2 i hi).2 ho.size⟩⟩
  · rcases (hS i hi).1 with h1 | h1
    · exact hap.1 q hq i h1 hj
    · have := ((h.fits q (List.mem_cons_of_mem _ hq)).2 i hj).2
      omega
theorem StX.set {w0 w : World} {k : Nat} {xs : List Value} {l : List Res} (h : StX X w0 w (Res.cells k xs :: l)) (j : Nat) (v : Value) (hj : j < xs.length) : StX X w0 (w.setCell ⟨k, j, none⟩ v) (Res.cells k (xs.set j v) :: l) :=
  h.change (Only.set w k j v) _ ((h.fits _ List.mem_cons_self).1.set j v hj) fun i hi => ⟨.inl hi, by simpa using ((h.fits _ List.mem_cons_self).2 i hi).2⟩
/-- Behind an append to the first part. -/
theorem StX.app {w0 w w' : World} {e : TypeId} {size : Nat} {v v' : Value} {n n' B : Nat} {xs xs' : List Value} {l : List Res} (h : StX X w0 w (Res.row e size v n xs :: l)) (ho : w'.ownsRow B e size v' n' xs') (hg : w.grownBy w' v.ownBlock) (hat : v'.ownBlock = v.ownBlock ∨ v'.ownBlock = some w.heap.size) : StX X w0 w' (Res.row e size v' n' xs' :: l) :=
  h.change (Only.of_grown hg fun _ e => e) _ (row_zero ho) fun i hi => ⟨by
    rcases hat with e | e
    · exact .inl (e.symm.trans hi)
    · exact .inr (Nat.le_of_eq (Option.some.inj (e.symm.trans hi))), (World.ownsRow.lt ho i hi).2⟩
/-- Behind a write to the first part's row. -/
theorem StX.write {w0 w w' : World} {e : TypeId} {size : Nat} {v : Value} {n B : Nat} {xs xs' : List Value} {l : List Res} (h : StX X w0 w (Res.row e size v n xs :: l)) (ho : w'.ownsRow B e size v n xs') (hg : w.grownBy w' v.ownBlock) : StX X w0 w' (Res.row e size v n xs' :: l) := h.app ho hg (.inl rfl)
theorem StX.head {w0 w : World} {r : Res} {l : List Res} (h : StX X w0 w (r :: l)) : r.P w := (h.fits r List.mem_cons_self).1
theorem StX.get {w0 w : World} {l : List Res} (h : StX X w0 w l) {r : Res} (hr : r ∈ l) : r.P w := (h.fits r hr).1
theorem StX.tail {w0 w : World} {r : Res} {l : List Res} (h : StX X w0 w (r :: l)) : StX X w0 w l := ⟨h.grown, fun q hq => h.fits q (List.mem_cons_of_mem _ hq), (List.pairwise_cons.1 h.apart).2⟩
theorem StX.perm {w0 w : World} {l l' : List Res} (h : StX X w0 w l) (hp : l.Perm l') : StX X w0 w l' :=
  ⟨h.grown, fun r hr => h.fits r (hp.mem_iff.2 hr), (hp.pairwise_iff (fun hab i hi hj => hab i hj hi)).1 h.apart⟩
theorem StX.two {w0 w : World} {a b : Res} {l : List Res} (h : StX X w0 w (a :: b :: l)) : StX X w0 w (b :: a :: l) := h.perm (.swap _ _ _)
theorem StX.three {w0 w : World} {a b c : Res} {l : List Res} (h : StX X w0 w (a :: b :: c :: l)) : StX X w0 w (c :: a :: b :: l) := h.perm ((List.Perm.swap c b l).cons a |>.trans (.swap _ _ _))
theorem StX.four {w0 w : World} {a b c d : Res} {l : List Res} (h : StX X w0 w (a :: b :: c :: d :: l)) : StX X w0 w (d :: a :: b :: c :: l) :=
  h.perm ((((List.Perm.swap d c l).cons b).cons a).trans (((List.Perm.swap d b (c :: l)).cons a).trans (.swap _ _ _)))
theorem StX.rowAt {w0 w : World} {e : TypeId} {size : Nat} {v : Value} {n : Nat} {xs : List Value} {l : List Res} (h : StX X w0 w (Res.row e size v n xs :: l)) : w.ownsRow w0.heap.size e size v n xs :=
  row_base h.head fun g hg => ((h.fits _ List.mem_cons_self).2 g hg).1
theorem StX.low {w0 w : World} {r : Res} {l : List Res} (h : StX X w0 w (r :: l)) : ∀ i, r.S i → w0.heap.size ≤ i ∧ i < w.heap.size := (h.fits r List.mem_cons_self).2
theorem StX.away {w0 w : World} {a b : Res} {l : List Res} (h : StX X w0 w (a :: b :: l)) : ∀ i, a.S i → ¬ b.S i := (List.pairwise_cons.1 h.apart).1 b List.mem_cons_self
/-- Two rows' blocks. -/
theorem StX.ne {w0 w : World} {e1 e2 : TypeId} {s1 s2 n1 n2 : Nat} {v1 v2 : Value} {xs1 xs2 : List Value} {l : List Res} (h : StX X w0 w (Res.row e1 s1 v1 n1 xs1 :: Res.row e2 s2 v2 n2 xs2 :: l)) : (v1.ownBlock = none ∨ v1.ownBlock ≠ v2.ownBlock) ∧ (v2.ownBlock = none ∨ v2.ownBlock ≠ v1.ownBlock) := by
  have key : ∀ k, v1.ownBlock = some k → v2.ownBlock = some k → False := fun k e1 e2 => h.away k e1 e2
  constructor
  · cases e : v1.ownBlock with
    | none => exact .inl rfl
    | some k => exact .inr fun e2 => key k e e2.symm
  · cases e : v2.ownBlock with
    | none => exact .inl rfl
    | some k => exact .inr fun e2 => key k e2.symm e
end
end Go.Proofs.YtcaknjdolfheaaaGreatDoor
namespace Go.Proofs.YtcaknjdolfheaaaGreatDoor
open Go Go.RowKit

/-- The slice holds n bytes. -/
def ByteRow (w : World) (ao : Option Addr) (n : Nat) : Prop :=
  ∀ j, j < n → ∃ (b off z : Nat), ao = some ⟨b, off, none⟩ ∧ z ≤ 255 ∧ w.cell? ⟨b, off + j, none⟩ = some (.int .u8 (z : Int))
theorem ByteRow.below {B : Nat} {w w' : World} {ao : Option Addr} {n : Nat} (h : ByteRow w ao n) (hb : Below B w w') (hB : w.heap.size ≤ B) : ByteRow w' ao n := by
  intro k hk
  obtain ⟨b, off, z, e, hz, hc⟩ := h k hk
  have hlt := World.block_lt_of_cell? w _ hc
  exact ⟨b, off, z, e, hz, (hb.cell (p := ⟨b, off + k, none⟩) (Nat.lt_of_lt_of_le hlt hB)).trans hc⟩
theorem ByteRow.lt {w : World} {ao : Option Addr} {n : Nat} (h : ByteRow w ao n) : ∀ a, n ≠ 0 → ao = some a → a.block < w.heap.size := by
  intro a hn e
  obtain ⟨b, off, z, e2, _, hc⟩ := h 0 (by omega)
  rw [e2] at e
  cases e
  exact World.block_lt_of_cell? w _ hc
/-- Behind what is written elsewhere. -/
theorem ByteRow.kept {B : Nat} {w w' : World} {ao : Option Addr} {n : Nat} (h : ByteRow w ao n) (hb : Below B w w') (hB : ∀ a, n ≠ 0 → ao = some a → a.block < B) : ByteRow w' ao n := by
  intro k hk
  obtain ⟨b, off, z, e, hz, hc⟩ := h k hk
  exact ⟨b, off, z, e, hz, (hb.cell (p := ⟨b, off + k, none⟩) (hB ⟨b, off, none⟩ (by omega) e)).trans hc⟩
theorem ByteRow.take {w : World} {ao : Option Addr} {n m : Nat} (h : ByteRow w ao n) (hm : m ≤ n) : ByteRow w ao m := fun j hj => h j (by omega)
end Go.Proofs.YtcaknjdolfheaaaGreatDoor
