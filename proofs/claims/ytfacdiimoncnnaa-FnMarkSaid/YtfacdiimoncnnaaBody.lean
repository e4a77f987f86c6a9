/- Contracts: lines, bodies (slices of strings), their sizes, copies and comparisons: for every slice the answer is the plain one; nothing that was there is written. -/
import Derived.Test.YtfacdiimoncnnaaProg
import Derived.Test.YtfacdiimoncnnaaPlain
import Derived.WalkKit
import Derived.Lib.Hide
import Derived.Outline
import Derived.Maps.AppendAt
import Derived.Deep.QuietTactic
import Derived.BigQuiet
namespace Go.Proofs.Ytfacdiimoncnnaa
open Go Go.RowKit

theorem ret_bo {a b : Bool} (h : a = b) : Ending.returned (.bool a) = .returned (.bool b) := by rw [h]

theorem l2LineOk_any (s : ByteArray) (w : World) (hs : s.size ≤ maxLen) :
    Calls Try.prog 18 #[.string s] w fun e w' => e = .returned (.bool (lineB s)) ∧ w = w' := by
  unfold maxLen at hs
  go_enter Try.func18, Try.ntmps18
  go_wp2
  go_loop [3] (fun i => ∃ k : Nat, k ≤ s.size ∧ i = .int .i64 k ∧ Hid ((s.data.toList.take k).all lineC = true)) (fun i => s.size - (intOf i).toNat)
  case atStart => exact ⟨0, Nat.zero_le _, rfl, Lib.hid (by simp)⟩
  case round =>
    obtain ⟨k, hk, rfl, H⟩ := hrel
    by_cases hlt : k < s.size
    · by_cases h1 : (32 : Int) ≤ (s[k].toNat : Int)
      · by_cases h2 : (s[k].toNat : Int) ≤ 126
        · go_wp2
          go_round
          case rel => exact ⟨k + 1, by omega, by go_num, Lib.hid (all_take_succ hlt H.out (lineC_true (by omega)))⟩
          case measure => simp [intOf]; omega
        · have hm : Hid (lineB s = false) := Lib.hid (lineB_miss hlt (lineC_false (by omega)))
          go_wp2
          go_ret
          exact ⟨ret_bo hm.out.symm, rfl⟩
      · have hm : Hid (lineB s = false) := Lib.hid (lineB_miss hlt (lineC_false (by omega)))
        go_wp2
        go_ret
        exact ⟨ret_bo hm.out.symm, rfl⟩
    · have hm : Hid (lineB s = decide ((s.size : Int) ≤ 40)) := Lib.hid ((lineB_end (by omega) H.out).trans (by rw [decide_eq_decide]; omega))
      go_wp2
      go_ret
      exact ⟨ret_bo hm.out.symm, rfl⟩

theorem isLine_any (s : ByteArray) (w : World) (hs : s.size ≤ maxLen) :
    Calls Try.prog 20 #[.string s] w fun e w' => e = .returned (.bool (lineB s)) ∧ w = w' := by
  unfold maxLen at hs
  by_cases h40 : 40 < s.size
  · have hm : Hid (lineB s = false) := Lib.hid (lineB_size h40)
    go_enter Try.func20, Try.ntmps20
    go_wp2
    go_ret
    exact ⟨ret_bo hm.out.symm, rfl⟩
  · go_enter Try.func20, Try.ntmps20
    go_wp2
    go_loop [9] (fun i => ∃ k : Nat, k ≤ s.size ∧ i = .int .i64 k ∧ Hid ((s.data.toList.take k).all lineC = true)) (fun i => s.size - (intOf i).toNat)
    case atStart => exact ⟨0, Nat.zero_le _, rfl, Lib.hid (by simp)⟩
    case round =>
      obtain ⟨k, hk, rfl, H⟩ := hrel
      by_cases hlt : k < s.size
      · by_cases h1 : (32 : Int) ≤ (s[k].toNat : Int)
        · by_cases h2 : (s[k].toNat : Int) ≤ 126
          · go_wp2
            go_round
            case rel => exact ⟨k + 1, by omega, by go_num, Lib.hid (all_take_succ hlt H.out (lineC_true (by omega)))⟩
            case measure => simp [intOf]; omega
          · have hm : Hid (lineB s = false) := Lib.hid (lineB_miss hlt (lineC_false (by omega)))
            go_wp2
            go_ret
            exact ⟨ret_bo hm.out.symm, rfl⟩
        · have hm : Hid (lineB s = false) := Lib.hid (lineB_miss hlt (lineC_false (by omega)))
          go_wp2
          go_ret
          exact ⟨ret_bo hm.out.symm, rfl⟩
      · have hm : Hid (lineB s = true) := Lib.hid ((lineB_end (by omega) H.out).trans (decide_eq_true (by omega)))
        go_wp2
        go_ret
        exact ⟨ret_bo hm.out.symm, rfl⟩

/-- THE SLICE VALUE '.slice ao xs.length cap' READS AS THE STRINGS xs. -/
def StrRow (w : World) (ao : Option Addr) (xs : List ByteArray) : Prop :=
  ∀ k x, xs[k]? = some x → ∃ b off, ao = some ⟨b, off, none⟩ ∧ w.cell? ⟨b, off + k, none⟩ = some (.string x)

theorem StrRow.below {B : Nat} {w w' : World} {ao : Option Addr} {xs : List ByteArray} (h : StrRow w ao xs) (hb : Below B w w') (hB : w.heap.size ≤ B) : StrRow w' ao xs := by
  intro k x hx
  obtain ⟨b, off, e, hc⟩ := h k x hx
  have hlt := World.block_lt_of_cell? w _ hc
  exact ⟨b, off, e, (hb.cell (p := ⟨b, off + k, none⟩) (Nat.lt_of_lt_of_le hlt hB)).trans hc⟩

theorem StrRow.of_own {w : World} {base : Nat} {e : TypeId} {ao : Option Addr} {cap : Nat} {xs : List ByteArray} (h : w.ownsRow base e 1 (.slice ao xs.length cap) xs.length (xs.map Value.string)) : StrRow w ao xs := by
  intro k x hx
  obtain ⟨hk, _⟩ := List.getElem?_eq_some_iff.1 hx
  rcases h.2 with ⟨_, h0⟩ | ⟨g, c, cur, h', _⟩
  · omega
  · simp only [Value.slice.injEq, true_and] at h'
    obtain ⟨rfl, rfl⟩ := h'
    refine ⟨g, 0, rfl, ?_⟩
    rw [h.cellAt _ (by omega), Nat.zero_add, List.getElem?_map, hx]
    rfl

theorem l2BodyOk_any (ao : Option Addr) (cap : Nat) (xs : List ByteArray) (w : World) (hr : StrRow w ao xs) (hl : xs.length ≤ maxLen) (hs : ∀ x ∈ xs, x.size ≤ maxLen) :
    Calls Try.prog 11 #[.slice ao xs.length cap] w fun e w' => e = .returned (.bool (bodyB xs)) ∧ w = w' := by
  unfold maxLen at hl
  have HR := Lib.hid hr
  have HS := Lib.hid hs
  clear hr hs
  go_enter Try.func11, Try.ntmps11
  go_wp2
  go_loop [3] (fun i => ∃ k : Nat, k ≤ xs.length ∧ i = .int .i64 k ∧ Hid ((xs.take k).all lineB = true)) (fun i => xs.length - (intOf i).toNat)
  case atStart => exact ⟨0, Nat.zero_le _, rfl, Lib.hid (by simp)⟩
  case round =>
    obtain ⟨k, hk, rfl, H⟩ := hrel
    by_cases hlt : k < xs.length
    · obtain ⟨x, hx⟩ : ∃ x, xs[k]? = some x := ⟨_, List.getElem?_eq_getElem hlt⟩
      obtain ⟨b, off, rfl, hcell⟩ := HR.out k x hx
      have hxs := HS.out x (List.mem_of_getElem? hx)
      have HX := Lib.hid hx
      clear hx
      cases hc : lineB x
      · have hm : Hid (bodyB xs = false) := Lib.hid (bodyB_miss HX.out hc)
        have HC := Lib.hid hc
        clear hc
        go_wp2_with (go_at_call 18; refine (l2LineOk_any x _ hxs).mono ?_; rintro e w1 ⟨rfl, rfl⟩; rw [HC.out])
        go_ret
        exact ⟨ret_bo hm.out.symm, rfl⟩
      · have HC := Lib.hid hc
        clear hc
        go_wp2_with (go_at_call 18; refine (l2LineOk_any x _ hxs).mono ?_; rintro e w1 ⟨rfl, rfl⟩; rw [HC.out])
        go_round
        case rel => exact ⟨k + 1, by omega, by go_num, Lib.hid (list_all_succ HX.out H.out HC.out)⟩
        case measure => simp [intOf]; omega
    · have hm : Hid (bodyB xs = decide ((xs.length : Int) ≤ 12)) := Lib.hid (bodyB_end (by omega) H.out)
      go_wp2
      go_ret
      exact ⟨ret_bo hm.out.symm, rfl⟩

theorem isBody_any (ao : Option Addr) (cap : Nat) (xs : List ByteArray) (w : World) (hr : StrRow w ao xs) (hl : xs.length ≤ maxLen) (hs : ∀ x ∈ xs, x.size ≤ maxLen) :
    Calls Try.prog 15 #[.slice ao xs.length cap] w fun e w' => e = .returned (.bool (bodyB xs)) ∧ w = w' := by
  unfold maxLen at hl
  have HR := Lib.hid hr
  have HS := Lib.hid hs
  clear hr hs
  by_cases h12 : 12 < xs.length
  · have hm : Hid (bodyB xs = false) := Lib.hid (bodyB_many h12)
    go_enter Try.func15, Try.ntmps15
    go_wp2
    go_ret
    exact ⟨ret_bo hm.out.symm, rfl⟩
  · go_enter Try.func15, Try.ntmps15
    go_wp2
    go_loop [10] (fun i => ∃ k : Nat, k ≤ xs.length ∧ i = .int .i64 k ∧ Hid ((xs.take k).all lineB = true)) (fun i => xs.length - (intOf i).toNat)
    case atStart => exact ⟨0, Nat.zero_le _, rfl, Lib.hid (by simp)⟩
    case round =>
      obtain ⟨k, hk, rfl, H⟩ := hrel
      by_cases hlt : k < xs.length
      · obtain ⟨x, hx⟩ : ∃ x, xs[k]? = some x := ⟨_, List.getElem?_eq_getElem hlt⟩
        obtain ⟨b, off, rfl, hcell⟩ := HR.out k x hx
        have hxs := HS.out x (List.mem_of_getElem? hx)
        have HX := Lib.hid hx
        clear hx
        cases hc : lineB x
        · have hm : Hid (bodyB xs = false) := Lib.hid (bodyB_miss HX.out hc)
          have HC := Lib.hid hc
          clear hc
          go_wp2_with (go_at_call 20; refine (isLine_any x _ hxs).mono ?_; rintro e w1 ⟨rfl, rfl⟩; rw [HC.out])
          go_ret
          exact ⟨ret_bo hm.out.symm, rfl⟩
        · have HC := Lib.hid hc
          clear hc
          go_wp2_with (go_at_call 20; refine (isLine_any x _ hxs).mono ?_; rintro e w1 ⟨rfl, rfl⟩; rw [HC.out])
          go_round
          case rel => exact ⟨k + 1, by omega, by go_num, Lib.hid (list_all_succ HX.out H.out HC.out)⟩
          case measure => simp [intOf]; omega
      · have hm : Hid (bodyB xs = true) := Lib.hid ((bodyB_end (by omega) H.out).trans (decide_eq_true (by omega)))
        go_wp2
        go_ret
        exact ⟨ret_bo hm.out.symm, rfl⟩

/-- szStringS: what is left. -/
def leftB (xs : List ByteArray) (left : Int) : Int := if (xs.length : Int) + sumB xs ≤ left then left - xs.length - sumB xs else -1

theorem ret_in {a b : Int} (h : a = b) : Ending.returned (.int .i64 a) = .returned (.int .i64 b) := by rw [h]

theorem szStringS_any (ao : Option Addr) (cap : Nat) (xs : List ByteArray) (left : Int) (w : World) (hr : StrRow w ao xs) (hl : xs.length ≤ 9223372036854775807) (h0 : 0 ≤ left) (h1 : left ≤ 1048576) (hs : ∀ x ∈ xs, x.size ≤ 9223372036854775807) :
    Calls Try.prog 5 #[.slice ao xs.length cap, .int .i64 left] w fun e w' => e = .returned (.int .i64 (leftB xs left)) ∧ w = w' := by
  have HR := Lib.hid hr
  have HS := Lib.hid hs
  clear hr hs
  by_cases hlen : left < xs.length
  · have hm : Hid (leftB xs left = -1) := Lib.hid (by unfold leftB; rw [if_neg (by omega)])
    go_enter Try.func5, Try.ntmps5
    go_wp2
    go_ret
    exact ⟨ret_in hm.out.symm, rfl⟩
  · go_enter Try.func5, Try.ntmps5
    go_wp2
    go_loop [1, 5] (fun l i => ∃ (k : Nat) (r : Int), k ≤ xs.length ∧ i = .int .i64 k ∧ l = .int .i64 r ∧ 0 ≤ r ∧ r ≤ 1048576 ∧ Hid (r = left - xs.length - sumB (xs.take k))) (fun _ i => xs.length - (intOf i).toNat)
    case atStart => exact ⟨0, left - xs.length, Nat.zero_le _, rfl, rfl, by omega, by omega, Lib.hid (by simp [sumB])⟩
    case round =>
      obtain ⟨k, r, hk, rfl, rfl, hr0, hr1, H⟩ := hrel
      by_cases hlt : k < xs.length
      · obtain ⟨x, hx⟩ : ∃ x, xs[k]? = some x := ⟨_, List.getElem?_eq_getElem hlt⟩
        obtain ⟨b, off, rfl, hcell⟩ := HR.out k x hx
        have hxs := HS.out x (List.mem_of_getElem? hx)
        have HN : Hid (sumB (xs.take (k + 1)) = sumB (xs.take k) + x.size) := Lib.hid (sumB_snoc hx)
        clear hx
        by_cases hneg : r < x.size
        · have hm : Hid (leftB xs left = -1) := Lib.hid (by have e1 := H.out; have e2 := HN.out; have e3 := sumB_take_le xs (k + 1); unfold leftB; rw [if_neg (by omega)])
          go_wp2
          go_ret
          exact ⟨ret_in hm.out.symm, rfl⟩
        · go_wp2
          go_round
          case rel => exact ⟨k + 1, r - x.size, by omega, by go_num, rfl, by omega, by omega, Lib.hid (by have e1 := H.out; have e2 := HN.out; omega)⟩
          case measure => simp [intOf]; omega
      · have hm : Hid (leftB xs left = r) := Lib.hid (by
          have e1 := H.out
          rw [List.take_of_length_le (by omega)] at e1
          unfold leftB; rw [if_pos (by omega)]; omega)
        go_wp2
        go_ret
        exact ⟨ret_in hm.out.symm, rfl⟩
end Go.Proofs.Ytfacdiimoncnnaa
