/- Contracts: lines, bodies (slices of strings), their sizes, copies and comparisons: for every slice the answer is the plain one; nothing that was there is written. -/
import Derived.Test.YtecjifbckjclfaaProg
import Derived.Test.YtecjifbckjclfaaPlain
import Derived.WalkKit
import Derived.Lib.Hide
import Derived.Outline
import Derived.Maps.AppendAt
import Derived.Deep.QuietTactic
import Derived.BigQuiet
namespace Go.Proofs.Ytecjifbckjclfaa
open Go Go.RowKit

theorem ret_bo {a b : Bool} (h : a = b) : Ending.returned (.bool a) = .returned (.bool b) := by rw [h]

/-- THE SLICE VALUE '.slice ao xs.length cap' READS AS THE STRINGS xs. -/
def StrRow (w : World) (ao : Option Addr) (xs : List ByteArray) : Prop :=
  ∀ k x, xs[k]? = some x → ∃ b off, ao = some ⟨b, off, none⟩ ∧ w.cell? ⟨b, off + k, none⟩ = some (.string x)

theorem StrRow.below {B : Nat} {w w' : World} {ao : Option Addr} {xs : List ByteArray} (h : StrRow w ao xs) (hb : Below B w w') (hB : w.heap.size ≤ B) : StrRow w' ao xs := by
  intro k x hx
  obtain ⟨b, off, e, hc⟩ := h k x hx
  have hlt := World.block_lt_of_cell? w _ hc
  exact ⟨b, off, e, (hb.cell (p := ⟨b, off + k, none⟩) (Nat.lt_of_lt_of_le hlt hB)).trans hc⟩

theorem StrRow.of_own {w : World} {base : Nat} {e : TypeId} {ao : Option Addr} {cap : Nat} {xs : List ByteArray} (h : w.ownsRow base e 1 (.slice ao xs.length cap) xs.length (xs.map Value.string)) : StrRow w ao xs := by
  intro k x hx
  obtain ⟨hk, _⟩ := List.getElem?_eq_some_iff.1 hx
  rcases h.2 with ⟨_, h0⟩ | ⟨g, c, cur, h', _⟩
  · omega
  · simp only [Value.slice.injEq, true_and] at h'
    obtain ⟨rfl, rfl⟩ := h'
    refine ⟨g, 0, rfl, ?_⟩
    rw [h.cellAt _ (by omega), Nat.zero_add, List.getElem?_map, hx]
    rfl

/-- szStringS: what is left. -/
def leftB (xs : List ByteArray) (left : Int) : Int := if (xs.length : Int) + sumB xs ≤ left then left - xs.length - sumB xs else -1

theorem ret_in {a b : Int} (h : a = b) : Ending.returned (.int .i64 a) = .returned (.int .i64 b) := by rw [h]

theorem szStringS_any (ao : Option Addr) (cap : Nat) (xs : List ByteArray) (left : Int) (w : World) (hr : StrRow w ao xs) (hl : xs.length ≤ 9223372036854775807) (h0 : 0 ≤ left) (h1 : left ≤ 1048576) (hs : ∀ x ∈ xs, x.size ≤ 9223372036854775807) :
    Calls Try.prog 16 #[.slice ao xs.length cap, .int .i64 left] w fun e w' => e = .returned (.int .i64 (leftB xs left)) ∧ w = w' := by
  have HR := Lib.hid hr
  have HS := Lib.hid hs
  clear hr hs
  by_cases hlen : left < xs.length
  · have hm : Hid (leftB xs left = -1) := Lib.hid (by unfold leftB; rw [if_neg (by omega)])
    go_enter Try.func16, Try.ntmps16
    go_wp2
    go_ret
    exact ⟨ret_in hm.out.symm, rfl⟩
  · go_enter Try.func16, Try.ntmps16
    go_wp2
    go_loop [1, 5] (fun l i => ∃ (k : Nat) (r : Int), k ≤ xs.length ∧ i = .int .i64 k ∧ l = .int .i64 r ∧ 0 ≤ r ∧ r ≤ 1048576 ∧ Hid (r = left - xs.length - sumB (xs.take k))) (fun _ i => xs.length - (intOf i).toNat)
    case atStart => exact ⟨0, left - xs.length, Nat.zero_le _, rfl, rfl, by omega, by omega, Lib.hid (by simp [sumB])⟩
    case round =>
      obtain ⟨k, r, hk, rfl, rfl, hr0, hr1, H⟩ := hrel
      by_cases hlt : k < xs.length
      · obtain ⟨x, hx⟩ : ∃ x, xs[k]? = some x := ⟨_, List.getElem?_eq_getElem hlt⟩
        obtain ⟨b, off, rfl, hcell⟩ := HR.out k x hx
        have hxs := HS.out x (List.mem_of_getElem? hx)
        have HN : Hid (sumB (xs.take (k + 1)) = sumB (xs.take k) + x.size) := Lib.hid (sumB_snoc hx)
        clear hx
        by_cases hneg : r < x.size
        · have hm : Hid (leftB xs left = -1) := Lib.hid (by have e1 := H.out; have e2 := HN.out; have e3 := sumB_take_le xs (k + 1); unfold leftB; rw [if_neg (by omega)])
          go_wp2
          go_ret
          exact ⟨ret_in hm.out.symm, rfl⟩
        · go_wp2
          go_round
          case rel => exact ⟨k + 1, r - x.size, by omega, by go_num, rfl, by omega, by omega, Lib.hid (by have e1 := H.out; have e2 := HN.out; omega)⟩
          case measure => simp [intOf]; omega
      · have hm : Hid (leftB xs left = r) := Lib.hid (by
          have e1 := H.out
          rw [List.take_of_length_le (by omega)] at e1
          unfold leftB; rw [if_pos (by omega)]; omega)
        go_wp2
        go_ret
        exact ⟨ret_in hm.out.symm, rfl⟩
end Go.Proofs.Ytecjifbckjclfaa
