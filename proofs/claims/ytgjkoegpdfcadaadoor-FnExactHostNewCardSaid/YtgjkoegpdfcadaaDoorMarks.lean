/- Contracts: marks written into rows of numbers and of addresses, and found there; into mails and clients' states. -/
import Derived.Test.YtgjkoegpdfcadaaDoorCliOuts
import Derived.Test.YtgjkoegpdfcadaaDoorBasis
import Derived.Deep.RegionHeld3
namespace Go.Proofs.YtgjkoegpdfcadaaDoor
open Go Go.RowKit

def markI (k n : Nat) : List Int := (List.range n).map fun i => ((k + i : Nat) : Int)
theorem markI_length (k n : Nat) : (markI k n).length = n := by simp [markI]
theorem markI_get (k n i : Nat) (h : i < n) : (markI k n)[i]? = some ((k + i : Nat) : Int) := by simp [markI, h]
def markIC (k i : Nat) (xs : List Int) : List Value := (markI k i).map (Value.int .i64) ++ (xs.drop i).map (Value.int .i64)
theorem markIC_get (k i : Nat) (xs : List Int) (h : i < xs.length) : ∃ y, (markIC k i xs)[i]? = some (.int .i64 y) := by
  refine ⟨xs[i], ?_⟩
  unfold markIC
  rw [List.getElem?_append_right (by simp [markI]), List.length_map, markI_length, Nat.sub_self, List.getElem?_map, List.getElem?_drop]
  simp [h]
theorem markIC_set (k i : Nat) (xs : List Int) (h : i < xs.length) : (markIC k i xs).set i (.int .i64 ((k + i : Nat) : Int)) = markIC k (i + 1) xs := by
  unfold markIC
  rw [List.set_append_right _ _ (by simp [markI]), List.length_map, markI_length, Nat.sub_self, List.drop_eq_getElem_cons h, List.map_cons, List.set_cons_zero]
  simp [markI, List.range_succ]

set_option maxHeartbeats 1600000 in
set_option maxRecDepth 100000 in
theorem markIntS_any (B k : Nat) (ao : Option Addr) (cap : Nat) (xs : List Int) (w : World) (ho : w.ownsRow B 3 1 (.slice ao xs.length cap) xs.length (xs.map (Value.int .i64))) (hl : k + xs.length ≤ 16777216) :
    Calls Tryd.prog 54 #[.slice ao xs.length cap, .int .i64 k] w fun e w' => e = .returned (.int .i64 ((k + xs.length : Nat) : Int)) ∧ w'.ownsRow B 3 1 (.slice ao xs.length cap) xs.length ((markI k xs.length).map (Value.int .i64)) ∧ w.grownBy w' (Value.slice ao xs.length cap).ownBlock := by
  rcases own_split ho with ⟨rfl, h0, rfl⟩ | ⟨g, rfl⟩
  · obtain rfl : xs = [] := List.eq_nil_of_length_eq_zero h0
    clear ho
    go_enter Tryd.func54, Tryd.ntmps54
    go_wp2
    go_loop [1, 5] (fun c i => c = .int .i64 k ∧ i = .int .i64 0) (fun _ _ => 0)
    case atStart => exact ⟨rfl, rfl⟩
    case round =>
      obtain ⟨rfl, rfl⟩ := hrel
      go_wp2
      go_ret
      exact ⟨by simp, World.ownsRow_nil _ _ _ _, World.grownBy.refl _ _⟩
  · have G0 : w.grownBy w (some g) := ⟨rfl, rfl, rfl, Nat.le_refl _, fun _ _ _ => rfl⟩
    go_enter Tryd.func54, Tryd.ntmps54
    go_wp2
    go_loopw [1, 5] (fun c i wr => ∃ n : Nat, n ≤ xs.length ∧ i = .int .i64 n ∧ c = .int .i64 ((k + n : Nat) : Int) ∧ wr.ownsRow B 3 1 (.slice (some ⟨g, 0, none⟩) xs.length cap) xs.length (markIC k n xs) ∧ Hid (w.grownBy wr (some g))) (fun _ i _ => xs.length - (intOf i).toNat)
    case atStart => exact ⟨0, Nat.zero_le _, rfl, rfl, by simpa [markIC, markI] using ho, Lib.hid G0⟩
    case round =>
      obtain ⟨n, hn, rfl, rfl, hown, HG⟩ := hrel
      clear ho G0
      by_cases hlt : n < xs.length
      · obtain ⟨y, hy⟩ := markIC_get k n xs hlt
        have e1 := (hown.cellAt n (by omega)).trans hy
        have f1 := hown.frozenAt n
        have s1 := (hown.stored n (.int .i64 ((k + n : Nat) : Int))).1
        rw [markIC_set k n xs hlt] at s1
        have G2 : Hid (w.grownBy (wr.setCell ⟨g, n, none⟩ (.int .i64 ((k + n : Nat) : Int))) (some g)) := Lib.hid ⟨HG.out.os, HG.out.tape, HG.out.output, by simpa using HG.out.size, fun i hi hne => (heap_setCell_other wr ⟨g, n, none⟩ i _ (fun e => hne (by simp [e]))).trans (HG.out.block i hi hne)⟩
        clear hy hown HG
        go_wp2
        go_roundw
        case rel => exact ⟨n + 1, by omega, by go_num, by go_num, s1, G2⟩
        case measure => simp [intOf]; omega
      · obtain rfl : n = xs.length := by omega
        have hend : markIC k xs.length xs = (markI k xs.length).map (Value.int .i64) := by simp [markIC]
        rw [hend] at hown
        have HO := Lib.hid hown
        clear hown
        go_wp2
        go_ret
        exact ⟨rfl, HO.out, HG.out⟩

set_option maxHeartbeats 800000 in
theorem heldIntS_any (ao : Option Addr) (cap k N : Nat) (w : World) (hr : IntRow w ao (markI k N)) (hl : k + N ≤ 16777216) :
    Calls Tryd.prog 55 #[.slice ao N cap, .int .i64 k] w fun e w' => e = .returned (.int .i64 ((k + N : Nat) : Int)) ∧ w = w' := by
  have HR := Lib.hid hr
  clear hr
  go_enter Tryd.func55, Tryd.ntmps55
  go_wp2
  go_loop [1, 5] (fun c i => ∃ n : Nat, n ≤ N ∧ i = .int .i64 n ∧ c = .int .i64 ((k + n : Nat) : Int)) (fun _ i => N - (intOf i).toNat)
  case atStart => exact ⟨0, Nat.zero_le _, rfl, rfl⟩
  case round =>
    obtain ⟨n, hn, rfl, rfl⟩ := hrel
    by_cases hlt : n < N
    · obtain ⟨b, off, rfl, hcell⟩ := HR.out n _ (markI_get k N n hlt)
      have q : (((k + n : Nat) : Int) != ((k + n : Nat) : Int)) = false := by simp
      go_wp2
      go_round
      case rel => exact ⟨n + 1, by omega, by go_num, by go_num⟩
      case measure => simp [intOf]; omega
    · obtain rfl : n = N := by omega
      go_wp2
      go_ret
      exact ⟨rfl, rfl⟩
end Go.Proofs.YtgjkoegpdfcadaaDoor
