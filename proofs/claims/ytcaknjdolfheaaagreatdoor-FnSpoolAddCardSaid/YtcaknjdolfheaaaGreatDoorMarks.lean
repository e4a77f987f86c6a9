/- Contracts: marks written into rows of numbers and of addresses, and found there; into mails and clients' states. -/
import Derived.Test.YtcaknjdolfheaaaGreatDoorCliOuts
import Derived.Test.YtcaknjdolfheaaaGreatDoorBasis
import Derived.Deep.RegionHeld3
namespace Go.Proofs.YtcaknjdolfheaaaGreatDoor
open Go Go.RowKit

def markI (k n : Nat) : List Int := (List.range n).map fun i => ((k + i : Nat) : Int)
theorem markI_length (k n : Nat) : (markI k n).length = n := by simp [markI]
theorem markI_get (k n i : Nat) (h : i < n) : (markI k n)[i]? = some ((k + i : Nat) : Int) := by simp [markI, h]
def markIC (k i : Nat) (xs : List Int) : List Value := (markI k i).map (Value.int .i64) ++ (xs.drop i).map (Value.int .i64)
theorem markIC_get (k i : Nat) (xs : List Int) (h : i < xs.length) : ∃ y, (markIC k i xs)[i]? = some (.int .i64 y) := by
  refine ⟨xs[i], ?_⟩
  unfold markIC
  rw [List.getElem?_append_right (by simp [markI]), List.length_map, markI_length, Nat.sub_self, List.getElem?_map, List.getElem?_drop]
  simp [h]
theorem markIC_set (k i : Nat) (xs : List Int) (h : i < xs.length) : (markIC k i xs).set i (.int .i64 ((k + i : Nat) : Int)) = markIC k (i + 1) xs := by
  unfold markIC
  rw [List.set_append_right _ _ (by simp [markI]), List.length_map, markI_length, Nat.sub_self, List.drop_eq_getElem_cons h, List.map_cons, List.set_cons_zero]
  simp [markI, List.range_succ]

end Go.Proofs.YtcaknjdolfheaaaGreatDoor
