/- Contracts: a client's state cloned, settled; what became of each, of the model and of the program. -/
import Derived.Test.YtcaknjdolfheaaaGreatDoorClone
import Derived.Test.YtcaknjdolfheaaaGreatDoorCliOk
namespace Go.Proofs.YtcaknjdolfheaaaGreatDoor
open Go Go.RowKit

def setZ (x : Int) : Int := if x = 0 ∨ x = 1 then 3 else x
def setR (xs : List Int) : List Int := xs.map setZ
theorem setR_len (xs : List Int) : (setR xs).length = xs.length := by simp [setR]
theorem setR_snoc {xs : List Int} {k : Nat} {x : Int} (hx : xs[k]? = some x) : (setR (xs.take (k + 1))).map (Value.int .i64) = (setR (xs.take k)).map (Value.int .i64) ++ [.int .i64 (setZ x)] := by
  obtain ⟨hk, e⟩ := List.getElem?_eq_some_iff.1 hx
  unfold setR
  rw [List.take_succ_eq_append_getElem hk, e]; simp
def outsR (c : CliD) : List Int := if cliB c then setR c.outs else []
theorem IntRow.own {w : World} {B : Nat} {e : TypeId} {ao : Option Addr} {cap : Nat} {xs : List Int} (h : w.ownsRow B e 1 (.slice ao xs.length cap) xs.length (xs.map (Value.int .i64))) : IntRow w ao xs := IntRow.of_own h

theorem int_one_new (w : World) (n : Int) (t : TypeId) : ∀ (j : Nat) (u : Value), ([.int .i64 n] : List Value)[j]? = some u → (w.alloc (.cells #[.int .i64 n] t)).cell? ((⟨w.heap.size, 0, none⟩ : Addr).add j) = some u := by
  intro j u hu
  match j with
  | 0 => simp at hu; subst hu; simp [Addr.add, go_sem]
  | j + 1 => simp at hu
theorem settle_set (xs : List Int) (k : Nat) (x : Int) (hx : xs[k]? = some x) : (((xs.take k).map setZ ++ xs.drop k).map (Value.int .i64)).set k (.int .i64 (setZ x)) = ((xs.take (k + 1)).map setZ ++ xs.drop (k + 1)).map (Value.int .i64) := by
  obtain ⟨hk, e⟩ := List.getElem?_eq_some_iff.1 hx
  rw [List.take_succ_eq_append_getElem hk, List.drop_eq_getElem_cons hk, e]
  simp only [List.map_append, List.map_cons, List.map_nil]
  rw [List.set_append_right _ _ (by simp; omega), List.append_assoc]
  congr 1
  rw [show k - ((List.map (Value.int IntKind.i64) (List.map setZ (xs.take k))).length) = 0 by simp; omega]
  rfl
theorem settle_get (xs : List Int) (k : Nat) (x : Int) (hx : xs[k]? = some x) : (((xs.take k).map setZ ++ xs.drop k).map (Value.int .i64))[k]? = some (.int .i64 x) := by
  obtain ⟨hk, e⟩ := List.getElem?_eq_some_iff.1 hx
  rw [List.getElem?_map, List.getElem?_append_right (by simp; omega)]
  simp only [List.length_map, List.length_take]
  rw [show k - min k xs.length = 0 by omega, List.getElem?_drop, Nat.add_zero, hx]
  rfl

end Go.Proofs.YtcaknjdolfheaaaGreatDoor
