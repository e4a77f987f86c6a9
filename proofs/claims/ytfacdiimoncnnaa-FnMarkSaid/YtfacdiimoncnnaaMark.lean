/- Contracts: the marks that the laws write into results: markText, markStringS, heldStringS. -/
import Derived.Test.YtfacdiimoncnnaaSmall
import Derived.Laws.IdiomStrings
import Derived.Deep.RegionHeld3
namespace Go.Proofs.Ytfacdiimoncnnaa
open Go Go.RowKit

def dig (q : Nat) : ByteArray := ⟨#[UInt8.ofNat (48 + q % 10)]⟩
def digs : Nat → Nat → ByteArray → ByteArray
  | 0, _, o => o
  | f + 1, q, o => if q = 0 then o else digs f (q / 10) (dig q ++ o)
def markT (k : Nat) : ByteArray := if k = 0 then { data := #[109, 48] } else { data := #[109] } ++ digs k k { data := #[] }
theorem digs_zero (f : Nat) (o : ByteArray) : digs f 0 o = o := by cases f <;> rfl
theorem digs_step {f q : Nat} (o : ByteArray) (h : 0 < q) (hf : q ≤ f) : ∃ f', f = f' + 1 ∧ q / 10 ≤ f' ∧ digs f q o = digs f' (q / 10) (dig q ++ o) := by
  cases f with
  | zero => omega
  | succ f =>
    refine ⟨f, rfl, by omega, ?_⟩
    rw [digs, if_neg (by omega)]
theorem dig_conv (q : Nat) (w : World) : (convert 28 9 (.slice (some ⟨w.heap.size, 0, none⟩) 1 1)).run Try.prog (w.alloc (.cells #[.int .u8 (48 + (q : Int) % 10)] 5)) = .ok (.string (dig q)) (w.alloc (.cells #[.int .u8 (48 + (q : Int) % 10)] 5)) := by
  refine run_convert_bytes_back (P := Try.prog) _ _ _ _ ⟨w.heap.size, 0, none⟩ 1 [UInt8.ofNat (48 + q % 10)] Try.underlying28 Try.underlying5 Try.underlying9 ?_
  intro j hj
  obtain rfl : j = 0 := by simpa using hj
  have e : ((UInt8.ofNat (48 + q % 10)).toNat : Int) = 48 + (q : Int) % 10 := by
    rw [UInt8.toNat_ofNat_of_lt' (by simp [UInt8.size]; omega)]; omega
  show _ = some (Value.int .u8 ((UInt8.ofNat (48 + q % 10)).toNat : Int))
  rw [e, show ((⟨w.heap.size, 0, none⟩ : Addr).add 0) = ⟨w.heap.size, 0, none⟩ from rfl, World.cell?_alloc_at _ _ _ _ rfl]
  rfl

theorem ret_sm {a b : ByteArray} (h : a = b) : Ending.returned (.string a) = .returned (.string b) := by rw [h]
theorem ret_im {a b : Int} (h : a = b) : Ending.returned (.int .i64 a) = .returned (.int .i64 b) := by rw [h]

/-- The row of the marks from k on. -/
def markRow (k n : Nat) : List ByteArray := (List.range n).map fun i => markT (k + i)
theorem markRow_length (k n : Nat) : (markRow k n).length = n := by simp [markRow]
theorem markRow_get (k n i : Nat) (h : i < n) : (markRow k n)[i]? = some (markT (k + i)) := by simp [markRow, h]

def markCells (k i : Nat) (xs : List ByteArray) : List Value := (markRow k i).map Value.string ++ (xs.drop i).map Value.string
theorem markCells_zero (k : Nat) (xs : List ByteArray) : markCells k 0 xs = xs.map Value.string := by simp [markCells, markRow]
theorem markCells_get (k i : Nat) (xs : List ByteArray) (h : i < xs.length) : ∃ y, (markCells k i xs)[i]? = some (.string y) := by
  unfold markCells
  rw [List.getElem?_append_right (by simp [markRow])]
  simp [markRow, h]
theorem markCells_set (k i : Nat) (xs : List ByteArray) (h : i < xs.length) : (markCells k i xs).set i (.string (markT (k + i))) = markCells k (i + 1) xs := by
  unfold markCells
  rw [List.set_append_right _ _ (by simp [markRow]), List.length_map, markRow_length, Nat.sub_self, List.drop_eq_getElem_cons h]
  rw [List.map_cons, List.set_cons_zero]
  simp [markRow, List.range_succ]
theorem markCells_end (k : Nat) (xs : List ByteArray) : markCells k xs.length xs = (markRow k xs.length).map Value.string := by simp [markCells]

theorem own_later {w w' : World} {B : Nat} {e : TypeId} {size : Nat} {v : Value} {n : Nat} {xs : List Value} (h : w.ownsRow B e size v n xs) (hb : Below w.heap.size w w') : w'.ownsRow B e size v n xs :=
  h.kept (row := none) ⟨hb.os, hb.tape, hb.output, hb.size, fun k hk _ => hb.block k hk⟩ (by cases hv : v.ownBlock <;> simp)

theorem held_keep {a : Addr} {v : Value} {B : Nat} {w0 w1 w2 : World} (h : w1.cell? a = some v) (hB : Below B w0 w1) (hBs : B ≤ w0.heap.size) (hb : Below w1.heap.size w1 w2) : w2.cell? a = some v ∧ Below B w0 w2 :=
  ⟨(hb.cell (World.block_lt_of_cell? w1 _ h)).trans h, hB.trans (hb.mono (Nat.le_trans hBs hB.size))⟩

end Go.Proofs.Ytfacdiimoncnnaa
