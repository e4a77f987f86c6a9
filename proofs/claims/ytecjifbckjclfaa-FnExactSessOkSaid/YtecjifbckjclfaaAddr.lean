/- Contracts: addresses: whether one is ok, how it is written, copied, compared. -/
import Derived.Test.YtecjifbckjclfaaEnds
import Derived.Test.YtecjifbckjclfaaPlainAddr
namespace Go.Proofs.Ytecjifbckjclfaa
open Go Go.RowKit

theorem ret_s {a b : ByteArray} (h : a = b) : Ending.returned (.string a) = .returned (.string b) := by rw [h]
theorem ret_i {a b : Int} (h : a = b) : Ending.returned (.int .i64 a) = .returned (.int .i64 b) := by rw [h]

theorem toAddr_any (u d : ByteArray) (w : World) :
    Calls Try.prog 19 #[.agg #[.string u, .string d]] w fun e w' => e = .returned (.agg #[.string u, .string d]) ∧ Below w.heap.size w w' := by
  go_enter Try.func19, Try.ntmps19
  go_wp2
  exact bodyPost_ret (v := .agg #[.string u, .string d]) (by simp [results, Try.results19, go_sem]) rfl ⟨rfl, (((Below.refl _ _).alloc (Nat.le_refl _) _).alloc (by simp) _).alloc (by simp; omega) _⟩

theorem eqAddr_same (u d : ByteArray) (w : World) :
    Calls Try.prog 23 #[.agg #[.string u, .string d], .agg #[.string u, .string d]] w fun e w' => e = .returned (.bool true) ∧ Below w.heap.size w w' := by
  go_enter Try.func23, Try.ntmps23
  go_wp2
  go_ret
  exact ⟨rfl, ((Below.refl _ _).alloc (Nat.le_refl _) _).alloc (by simp) _⟩

theorem szAddr_any (u d : ByteArray) (left : Int) (w : World) (h0 : 0 ≤ left) (h1 : left ≤ 1048576) (hu : u.size ≤ 9223372036854775807) (hd : d.size ≤ 9223372036854775807) :
    Calls Try.prog 14 #[.agg #[.string u, .string d], .int .i64 left] w fun e w' => e = .returned (.int .i64 (leftA u d left)) ∧ Below w.heap.size w w' := by
  rcases (show left < u.size ∨ (u.size ≤ left ∧ left - u.size < d.size) ∨ (u.size ≤ left ∧ d.size ≤ left - u.size) by omega) with h | ⟨h, h'⟩ | ⟨h, h'⟩
  · have hm : Hid (leftA u d left = -1) := Lib.hid (by unfold leftA; rw [if_neg (by omega)])
    go_enter Try.func14, Try.ntmps14
    go_wp2
    go_ret
    exact ⟨ret_i hm.out.symm, (Below.refl _ _).alloc (Nat.le_refl _) _⟩
  · have hm : Hid (leftA u d left = -1) := Lib.hid (by unfold leftA; rw [if_neg (by omega)])
    go_enter Try.func14, Try.ntmps14
    go_wp2
    go_ret
    exact ⟨ret_i hm.out.symm, (Below.refl _ _).alloc (Nat.le_refl _) _⟩
  · have hm : Hid (leftA u d left = left - u.size - d.size) := Lib.hid (by unfold leftA; rw [if_pos (by omega)])
    go_enter Try.func14, Try.ntmps14
    go_wp2
    go_ret
    exact ⟨ret_i hm.out.symm, (Below.refl _ _).alloc (Nat.le_refl _) _⟩

end Go.Proofs.Ytecjifbckjclfaa
