/- Contracts: addresses: whether one is ok, how it is written, copied, compared. -/
import Derived.Test.YtgbjdkmkgoidlaaEnds
import Derived.Test.YtgbjdkmkgoidlaaPlainAddr
namespace Go.Proofs.Ytgbjdkmkgoidlaa
open Go Go.RowKit

theorem ret_s {a b : ByteArray} (h : a = b) : Ending.returned (.string a) = .returned (.string b) := by rw [h]
theorem ret_i {a b : Int} (h : a = b) : Ending.returned (.int .i64 a) = .returned (.int .i64 b) := by rw [h]

theorem l1Null_is (u d : ByteArray) (v : Bool) (hv : nullB u d = v) (w : World) :
    Calls Try.prog 27 #[.agg #[.string u, .string d]] w fun e w' => e = .returned (.bool v) ∧ Below w.heap.size w w' := by
  cases v
  · rcases nullB_false hv with hu | ⟨hu, hd⟩
    · clear hv
      go_enter Try.func27, Try.ntmps27
      go_wp2
      go_ret
      exact ⟨rfl, (Below.refl _ _).alloc (Nat.le_refl _) _⟩
    · have hd' : d.toList.isEmpty = false := by simpa [List.isEmpty_iff] using hd
      clear hv
      go_enter Try.func27, Try.ntmps27
      go_wp2
      go_ret
      exact ⟨rfl, (Below.refl _ _).alloc (Nat.le_refl _) _⟩
  · obtain ⟨hu, hd⟩ := nullB_true hv
    have hd' : d.toList.isEmpty = true := by simp [hd]
    clear hv
    go_enter Try.func27, Try.ntmps27
    go_wp2
    go_ret
    exact ⟨rfl, (Below.refl _ _).alloc (Nat.le_refl _) _⟩

theorem l1Put_any (u d : ByteArray) (w : World) (hu : u.size ≤ 1048576) (hd : d.size ≤ 1048576) :
    Calls Try.prog 29 #[.agg #[.string u, .string d]] w fun e w' => e = .returned (.string (l1PutB u d)) ∧ Below w.heap.size w w' := by
  cases hn : nullB u d
  · have hm : Hid (l1PutB u d = wireB u d) := Lib.hid (by unfold l1PutB; rw [hn]; rfl)
    have HN := Lib.hid hn
    clear hn
    go_enter Try.func29, Try.ntmps29
    go_wp2_with (go_at_call 27; refine (l1Null_is u d false HN.out _).mono ?_; rintro e w1 ⟨rfl, hb1⟩; have hc1 := hb1.cell (p := ⟨w.heap.size, 0, none⟩) (by simp); have hc2 := hb1.cell (p := ⟨w.heap.size, 1, none⟩) (by simp))
    go_ret
    exact ⟨ret_s (by rw [hm.out]; rfl), ((Below.refl _ _).alloc (Nat.le_refl _) _).trans (hb1.mono (by simp))⟩
  · have hm : Hid (l1PutB u d = { data := #[60, 62] }) := Lib.hid (by unfold l1PutB; rw [hn]; rfl)
    have HN := Lib.hid hn
    clear hn
    go_enter Try.func29, Try.ntmps29
    go_wp2_with (go_at_call 27; refine (l1Null_is u d true HN.out _).mono ?_; rintro e w1 ⟨rfl, hb1⟩)
    go_ret
    exact ⟨ret_s hm.out.symm, ((Below.refl _ _).alloc (Nat.le_refl _) _).trans (hb1.mono (by simp))⟩

theorem l1AddrOk_any (u d : ByteArray) (w : World) (hu : u.size ≤ 140737488351232) (hd : d.size ≤ 140737488351232) :
    Calls Try.prog 26 #[.agg #[.string u, .string d]] w fun e w' => e = .returned (.bool (addrB u d)) ∧ Below w.heap.size w w' := by
  cases h1 : wordB u
  · have hm : Hid (addrB u d = false) := Lib.hid (by unfold addrB; rw [h1]; rfl)
    have H1 := Lib.hid h1
    clear h1
    go_enter Try.func26, Try.ntmps26
    go_wp2_with (go_at_call 33; refine (l1Word_any u _ (by unfold maxLen; omega)).mono ?_; rintro e w1 ⟨rfl, rfl⟩; rw [H1.out])
    go_ret
    exact ⟨ret_b hm.out.symm, (Below.refl _ _).alloc (Nat.le_refl _) _⟩
  · have hm : Hid (addrB u d = domB d) := Lib.hid (by unfold addrB; rw [h1]; rfl)
    have H1 := Lib.hid h1
    clear h1
    go_enter Try.func26, Try.ntmps26
    go_wp2_with (first | (go_at_call 33; refine (l1Word_any u _ (by unfold maxLen; omega)).mono ?_; rintro e w1 ⟨rfl, rfl⟩; rw [H1.out]) | (go_at_call 34; refine (l1Domain_any d _ hd).mono ?_; rintro e w2 ⟨rfl, hb2⟩))
    go_ret
    exact ⟨ret_b hm.out.symm, ((Below.refl _ _).alloc (Nat.le_refl _) _).trans (hb2.mono (by simp))⟩

end Go.Proofs.Ytgbjdkmkgoidlaa
