/- Contracts: addresses: whether one is ok, how it is written, copied, compared. -/
import Derived.Test.YtecjifbckjclfaaDoorEnds
import Derived.Test.YtecjifbckjclfaaDoorPlainAddr
namespace Go.Proofs.YtecjifbckjclfaaDoor
open Go Go.RowKit

theorem ret_s {a b : ByteArray} (h : a = b) : Ending.returned (.string a) = .returned (.string b) := by rw [h]
theorem ret_i {a b : Int} (h : a = b) : Ending.returned (.int .i64 a) = .returned (.int .i64 b) := by rw [h]

theorem l1Null_is (u d : ByteArray) (v : Bool) (hv : nullB u d = v) (w : World) :
    Calls Tryd.prog 165 #[.agg #[.string u, .string d]] w fun e w' => e = .returned (.bool v) ∧ Below w.heap.size w w' := by
  cases v
  · rcases nullB_false hv with hu | ⟨hu, hd⟩
    · clear hv
      go_enter Tryd.func165, Tryd.ntmps165
      go_wp2
      go_ret
      exact ⟨rfl, (Below.refl _ _).alloc (Nat.le_refl _) _⟩
    · have hd' : d.toList.isEmpty = false := by simpa [List.isEmpty_iff] using hd
      clear hv
      go_enter Tryd.func165, Tryd.ntmps165
      go_wp2
      go_ret
      exact ⟨rfl, (Below.refl _ _).alloc (Nat.le_refl _) _⟩
  · obtain ⟨hu, hd⟩ := nullB_true hv
    have hd' : d.toList.isEmpty = true := by simp [hd]
    clear hv
    go_enter Tryd.func165, Tryd.ntmps165
    go_wp2
    go_ret
    exact ⟨rfl, (Below.refl _ _).alloc (Nat.le_refl _) _⟩

theorem isNull_is (u d : ByteArray) (v : Bool) (hv : nullB u d = v) (w : World) :
    Calls Tryd.prog 163 #[.agg #[.string u, .string d]] w fun e w' => e = .returned (.bool v) ∧ Below w.heap.size w w' := by
  cases v
  · rcases nullB_false hv with hu | ⟨hu, hd⟩
    · clear hv
      go_enter Tryd.func163, Tryd.ntmps163
      go_wp2
      go_ret
      exact ⟨rfl, (Below.refl _ _).alloc (Nat.le_refl _) _⟩
    · clear hv
      go_enter Tryd.func163, Tryd.ntmps163
      go_wp2
      go_ret
      exact ⟨rfl, (Below.refl _ _).alloc (Nat.le_refl _) _⟩
  · obtain ⟨hu, hd⟩ := nullB_true hv
    clear hv
    go_enter Tryd.func163, Tryd.ntmps163
    go_wp2
    go_ret
    exact ⟨rfl, (Below.refl _ _).alloc (Nat.le_refl _) _⟩

theorem l1Put_any (u d : ByteArray) (w : World) (hu : u.size ≤ 1048576) (hd : d.size ≤ 1048576) :
    Calls Tryd.prog 167 #[.agg #[.string u, .string d]] w fun e w' => e = .returned (.string (l1PutB u d)) ∧ Below w.heap.size w w' := by
  cases hn : nullB u d
  · have hm : Hid (l1PutB u d = wireB u d) := Lib.hid (by unfold l1PutB; rw [hn]; rfl)
    have HN := Lib.hid hn
    clear hn
    go_enter Tryd.func167, Tryd.ntmps167
    go_wp2_with (go_at_call 165; refine (l1Null_is u d false HN.out _).mono ?_; rintro e w1 ⟨rfl, hb1⟩; have hc1 := hb1.cell (p := ⟨w.heap.size, 0, none⟩) (by simp); have hc2 := hb1.cell (p := ⟨w.heap.size, 1, none⟩) (by simp))
    go_ret
    exact ⟨ret_s (by rw [hm.out]; rfl), ((Below.refl _ _).alloc (Nat.le_refl _) _).trans (hb1.mono (by simp))⟩
  · have hm : Hid (l1PutB u d = { data := #[60, 62] }) := Lib.hid (by unfold l1PutB; rw [hn]; rfl)
    have HN := Lib.hid hn
    clear hn
    go_enter Tryd.func167, Tryd.ntmps167
    go_wp2_with (go_at_call 165; refine (l1Null_is u d true HN.out _).mono ?_; rintro e w1 ⟨rfl, hb1⟩)
    go_ret
    exact ⟨ret_s hm.out.symm, ((Below.refl _ _).alloc (Nat.le_refl _) _).trans (hb1.mono (by simp))⟩

theorem l1AddrOk_any (u d : ByteArray) (w : World) (hu : u.size ≤ 140737488351232) (hd : d.size ≤ 140737488351232) :
    Calls Tryd.prog 116 #[.agg #[.string u, .string d]] w fun e w' => e = .returned (.bool (addrB u d)) ∧ Below w.heap.size w w' := by
  cases h1 : wordB u
  · have hm : Hid (addrB u d = false) := Lib.hid (by unfold addrB; rw [h1]; rfl)
    have H1 := Lib.hid h1
    clear h1
    go_enter Tryd.func116, Tryd.ntmps116
    go_wp2_with (go_at_call 160; refine (l1Word_any u _ (by unfold maxLen; omega)).mono ?_; rintro e w1 ⟨rfl, rfl⟩; rw [H1.out])
    go_ret
    exact ⟨ret_b hm.out.symm, (Below.refl _ _).alloc (Nat.le_refl _) _⟩
  · have hm : Hid (addrB u d = domB d) := Lib.hid (by unfold addrB; rw [h1]; rfl)
    have H1 := Lib.hid h1
    clear h1
    go_enter Tryd.func116, Tryd.ntmps116
    go_wp2_with (first | (go_at_call 160; refine (l1Word_any u _ (by unfold maxLen; omega)).mono ?_; rintro e w1 ⟨rfl, rfl⟩; rw [H1.out]) | (go_at_call 86; refine (l1Domain_any d _ hd).mono ?_; rintro e w2 ⟨rfl, hb2⟩))
    go_ret
    exact ⟨ret_b hm.out.symm, ((Below.refl _ _).alloc (Nat.le_refl _) _).trans (hb2.mono (by simp))⟩

theorem implAddrOk_any (u d : ByteArray) (w : World) (hm : HasMax w) (hu : u.size < 4294967281) (hd : d.size < 4294967281) :
    Calls Tryd.prog 44 #[.agg #[.string u, .string d]] w fun e w' => e = .returned (.bool (addrB u d)) ∧ Below w.heap.size w w' := by
  have hm1 := hm.below ((Below.refl w.heap.size w).alloc (Nat.le_refl _) (.cells #[.string u, .string d] 33)) (Nat.le_refl _)
  have HM := Lib.hid hm1
  clear hm hm1
  cases h1 : wordB u
  · have hq : Hid (addrB u d = false) := Lib.hid (by unfold addrB; rw [h1]; rfl)
    have H1 := Lib.hid h1
    clear h1
    go_enter Tryd.func44, Tryd.ntmps44
    go_wp2_with (go_at_call 118; refine (isLabel_any u _ (by unfold maxLen; omega)).mono ?_; rintro e w1 ⟨rfl, rfl⟩; rw [H1.out])
    go_ret
    exact ⟨ret_b hq.out.symm, (Below.refl _ _).alloc (Nat.le_refl _) _⟩
  · have hq : Hid (addrB u d = domB d) := Lib.hid (by unfold addrB; rw [h1]; rfl)
    have H1 := Lib.hid h1
    clear h1
    go_enter Tryd.func44, Tryd.ntmps44
    go_wp2_with (first | (go_at_call 118; refine (isLabel_any u _ (by unfold maxLen; omega)).mono ?_; rintro e w1 ⟨rfl, rfl⟩; rw [H1.out]) | (go_at_call 39; refine (implDomainOk_max d _ HM.out hd).mono ?_; rintro e w2 ⟨rfl, hb2⟩))
    go_ret
    exact ⟨ret_b hq.out.symm, ((Below.refl _ _).alloc (Nat.le_refl _) _).trans (hb2.mono (by simp))⟩

theorem toAddr_any (u d : ByteArray) (w : World) :
    Calls Tryd.prog 147 #[.agg #[.string u, .string d]] w fun e w' => e = .returned (.agg #[.string u, .string d]) ∧ Below w.heap.size w w' := by
  go_enter Tryd.func147, Tryd.ntmps147
  go_wp2
  exact bodyPost_ret (v := .agg #[.string u, .string d]) (by simp [results, Tryd.results147, go_sem]) rfl ⟨rfl, (((Below.refl _ _).alloc (Nat.le_refl _) _).alloc (by simp) _).alloc (by simp; omega) _⟩

theorem eqAddr_same (u d : ByteArray) (w : World) :
    Calls Tryd.prog 135 #[.agg #[.string u, .string d], .agg #[.string u, .string d]] w fun e w' => e = .returned (.bool true) ∧ Below w.heap.size w w' := by
  go_enter Tryd.func135, Tryd.ntmps135
  go_wp2
  go_ret
  exact ⟨rfl, ((Below.refl _ _).alloc (Nat.le_refl _) _).alloc (by simp) _⟩

theorem szAddr_any (u d : ByteArray) (left : Int) (w : World) (h0 : 0 ≤ left) (h1 : left ≤ 1048576) (hu : u.size ≤ 9223372036854775807) (hd : d.size ≤ 9223372036854775807) :
    Calls Tryd.prog 144 #[.agg #[.string u, .string d], .int .i64 left] w fun e w' => e = .returned (.int .i64 (leftA u d left)) ∧ Below w.heap.size w w' := by
  rcases (show left < u.size ∨ (u.size ≤ left ∧ left - u.size < d.size) ∨ (u.size ≤ left ∧ d.size ≤ left - u.size) by omega) with h | ⟨h, h'⟩ | ⟨h, h'⟩
  · have hm : Hid (leftA u d left = -1) := Lib.hid (by unfold leftA; rw [if_neg (by omega)])
    go_enter Tryd.func144, Tryd.ntmps144
    go_wp2
    go_ret
    exact ⟨ret_i hm.out.symm, (Below.refl _ _).alloc (Nat.le_refl _) _⟩
  · have hm : Hid (leftA u d left = -1) := Lib.hid (by unfold leftA; rw [if_neg (by omega)])
    go_enter Tryd.func144, Tryd.ntmps144
    go_wp2
    go_ret
    exact ⟨ret_i hm.out.symm, (Below.refl _ _).alloc (Nat.le_refl _) _⟩
  · have hm : Hid (leftA u d left = left - u.size - d.size) := Lib.hid (by unfold leftA; rw [if_pos (by omega)])
    go_enter Tryd.func144, Tryd.ntmps144
    go_wp2
    go_ret
    exact ⟨ret_i hm.out.symm, (Below.refl _ _).alloc (Nat.le_refl _) _⟩

end Go.Proofs.YtecjifbckjclfaaDoor
