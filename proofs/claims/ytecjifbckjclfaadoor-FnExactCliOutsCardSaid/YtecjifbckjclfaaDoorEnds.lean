/- Contracts: a domain within another. -/
import Derived.Test.YtecjifbckjclfaaDoorCut
import Derived.WalkSpells
import Derived.WalkLawsBesides
namespace Go.Proofs.YtecjifbckjclfaaDoor
open Go Go.RowKit

set_option maxHeartbeats 400000 in
theorem l1Ends_any (s t : ByteArray) (w : World) (hs : s.size ≤ 140737488351232) (ht : t.size ≤ 140737488351232) :
    Calls Tryd.prog 179 #[.string s, .string t] w fun e w' => e = .returned (.bool (endB s t)) ∧ w = w' := by
  cases hne : (s.toList == t.toList)
  · have hm : Hid (endB s t = dotEnd s t) := Lib.hid (endB_ne hne)
    by_cases hlt : (0 : Int) < (s.size : Int) - t.size
    · go_enter Tryd.func179, Tryd.ntmps179
      go_wp2
      · have h1 : t.size < s.size := by assumption
        have h2 : (s.extract (s.size - t.size) s.size).toList = t.toList := by assumption
        go_ret
        exact ⟨ret_b (by rw [hm.out, dotEnd_hit h1 h2]), rfl⟩
      · have h1 : t.size < s.size := by assumption
        have h2 : ¬ (s.extract (s.size - t.size) s.size).toList = t.toList := by assumption
        go_ret
        exact ⟨ret_b (by rw [hm.out, dotEnd_miss h1 h2]), rfl⟩
    · have hm2 : Hid (dotEnd s t = false) := Lib.hid (dotEnd_short (by omega))
      go_enter Tryd.func179, Tryd.ntmps179
      go_wp2
      go_ret
      exact ⟨ret_b (by rw [hm.out, hm2.out]), rfl⟩
  · have hm : Hid (endB s t = true) := Lib.hid (endB_eq hne)
    go_enter Tryd.func179, Tryd.ntmps179
    go_wp2
    go_ret
    exact ⟨ret_b hm.out.symm, rfl⟩

theorem within_any (s t : ByteArray) (w : World) (hs : s.size ≤ 140737488351232) (ht : t.size ≤ 140737488351232) :
    Calls Tryd.prog 115 #[.string s, .string t] w fun e w' => e = .returned (.bool (endB s t)) ∧ w = w' := by
  cases hne : (s.toList == t.toList)
  · have hm : Hid (endB s t = dotEnd s t) := Lib.hid (endB_ne hne)
    have hx : Hid (Lib.hasSuffix s.data.toList (({ data := #[46] } : ByteArray) ++ t).data.toList = dotEnd s t) := Lib.hid (by unfold dotEnd; congr 1)
    go_enter Tryd.func115, Tryd.ntmps115
    go_wp2_with (go_at_call 181; refine (Tryd.strings_HasSuffix _ _ _ (by omega)).mono ?_; rintro e w' ⟨rfl, rfl⟩; rw [hx.out])
    go_ret
    exact ⟨ret_b hm.out.symm, rfl⟩
  · have hm : Hid (endB s t = true) := Lib.hid (endB_eq hne)
    go_enter Tryd.func115, Tryd.ntmps115
    go_wp2
    go_ret
    exact ⟨ret_b hm.out.symm, rfl⟩

/-- bytealg.MaxLen holds an int. -/
def HasMax (w : World) : Prop := ∃ m : Int, w.cell? ⟨0, 0, none⟩ = some (.int .i64 m)
theorem HasMax.below {B : Nat} {w w' : World} (h : HasMax w) (hb : Below B w w') (hB : w.heap.size ≤ B) : HasMax w' := by
  obtain ⟨m, hm⟩ := h
  have := World.block_lt_of_cell? w _ hm
  exact ⟨m, (hb.cell (p := ⟨0, 0, none⟩) (by simp at this ⊢; omega)).trans hm⟩

theorem implDomainOk_max (s : ByteArray) (w : World) (hm : HasMax w) (hs : s.size < 4294967281) :
    Calls Tryd.prog 39 #[.string s] w fun e w' => e = .returned (.bool (domB s)) ∧ Below w.heap.size w w' := by
  obtain ⟨m, hm⟩ := hm
  exact implDomainOk_any s w m hm hs

theorem implDomainIn_any (s t : ByteArray) (w : World) (hm : HasMax w) (hs : s.size < 4294967281) (ht : t.size < 4294967281) :
    Calls Tryd.prog 40 #[.string s, .string t] w fun e w' => e = .returned (.bool (inDomB s t)) ∧ Below w.heap.size w w' := by
  cases h1 : domB s
  · have hm1 : Hid (inDomB s t = false) := Lib.hid (by unfold inDomB; rw [h1]; rfl)
    have H1 := Lib.hid h1
    clear h1
    go_enter Tryd.func40, Tryd.ntmps40
    go_wp2_with (go_at_call 39; refine (implDomainOk_max s _ hm hs).mono ?_; rintro e w1 ⟨rfl, hb1⟩; rw [H1.out])
    go_ret
    exact ⟨ret_b hm1.out.symm, hb1⟩
  · cases h2 : domB t
    · have hm1 : Hid (inDomB s t = false) := Lib.hid (by unfold inDomB; rw [h1, h2]; rfl)
      have H1 := Lib.hid h1
      have H2 := Lib.hid h2
      clear h1 h2
      go_enter Tryd.func40, Tryd.ntmps40
      go_wp2_with fail
      refine (implDomainOk_max s _ hm hs).mono ?_
      rintro e w1 ⟨rfl, hb1⟩
      rw [H1.out]
      go_wp2_with fail
      refine (implDomainOk_max t _ (hm.below hb1 (Nat.le_refl _)) ht).mono ?_
      rintro e w2 ⟨rfl, hb2⟩
      rw [H2.out]
      go_wp2
      go_ret
      exact ⟨ret_b hm1.out.symm, hb1.trans (hb2.mono hb1.size)⟩
    · have hm1 : Hid (inDomB s t = endB s t) := Lib.hid (by unfold inDomB; rw [h1, h2]; rfl)
      have H1 := Lib.hid h1
      have H2 := Lib.hid h2
      clear h1 h2
      go_enter Tryd.func40, Tryd.ntmps40
      go_wp2_with fail
      refine (implDomainOk_max s _ hm hs).mono ?_
      rintro e w1 ⟨rfl, hb1⟩
      rw [H1.out]
      go_wp2_with fail
      refine (implDomainOk_max t _ (hm.below hb1 (Nat.le_refl _)) ht).mono ?_
      rintro e w2 ⟨rfl, hb2⟩
      rw [H2.out]
      go_wp2_with (go_at_call 115; refine (within_any s t _ (by omega) (by omega)).mono ?_; rintro e w3 ⟨rfl, rfl⟩)
      go_ret
      exact ⟨ret_b hm1.out.symm, hb1.trans (hb2.mono hb1.size)⟩
end Go.Proofs.YtecjifbckjclfaaDoor
