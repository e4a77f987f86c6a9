/- Contract: l2Lines of the model: a text cut into lines. -/
import Derived.Test.YtfacdiimoncnnaaDoorPlains
import Derived.Test.YtfacdiimoncnnaaDoorBasis
namespace Go.Proofs.YtfacdiimoncnnaaDoor
open Go Go.RowKit

/-- Two results: a row of the call's own, and a text. -/
def RowTextPost (w : World) (xs : List ByteArray) (t : ByteArray) (e : Ending) (w' : World) : Prop :=
  ∃ ao cap, e = .returned (.tuple #[.slice ao xs.length cap, .string t]) ∧ w'.ownsRow w.heap.size 9 1 (.slice ao xs.length cap) xs.length (xs.map Value.string) ∧ Below w.heap.size w w'

theorem below_app {B : Nat} {w wr w1 : World} {e : TypeId} {size : Nat} {v : Value} {n : Nat} {xs : List Value} {o : Obj} (hbel : Below B w wr) (hB : B ≤ wr.heap.size) (hown : wr.ownsRow B e size v n xs) (hg : (wr.alloc o).grownBy w1 v.ownBlock) : Below B w w1 :=
  (hbel.alloc hB o).grown hg (by simp; omega) (fun j hj => (hown.lt j hj).1)
theorem snoc_own {w : World} {B e : Nat} {v : Value} {D : List ByteArray} {x : ByteArray} (h : w.ownsRow B e 1 v (D.length + 1) (D.map Value.string ++ [.string x])) : w.ownsRow B e 1 v (D ++ [x]).length ((D ++ [x]).map Value.string) := by
  simpa using h
theorem shape_own {w : World} {base : Nat} {e : TypeId} {size : Nat} {v : Value} {n : Nat} {xs : List Value} (h : w.ownsRow base e size v n xs) : ∃ ao cap, v = .slice ao n cap := by
  rcases h.2 with ⟨h', rfl⟩ | ⟨g, cap, cur, h', _⟩
  · exact ⟨_, _, h'⟩
  · exact ⟨_, _, h'⟩

set_option maxHeartbeats 1600000 in
set_option maxRecDepth 100000 in
theorem l2Lines_any (s : ByteArray) (w : World) (hs : s.size ≤ 1048576) :
    Calls Tryd.prog 176 #[.string s] w (RowTextPost w (linesB s) (leftOf s)) := by
  obtain ⟨i0, hi, hz0, hz1, hz2⟩ := info_parts infoS
  go_enter Tryd.func176, Tryd.ntmps176
  go_wp2
  go_loopw [4, 5, 6] (fun v f i wr => ∃ (k fr : Nat) (D : List ByteArray), i = .int .i64 k ∧ f = .int .i64 fr ∧ k ≤ s.size ∧ fr ≤ k ∧ D.length ≤ fr ∧ Hid (LineInv s fr D) ∧ Hid (NoLine s fr k) ∧
      wr.ownsRow w.heap.size 9 1 v D.length (D.map Value.string) ∧ Below w.heap.size w wr)
    (fun _ _ i _ => s.size - (intOf i).toNat)
  case atStart => exact ⟨0, 0, [], rfl, rfl, Nat.zero_le _, Nat.le_refl _, Nat.zero_le _, Lib.hid (line_start s), Lib.hid (fun j _ h => by omega), World.ownsRow_made w #[] 0 (Nat.le_refl _) (by unfold maxLen; omega) rfl, (Below.refl _ _).alloc (Nat.le_refl _) _⟩
  case round =>
    obtain ⟨k, fr, D, rfl, rfl, hk, hf, hD, HL, HN, hown, hbel⟩ := hrel
    obtain ⟨ao, cap, rfl⟩ := shape_own hown
    have hsz := hbel.size
    by_cases hlt : k + 1 < s.size
    · by_cases hc : s[k] = 13
      · have hb1 : ((s[k].toNat : Int) == 13) = true := by rw [hc]; rfl
        by_cases hd : s[k + 1] = 10
        · have hb2 : ((s[k + 1].toNat : Int) == 10) = true := by rw [hd]; rfl
          have hx := index_here hf ⟨by rw [Lib.data_getElem? s k (by omega), hc], by rw [Lib.data_getElem? s (k + 1) hlt, hd]⟩ HN.out
          have HL2 := Lib.hid (line_hit HL.out hx (by omega))
          rw [show fr + (k - fr) = k by omega] at HL2
          have hD2 : (D ++ [s.extract fr k]).length ≤ k + 2 := by rw [List.length_append]; simp; omega
          clear hc hd hx HL HN
          go_wp2_with (at_builtin; refine wpList_append_own _ rfl _ _ 22 rfl w.heap.size 9 i0 (.string ByteArray.empty) 1 16 Tryd.underlying22 hi hz0 hz1 hz2 rfl (by decide) _ _ _ rfl (hown.alloc _) ⟨wr.heap.size, 0, none⟩ 1 1 [.string (s.extract fr k)] rfl rfl ?c1 ?c2 ?c3 ?c4 ?c5 ?_)
          case c1 => exact cell_one_new _ _ _
          case c2 => intro u hu; simp at hu; subst hu; rfl
          case c3 => unfold maxLen; omega
          case c4 => omega
          case c5 => simp; omega
          intro v' w1 hown' hgrow _
          have hb3 := below_app hbel hsz hown hgrow
          have ho1 := snoc_own hown'
          clear hown hbel hown' hgrow
          go_wp2
          go_roundw
          case rel => exact ⟨k + 2, k + 2, D ++ [s.extract fr k], by go_num, by go_num, by omega, by omega, hD2, HL2, Lib.hid (fun j _ h => by omega), ho1, hb3⟩
          case measure => simp [intOf]; omega
        · have hb2 : ((s[k + 1].toNat : Int) == 10) = false := by
            rw [beq_eq_false_iff_ne]; intro e; exact hd (UInt8.toNat_inj.1 (by simpa using (by omega : s[k + 1].toNat = 10)))
          have HN2 := Lib.hid (noLine_skip HN.out (by
            rintro ⟨_, h1⟩
            rw [Lib.data_getElem? s (k + 1) hlt] at h1
            exact hd (Option.some.inj h1)))
          clear hc hd HN
          go_wp2
          go_roundw
          case rel => exact ⟨k + 1, fr, D, by go_num, rfl, by omega, by omega, hD, HL, HN2, hown, hbel⟩
          case measure => simp [intOf]; omega
      · have hb1 : ((s[k].toNat : Int) == 13) = false := by
          rw [beq_eq_false_iff_ne]; intro e; exact hc (UInt8.toNat_inj.1 (by simpa using (by omega : s[k].toNat = 13)))
        have HN2 := Lib.hid (noLine_skip HN.out (by
          rintro ⟨h1, _⟩
          rw [Lib.data_getElem? s k (by omega)] at h1
          exact hc (Option.some.inj h1)))
        clear hc HN
        go_wp2
        go_roundw
        case rel => exact ⟨k + 1, fr, D, by go_num, rfl, by omega, by omega, hD, HL, HN2, hown, hbel⟩
        case measure => simp [intOf]; omega
    · obtain ⟨e1, e2⟩ := line_end HL.out (index_nowhere (noLine_last HN.out (by omega)))
      have HE1 := Lib.hid e1
      have HE2 := Lib.hid e2
      clear e1 e2 HL HN
      have hfs : fr ≤ s.size := by omega
      go_wp2
      go_region
      all_goals
        go_wp2
        go_ret2
        exact ⟨ao, cap, by rw [HE1.out, HE2.out]; rfl, by rw [HE1.out]; exact hown, hbel.drew⟩
end Go.Proofs.YtfacdiimoncnnaaDoor
