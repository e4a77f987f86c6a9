/- Contracts: a text cut at a byte; whether it is a domain. -/
import Derived.Test.YtecjifbckjclfaaDoorWord
import Derived.Test.YtecjifbckjclfaaDoorShelf
import Derived.Maps.AppendAt
namespace Go.Proofs.YtecjifbckjclfaaDoor
open Go Go.RowKit

theorem infoStr : (Tryd.prog.info? 9).map (fun i => (i.zero, i.size, i.bytes)) = some (some (.string ByteArray.empty), 1, 16) := by kernel_rfl

theorem own_shape {w : World} {base : Nat} {e : TypeId} {size : Nat} {v : Value} {n : Nat} {xs : List Value} (h : w.ownsRow base e size v n xs) : ∃ ao cap, v = .slice ao n cap := by
  rcases h.2 with ⟨h', rfl⟩ | ⟨g, cap, cur, h', _⟩
  · exact ⟨_, _, h'⟩
  · exact ⟨_, _, h'⟩

/-- Behind an append onto a row of the call's own: what lay below is as it was. -/
theorem app_below {B : Nat} {w wr w1 : World} {e : TypeId} {size : Nat} {v : Value} {n : Nat} {xs : List Value} {o : Obj} (hbel : Below B w wr) (hB : B ≤ wr.heap.size) (hown : wr.ownsRow B e size v n xs) (hg : (wr.alloc o).grownBy w1 v.ownBlock) : Below B w w1 :=
  (hbel.alloc hB o).grown hg (by simp; omega) (fun j hj => (hown.lt j hj).1)

theorem own_snoc {w : World} {B e : Nat} {v : Value} {D : List ByteArray} {x : ByteArray} (h : w.ownsRow B e 1 v (D.length + 1) (D.map Value.string ++ [.string x])) : w.ownsRow B e 1 v (D ++ [x]).length ((D ++ [x]).map Value.string) := by
  simpa using h

def RowPost (w : World) (xs : List ByteArray) (e : Ending) (w' : World) : Prop :=
  ∃ v, e = .returned v ∧ w'.ownsRow w.heap.size 9 1 v xs.length (xs.map Value.string) ∧ Below w.heap.size w w'

set_option maxHeartbeats 800000 in
theorem l1Cut_any (s : ByteArray) (b : UInt8) (most : Nat) (w : World) (hs : s.size ≤ 140737488351232) (hm : most ≤ 1048576) :
    Calls Tryd.prog 159 #[.string s, .int .u8 b.toNat, .int .i64 most] w (RowPost w (piecesB b most s)) := by
  obtain ⟨i0, hi, hz0, hz1, hz2⟩ := info_parts infoStr
  go_enter Tryd.func159, Tryd.ntmps159
  go_wp2
  go_loopw [7, 8, 9] (fun v f i wr => ∃ (k fr : Nat) (D : List ByteArray), i = .int .i64 k ∧ f = .int .i64 fr ∧ k ≤ s.size ∧ fr ≤ k ∧ D.length ≤ most ∧ Hid (CutInv b most s k fr D) ∧
      wr.ownsRow w.heap.size 9 1 v D.length (D.map Value.string) ∧ Below w.heap.size w wr)
    (fun _ _ i _ => s.size - (intOf i).toNat)
  case atStart => exact ⟨0, 0, [], rfl, rfl, Nat.zero_le _, Nat.le_refl _, Nat.zero_le _, Lib.hid (cut_start b most s), World.ownsRow_made w #[] 0 (Nat.le_refl _) (by unfold maxLen; omega) rfl, (Below.refl _ _).alloc (Nat.le_refl _) _⟩
  case round =>
    obtain ⟨k, fr, D, rfl, rfl, hk, hf, hD, HC, hown, hbel⟩ := hrel
    obtain ⟨ao, cap, rfl⟩ := own_shape hown
    have hsz := hbel.size
    by_cases hlt : k < s.size
    · by_cases hl : D.length < most
      · by_cases hc : s[k] = b
        · have hb1 : ((s[k].toNat : Int) == (b.toNat : Int)) = true := by rw [hc]; simp
          have HN := Lib.hid (cut_hit HC.out hlt hl hc)
          clear hc HC
          go_wp2_with (at_builtin; refine wpList_append_own _ rfl _ _ 23 rfl w.heap.size 9 i0 (.string ByteArray.empty) 1 16 Tryd.underlying23 hi hz0 hz1 hz2 rfl (by decide) _ _ _ rfl (hown.alloc _) ⟨wr.heap.size, 0, none⟩ 1 1 [.string (s.extract fr k)] rfl rfl ?c1 ?c2 ?c3 ?c4 ?c5 ?_)
          case c1 => exact cell_one_new _ _ _
          case c2 => intro u hu; simp at hu; subst hu; rfl
          case c3 => unfold maxLen; omega
          case c4 => omega
          case c5 => simp; omega
          intro v' w1 hown' hgrow _
          have hb1 := app_below hbel hsz hown hgrow
          have ho1 := own_snoc hown'
          clear hown hbel hown' hgrow
          go_wp2
          go_roundw
          case rel => exact ⟨k + 1, k + 1, D ++ [s.extract fr k], by go_num, by go_num, by omega, by omega, by simp; omega, HN, ho1, hb1⟩
          case measure => simp [intOf]; omega
        · have hb1 : ((s[k].toNat : Int) == (b.toNat : Int)) = false := by
            rw [beq_eq_false_iff_ne]
            intro e
            exact hc (UInt8.toNat_inj.1 (by omega))
          have HN := Lib.hid (cut_skip HC.out hlt hc)
          clear hc HC
          go_wp2
          go_roundw
          case rel => exact ⟨k + 1, fr, D, by go_num, rfl, by omega, by omega, hD, HN, hown, hbel⟩
          case measure => simp [intOf]; omega
      · have HE := Lib.hid (cut_end HC.out (.inr (by omega)))
        go_wp2_with (at_builtin; refine wpList_append_own _ rfl _ _ 23 rfl w.heap.size 9 i0 (.string ByteArray.empty) 1 16 Tryd.underlying23 hi hz0 hz1 hz2 rfl (by decide) _ _ _ rfl (hown.alloc _) ⟨wr.heap.size, 0, none⟩ 1 1 [.string (s.extract fr s.size)] rfl rfl ?c1 ?c2 ?c3 ?c4 ?c5 ?_)
        case c1 => exact cell_one_new _ _ _
        case c2 => intro u hu; simp at hu; subst hu; rfl
        case c3 => unfold maxLen; omega
        case c4 => omega
        case c5 => simp; omega
        intro v' w1 hown' hgrow _
        have hb1 := app_below hbel hsz hown hgrow
        have ho1 := own_snoc hown'
        clear hown hbel hown' hgrow
        go_wp2
        go_ret
        exact ⟨v', rfl, by rw [← HE.out]; exact ho1, hb1⟩
    · have HE := Lib.hid (cut_end HC.out (.inl (by omega)))
      go_wp2_with (at_builtin; refine wpList_append_own _ rfl _ _ 23 rfl w.heap.size 9 i0 (.string ByteArray.empty) 1 16 Tryd.underlying23 hi hz0 hz1 hz2 rfl (by decide) _ _ _ rfl (hown.alloc _) ⟨wr.heap.size, 0, none⟩ 1 1 [.string (s.extract fr s.size)] rfl rfl ?c1 ?c2 ?c3 ?c4 ?c5 ?_)
      case c1 => exact cell_one_new _ _ _
      case c2 => intro u hu; simp at hu; subst hu; rfl
      case c3 => unfold maxLen; omega
      case c4 => omega
      case c5 => simp; omega
      intro v' w1 hown' hgrow _
      have hb1 := app_below hbel hsz hown hgrow
      have ho1 := own_snoc hown'
      clear hown hbel hown' hgrow
      go_wp2
      go_ret
      exact ⟨v', rfl, by rw [← HE.out]; exact ho1, hb1⟩

theorem own_cell {w : World} {base : Nat} {e : TypeId} {g n cap : Nat} {xs : List ByteArray} (h : w.ownsRow base e 1 (.slice (some ⟨g, 0, none⟩) n cap) n (xs.map Value.string)) {k : Nat} {x : ByteArray} (hk : k < n) (hx : xs[k]? = some x) : w.cell? ⟨g, k, none⟩ = some (.string x) := by
  rw [h.cellAt k (by omega), List.getElem?_map, hx]; rfl

theorem own_pos {w : World} {base : Nat} {e : TypeId} {size : Nat} {v : Value} {n : Nat} {xs : List Value} (h : w.ownsRow base e size v n xs) (h0 : 0 < n) : ∃ g cap, v = .slice (some ⟨g, 0, none⟩) n cap := by
  rcases h.2 with ⟨_, e⟩ | ⟨g, cap, _, rfl, _⟩
  · omega
  · exact ⟨g, cap, rfl⟩

set_option maxHeartbeats 800000 in
theorem l1Domain_any (s : ByteArray) (w : World) (hs : s.size ≤ 140737488351232) :
    Calls Tryd.prog 86 #[.string s] w fun e w' => e = .returned (.bool (domB s)) ∧ Below w.heap.size w w' := by
  have hlen := pieces_length 46 3 s
  have hpos := pieces_pos 46 3 s
  go_enter Tryd.func86, Tryd.ntmps86
  go_wp2_with (go_at_call 159; refine (l1Cut_any s 46 3 _ hs (by omega)).mono ?_; rintro e w' ⟨v, rfl, hown, hbel⟩; obtain ⟨g, cap, rfl⟩ := own_pos hown hpos)
  go_loop [4] (fun i => ∃ k : Nat, k ≤ (piecesB 46 3 s).length ∧ i = .int .i64 k ∧ Hid (((piecesB 46 3 s).take k).all wordB = true)) (fun i => (piecesB 46 3 s).length - (intOf i).toNat)
  case atStart => exact ⟨0, Nat.zero_le _, rfl, Lib.hid (by simp)⟩
  case round =>
    obtain ⟨k, hk, rfl, H⟩ := hrel
    by_cases hlt : k < (piecesB 46 3 s).length
    · obtain ⟨x, hx⟩ : ∃ x, (piecesB 46 3 s)[k]? = some x := ⟨_, List.getElem?_eq_getElem hlt⟩
      have hcell := own_cell hown hlt hx
      have hxs := pieces_size 46 3 s x (List.mem_of_getElem? hx)
      have HX := Lib.hid hx
      clear hx
      cases hc : wordB x
      · have hm : Hid (domB s = false) := Lib.hid (domB_miss HX.out hc)
        have HC := Lib.hid hc
        clear hc
        go_wp2_with (go_at_call 160; refine (l1Word_any x _ (by unfold maxLen; omega)).mono ?_; rintro e w1 ⟨rfl, rfl⟩; rw [HC.out])
        go_ret
        exact ⟨ret_b hm.out.symm, hbel⟩
      · have HC := Lib.hid hc
        clear hc
        go_wp2_with (go_at_call 160; refine (l1Word_any x _ (by unfold maxLen; omega)).mono ?_; rintro e w1 ⟨rfl, rfl⟩; rw [HC.out])
        go_round
        case rel => exact ⟨k + 1, by omega, by go_num, Lib.hid (list_all_succ HX.out H.out HC.out)⟩
        case measure => simp [intOf]; omega
    · have hm : Hid (domB s = decide (((piecesB 46 3 s).length : Int) ≤ 3)) := Lib.hid (domB_end (by omega) H.out)
      go_wp2
      go_ret
      exact ⟨ret_b hm.out.symm, hbel⟩

/-- strings.SplitN at a point, four pieces at most. -/
theorem splitN_dot (s : ByteArray) (w : World) (m : Int) (hm : w.cell? ⟨0, 0, none⟩ = some (.int .i64 m)) (hs : s.size < 4294967281) :
    Calls Tryd.prog 180 #[.string s, .string ⟨#[46]⟩, .int .i64 4] w fun e w' => ∃ g cap, e = .returned (.slice (some ⟨g, 0, none⟩) (piecesB 46 3 s).length cap) ∧
      Below w.heap.size w w' ∧ ∀ k x, k < (piecesB 46 3 s).length → (piecesB 46 3 s)[k]? = some x → w'.cell? ⟨g, k, none⟩ = some (.string x) := by
  refine (Tryd.strings_SplitN s (sep1 46) 4 m w hs hm (Nat.le_refl _) (by omega) (by omega)).mono ?_
  rintro e w' ⟨rfl, rfl⟩
  rw [pieces_min 46 3 s]
  refine ⟨_, _, rfl, (Below.refl _ _).alloc (Nat.le_refl _) _, fun k x hk hx => ?_⟩
  rw [World.cell?_alloc_at _ _ _ _ rfl]
  unfold Lib.cellsOf
  rw [List.getElem?_toArray, List.getElem?_append_left (by simpa using hk), List.getElem?_map, hx]
  rfl

theorem valid_any (s : ByteArray) (w : World) (m : Int) (hm : w.cell? ⟨0, 0, none⟩ = some (.int .i64 m)) (hs : s.size < 4294967281) :
    Calls Tryd.prog 114 #[.string s] w fun e w' => e = .returned (.bool (domB s)) ∧ Below w.heap.size w w' := by
  have hlen := pieces_length 46 3 s
  have hpos := pieces_pos 46 3 s
  by_cases h3 : 3 < (piecesB 46 3 s).length
  · have hm1 : Hid (domB s = false) := Lib.hid (domB_many h3)
    go_enter Tryd.func114, Tryd.ntmps114
    go_wp2_with (go_at_call 180; refine (splitN_dot s _ m hm hs).mono ?_; rintro e w' ⟨g, cap, rfl, hbel, hcells⟩; clear hcells)
    go_ret
    exact ⟨ret_b hm1.out.symm, hbel⟩
  · go_enter Tryd.func114, Tryd.ntmps114
    go_wp2_with (go_at_call 180; refine (splitN_dot s _ m hm hs).mono ?_; rintro e w' ⟨g, cap, rfl, hbel, hcells'⟩; have hcells := Lib.hid hcells'; clear hcells')
    go_loop [13] (fun i => ∃ k : Nat, k ≤ (piecesB 46 3 s).length ∧ i = .int .i64 k ∧ Hid (((piecesB 46 3 s).take k).all wordB = true)) (fun i => (piecesB 46 3 s).length - (intOf i).toNat)
    case atStart => exact ⟨0, Nat.zero_le _, rfl, Lib.hid (by simp)⟩
    case round =>
      obtain ⟨k, hk, rfl, H⟩ := hrel
      by_cases hlt : k < (piecesB 46 3 s).length
      · obtain ⟨x, hx⟩ : ∃ x, (piecesB 46 3 s)[k]? = some x := ⟨_, List.getElem?_eq_getElem hlt⟩
        have hcell := hcells.out k x hlt hx
        have hxs := pieces_size 46 3 s x (List.mem_of_getElem? hx)
        have HX := Lib.hid hx
        clear hx
        cases hc : wordB x
        · have hm1 : Hid (domB s = false) := Lib.hid (domB_miss HX.out hc)
          have HC := Lib.hid hc
          clear hc
          go_wp2_with (go_at_call 118; refine (isLabel_any x _ (by unfold maxLen; omega)).mono ?_; rintro e w1 ⟨rfl, rfl⟩; rw [HC.out])
          go_ret
          exact ⟨ret_b hm1.out.symm, hbel⟩
        · have HC := Lib.hid hc
          clear hc
          go_wp2_with (go_at_call 118; refine (isLabel_any x _ (by unfold maxLen; omega)).mono ?_; rintro e w1 ⟨rfl, rfl⟩; rw [HC.out])
          go_round
          case rel => exact ⟨k + 1, by omega, by go_num, Lib.hid (list_all_succ HX.out H.out HC.out)⟩
          case measure => simp [intOf]; omega
      · have hm1 : Hid (domB s = true) := Lib.hid ((domB_end (by omega) H.out).trans (decide_eq_true (by omega)))
        go_wp2
        go_ret
        exact ⟨ret_b hm1.out.symm, hbel⟩

theorem implDomainOk_any (s : ByteArray) (w : World) (m : Int) (hm : w.cell? ⟨0, 0, none⟩ = some (.int .i64 m)) (hs : s.size < 4294967281) :
    Calls Tryd.prog 39 #[.string s] w fun e w' => e = .returned (.bool (domB s)) ∧ Below w.heap.size w w' := by
  go_enter Tryd.func39, Tryd.ntmps39
  go_wp2_with (go_at_call 114; refine (valid_any s _ m hm hs).mono ?_; rintro e w1 ⟨rfl, hbel⟩)
  go_ret
  exact ⟨rfl, hbel⟩

end Go.Proofs.YtecjifbckjclfaaDoor
