/- Word, Cut, Ends, Addr, AddrPut. -/
import Derived.Test.YtcaknjdolfheaaaDoorProg
import Derived.Test.YtcaknjdolfheaaaDoorPlains
import Derived.WalkKit
import Derived.Lib.Hide
import Derived.Outline
import Derived.Test.YtcaknjdolfheaaaDoorShelf
import Derived.Maps.AppendAt
import Derived.WalkSpells
import Derived.WalkLawsBesides
namespace Go.Proofs.YtcaknjdolfheaaaDoor
open Go Go.RowKit

theorem ret_b {a b : Bool} (h : a = b) : Ending.returned (.bool a) = .returned (.bool b) := by rw [h]

theorem l1In_any (n lo hi : Int) (w : World) :
    Calls Tryd.prog 46 #[.int .i64 n, .int .i64 lo, .int .i64 hi] w fun e w' => e = .returned (.bool (inB n lo hi)) ∧ w = w' := by
  rcases (show n < lo ∨ (lo ≤ n ∧ n ≤ hi) ∨ (lo ≤ n ∧ hi < n) by omega) with h | ⟨h, h'⟩ | ⟨h, h'⟩
  · have hm : Hid (inB n lo hi = false) := Lib.hid (inB_false (by omega))
    go_enter Tryd.func46, Tryd.ntmps46
    go_wp2
    go_ret
    exact ⟨ret_b hm.out.symm, rfl⟩
  · have hm : Hid (inB n lo hi = true) := Lib.hid (inB_true (by omega))
    go_enter Tryd.func46, Tryd.ntmps46
    go_wp2
    go_ret
    exact ⟨ret_b hm.out.symm, rfl⟩
  · have d1 : decide (n ≤ hi) = false := decide_eq_false (by omega)
    have hm : Hid (inB n lo hi = false) := Lib.hid (inB_false (by omega))
    go_enter Tryd.func46, Tryd.ntmps46
    go_wp2
    go_ret
    exact ⟨ret_b hm.out.symm, rfl⟩

set_option maxHeartbeats 400000 in
theorem l1Word_any (s : ByteArray) (w : World) (hs : s.size ≤ maxLen) :
    Calls Tryd.prog 112 #[.string s] w fun e w' => e = .returned (.bool (wordB s)) ∧ w = w' := by
  unfold maxLen at hs
  go_enter Tryd.func112, Tryd.ntmps112
  go_wp2
  go_loop [3] (fun i => ∃ k : Nat, k ≤ s.size ∧ i = .int .i64 k ∧ Hid ((s.data.toList.take k).all chB = true)) (fun i => s.size - (intOf i).toNat)
  case atStart => exact ⟨0, Nat.zero_le _, rfl, Lib.hid (by simp)⟩
  case round =>
    obtain ⟨k, hk, rfl, H⟩ := hrel
    by_cases hlt : k < s.size
    · rcases (show ((s[k].toNat : Int) < 48) ∨ ((48 : Int) ≤ s[k].toNat ∧ (s[k].toNat : Int) ≤ 57) ∨ ((57 : Int) < s[k].toNat ∧ (s[k].toNat : Int) < 97) ∨ ((97 : Int) ≤ s[k].toNat ∧ (s[k].toNat : Int) ≤ 122) ∨ ((122 : Int) < s[k].toNat) by omega) with h | ⟨h, h'⟩ | ⟨h, h'⟩ | ⟨h, h'⟩ | h
      · have hm : Hid (wordB s = false) := Lib.hid (wordB_miss hlt (by simp [chB]; omega))
        go_wp2
        go_ret
        exact ⟨ret_b hm.out.symm, rfl⟩
      · go_wp2
        go_round
        case rel => exact ⟨k + 1, by omega, by go_num, Lib.hid (all_take_succ hlt H.out (by simp [chB]; omega))⟩
        case measure => simp [intOf]; omega
      · have hm : Hid (wordB s = false) := Lib.hid (wordB_miss hlt (by simp [chB]; omega))
        go_wp2
        go_ret
        exact ⟨ret_b hm.out.symm, rfl⟩
      · go_wp2
        go_round
        case rel => exact ⟨k + 1, by omega, by go_num, Lib.hid (all_take_succ hlt H.out (by simp [chB]; omega))⟩
        case measure => simp [intOf]; omega
      · have hm : Hid (wordB s = false) := Lib.hid (wordB_miss hlt (by simp [chB]; omega))
        go_wp2
        go_ret
        exact ⟨ret_b hm.out.symm, rfl⟩
    · have hm : Hid (wordB s = inB s.size 1 8) := Lib.hid (wordB_end (by omega) H.out)
      go_wp2_with (go_at_call 46; refine (l1In_any _ _ _ _).mono ?_; rintro e w' ⟨rfl, rfl⟩)
      go_ret
      exact ⟨ret_b hm.out.symm, rfl⟩

theorem isLabelByte_is (b : UInt8) (v : Bool) (h : chB b = v) (w : World) :
    Calls Tryd.prog 125 #[.int .u8 b.toNat] w fun e w' => e = .returned (.bool v) ∧ w = w' := by
  rcases (show ((b.toNat : Int) < 48) ∨ ((48 : Int) ≤ b.toNat ∧ (b.toNat : Int) ≤ 57) ∨ ((57 : Int) < b.toNat ∧ (b.toNat : Int) < 97) ∨ ((97 : Int) ≤ b.toNat ∧ (b.toNat : Int) ≤ 122) ∨ ((122 : Int) < b.toNat) by omega) with g | ⟨g, g'⟩ | ⟨g, g'⟩ | ⟨g, g'⟩ | g
  · obtain rfl : v = false := h.symm.trans (chB_false (by omega))
    clear h
    go_enter Tryd.func125, Tryd.ntmps125
    go_wp2
    go_ret
    exact ⟨rfl, rfl⟩
  · obtain rfl : v = true := h.symm.trans (chB_true (by omega))
    clear h
    go_enter Tryd.func125, Tryd.ntmps125
    go_wp2
    go_ret
    exact ⟨rfl, rfl⟩
  · obtain rfl : v = false := h.symm.trans (chB_false (by omega))
    clear h
    have d1 : decide ((b.toNat : Int) ≤ 57) = false := decide_eq_false (by omega)
    go_enter Tryd.func125, Tryd.ntmps125
    go_wp2
    go_ret
    exact ⟨rfl, rfl⟩
  · obtain rfl : v = true := h.symm.trans (chB_true (by omega))
    clear h
    go_enter Tryd.func125, Tryd.ntmps125
    go_wp2
    go_ret
    exact ⟨rfl, rfl⟩
  · obtain rfl : v = false := h.symm.trans (chB_false (by omega))
    clear h
    have d1 : decide ((b.toNat : Int) ≤ 57) = false := decide_eq_false (by omega)
    have d2 : decide ((b.toNat : Int) ≤ 122) = false := decide_eq_false (by omega)
    go_enter Tryd.func125, Tryd.ntmps125
    go_wp2
    go_ret
    exact ⟨rfl, rfl⟩

set_option maxHeartbeats 400000 in
theorem isLabel_any (s : ByteArray) (w : World) (hs : s.size ≤ maxLen) :
    Calls Tryd.prog 121 #[.string s] w fun e w' => e = .returned (.bool (wordB s)) ∧ w = w' := by
  unfold maxLen at hs
  rcases (show s.size < 1 ∨ (1 ≤ s.size ∧ s.size ≤ 8) ∨ 8 < s.size by omega) with h | ⟨h, h'⟩ | h
  · have hm : Hid (wordB s = false) := Lib.hid (wordB_size (by omega))
    go_enter Tryd.func121, Tryd.ntmps121
    go_wp2
    go_ret
    exact ⟨ret_b hm.out.symm, rfl⟩
  · go_enter Tryd.func121, Tryd.ntmps121
    go_wp2
    go_loop [14] (fun i => ∃ k : Nat, k ≤ s.size ∧ i = .int .i64 k ∧ Hid ((s.data.toList.take k).all chB = true)) (fun i => s.size - (intOf i).toNat)
    case atStart => exact ⟨0, Nat.zero_le _, rfl, Lib.hid (by simp)⟩
    case round =>
      obtain ⟨k, hk, rfl, H⟩ := hrel
      by_cases hlt : k < s.size
      · cases hc : chB s[k]
        · have hm : Hid (wordB s = false) := Lib.hid (wordB_miss hlt hc)
          have HC := Lib.hid hc
          clear hc
          go_wp2_with (go_at_call 125; refine (isLabelByte_is _ false HC.out _).mono ?_; rintro e w' ⟨rfl, rfl⟩)
          go_ret
          exact ⟨ret_b hm.out.symm, rfl⟩
        · have HC := Lib.hid hc
          clear hc
          go_wp2_with (go_at_call 125; refine (isLabelByte_is _ true HC.out _).mono ?_; rintro e w' ⟨rfl, rfl⟩)
          go_round
          case rel => exact ⟨k + 1, by omega, by go_num, Lib.hid (all_take_succ hlt H.out HC.out)⟩
          case measure => simp [intOf]; omega
      · have hm : Hid (wordB s = true) := Lib.hid ((wordB_end (by omega) H.out).trans (inB_true (by omega)))
        go_wp2
        go_ret
        exact ⟨ret_b hm.out.symm, rfl⟩
  · have hm : Hid (wordB s = false) := Lib.hid (wordB_size (by omega))
    go_enter Tryd.func121, Tryd.ntmps121
    go_wp2
    go_ret
    exact ⟨ret_b hm.out.symm, rfl⟩
end Go.Proofs.YtcaknjdolfheaaaDoor
namespace Go.Proofs.YtcaknjdolfheaaaDoor
open Go Go.RowKit

theorem infoStr : (Tryd.prog.info? 9).map (fun i => (i.zero, i.size, i.bytes)) = some (some (.string ByteArray.empty), 1, 16) := by kernel_rfl

theorem own_shape {w : World} {base : Nat} {e : TypeId} {size : Nat} {v : Value} {n : Nat} {xs : List Value} (h : w.ownsRow base e size v n xs) : ∃ ao cap, v = .slice ao n cap := by
  rcases h.2 with ⟨h', rfl⟩ | ⟨g, cap, cur, h', _⟩
  · exact ⟨_, _, h'⟩
  · exact ⟨_, _, h'⟩

/-- Behind an append onto a row of the call's own: what lay below is as it was. -/
theorem app_below {B : Nat} {w wr w1 : World} {e : TypeId} {size : Nat} {v : Value} {n : Nat} {xs : List Value} {o : Obj} (hbel : Below B w wr) (hB : B ≤ wr.heap.size) (hown : wr.ownsRow B e size v n xs) (hg : (wr.alloc o).grownBy w1 v.ownBlock) : Below B w w1 :=
  (hbel.alloc hB o).grown hg (by simp; omega) (fun j hj => (hown.lt j hj).1)

theorem own_snoc {w : World} {B e : Nat} {v : Value} {D : List ByteArray} {x : ByteArray} (h : w.ownsRow B e 1 v (D.length + 1) (D.map Value.string ++ [.string x])) : w.ownsRow B e 1 v (D ++ [x]).length ((D ++ [x]).map Value.string) := by
  simpa using h

def RowPost (w : World) (xs : List ByteArray) (e : Ending) (w' : World) : Prop :=
  ∃ v, e = .returned v ∧ w'.ownsRow w.heap.size 9 1 v xs.length (xs.map Value.string) ∧ Below w.heap.size w w'

set_option maxHeartbeats 800000 in
theorem l1Cut_any (s : ByteArray) (b : UInt8) (most : Nat) (w : World) (hs : s.size ≤ 140737488351232) (hm : most ≤ 1048576) :
    Calls Tryd.prog 120 #[.string s, .int .u8 b.toNat, .int .i64 most] w (RowPost w (piecesB b most s)) := by
  obtain ⟨i0, hi, hz0, hz1, hz2⟩ := info_parts infoStr
  go_enter Tryd.func120, Tryd.ntmps120
  go_wp2
  go_loopw [7, 8, 9] (fun v f i wr => ∃ (k fr : Nat) (D : List ByteArray), i = .int .i64 k ∧ f = .int .i64 fr ∧ k ≤ s.size ∧ fr ≤ k ∧ D.length ≤ most ∧ Hid (CutInv b most s k fr D) ∧
      wr.ownsRow w.heap.size 9 1 v D.length (D.map Value.string) ∧ Below w.heap.size w wr)
    (fun _ _ i _ => s.size - (intOf i).toNat)
  case atStart => exact ⟨0, 0, [], rfl, rfl, Nat.zero_le _, Nat.le_refl _, Nat.zero_le _, Lib.hid (cut_start b most s), World.ownsRow_made w #[] 0 (Nat.le_refl _) (by unfold maxLen; omega) rfl, (Below.refl _ _).alloc (Nat.le_refl _) _⟩
  case round =>
    obtain ⟨k, fr, D, rfl, rfl, hk, hf, hD, HC, hown, hbel⟩ := hrel
    obtain ⟨ao, cap, rfl⟩ := own_shape hown
    have hsz := hbel.size
    by_cases hlt : k < s.size
    · by_cases hl : D.length < most
      · by_cases hc : s[k] = b
        · have hb1 : ((s[k].toNat : Int) == (b.toNat : Int)) = true := by rw [hc]; simp
          have HN := Lib.hid (cut_hit HC.out hlt hl hc)
          clear hc HC
          go_wp2_with (at_builtin; refine wpList_append_own _ rfl _ _ 40 rfl w.heap.size 9 i0 (.string ByteArray.empty) 1 16 Tryd.underlying40 hi hz0 hz1 hz2 rfl (by decide) _ _ _ rfl (hown.alloc _) ⟨wr.heap.size, 0, none⟩ 1 1 [.string (s.extract fr k)] rfl rfl ?c1 ?c2 ?c3 ?c4 ?c5 ?_)
          case c1 => exact cell_one_new _ _ _
          case c2 => intro u hu; simp at hu; subst hu; rfl
          case c3 => unfold maxLen; omega
          case c4 => omega
          case c5 => simp; omega
          intro v' w1 hown' hgrow _
          have hb1 := app_below hbel hsz hown hgrow
          have ho1 := own_snoc hown'
          clear hown hbel hown' hgrow
          go_wp2
          go_roundw
          case rel => exact ⟨k + 1, k + 1, D ++ [s.extract fr k], by go_num, by go_num, by omega, by omega, by simp; omega, HN, ho1, hb1⟩
          case measure => simp [intOf]; omega
        · have hb1 : ((s[k].toNat : Int) == (b.toNat : Int)) = false := by
            rw [beq_eq_false_iff_ne]
            intro e
            exact hc (UInt8.toNat_inj.1 (by omega))
          have HN := Lib.hid (cut_skip HC.out hlt hc)
          clear hc HC
          go_wp2
          go_roundw
          case rel => exact ⟨k + 1, fr, D, by go_num, rfl, by omega, by omega, hD, HN, hown, hbel⟩
          case measure => simp [intOf]; omega
      · have HE := Lib.hid (cut_end HC.out (.inr (by omega)))
        go_wp2_with (at_builtin; refine wpList_append_own _ rfl _ _ 40 rfl w.heap.size 9 i0 (.string ByteArray.empty) 1 16 Tryd.underlying40 hi hz0 hz1 hz2 rfl (by decide) _ _ _ rfl (hown.alloc _) ⟨wr.heap.size, 0, none⟩ 1 1 [.string (s.extract fr s.size)] rfl rfl ?c1 ?c2 ?c3 ?c4 ?c5 ?_)
        case c1 => exact cell_one_new _ _ _
        case c2 => intro u hu; simp at hu; subst hu; rfl
        case c3 => unfold maxLen; omega
        case c4 => omega
        case c5 => simp; omega
        intro v' w1 hown' hgrow _
        have hb1 := app_below hbel hsz hown hgrow
        have ho1 := own_snoc hown'
        clear hown hbel hown' hgrow
        go_wp2
        go_ret
        exact ⟨v', rfl, by rw [← HE.out]; exact ho1, hb1⟩
    · have HE := Lib.hid (cut_end HC.out (.inl (by omega)))
      go_wp2_with (at_builtin; refine wpList_append_own _ rfl _ _ 40 rfl w.heap.size 9 i0 (.string ByteArray.empty) 1 16 Tryd.underlying40 hi hz0 hz1 hz2 rfl (by decide) _ _ _ rfl (hown.alloc _) ⟨wr.heap.size, 0, none⟩ 1 1 [.string (s.extract fr s.size)] rfl rfl ?c1 ?c2 ?c3 ?c4 ?c5 ?_)
      case c1 => exact cell_one_new _ _ _
      case c2 => intro u hu; simp at hu; subst hu; rfl
      case c3 => unfold maxLen; omega
      case c4 => omega
      case c5 => simp; omega
      intro v' w1 hown' hgrow _
      have hb1 := app_below hbel hsz hown hgrow
      have ho1 := own_snoc hown'
      clear hown hbel hown' hgrow
      go_wp2
      go_ret
      exact ⟨v', rfl, by rw [← HE.out]; exact ho1, hb1⟩

theorem own_cell {w : World} {base : Nat} {e : TypeId} {g n cap : Nat} {xs : List ByteArray} (h : w.ownsRow base e 1 (.slice (some ⟨g, 0, none⟩) n cap) n (xs.map Value.string)) {k : Nat} {x : ByteArray} (hk : k < n) (hx : xs[k]? = some x) : w.cell? ⟨g, k, none⟩ = some (.string x) := by
  rw [h.cellAt k (by omega), List.getElem?_map, hx]; rfl

theorem own_pos {w : World} {base : Nat} {e : TypeId} {size : Nat} {v : Value} {n : Nat} {xs : List Value} (h : w.ownsRow base e size v n xs) (h0 : 0 < n) : ∃ g cap, v = .slice (some ⟨g, 0, none⟩) n cap := by
  rcases h.2 with ⟨_, e⟩ | ⟨g, cap, _, rfl, _⟩
  · omega
  · exact ⟨g, cap, rfl⟩

set_option maxHeartbeats 800000 in
theorem l1Domain_any (s : ByteArray) (w : World) (hs : s.size ≤ 140737488351232) :
    Calls Tryd.prog 113 #[.string s] w fun e w' => e = .returned (.bool (domB s)) ∧ Below w.heap.size w w' := by
  have hlen := pieces_length 46 3 s
  have hpos := pieces_pos 46 3 s
  go_enter Tryd.func113, Tryd.ntmps113
  go_wp2_with (go_at_call 120; refine (l1Cut_any s 46 3 _ hs (by omega)).mono ?_; rintro e w' ⟨v, rfl, hown, hbel⟩; obtain ⟨g, cap, rfl⟩ := own_pos hown hpos)
  go_loop [4] (fun i => ∃ k : Nat, k ≤ (piecesB 46 3 s).length ∧ i = .int .i64 k ∧ Hid (((piecesB 46 3 s).take k).all wordB = true)) (fun i => (piecesB 46 3 s).length - (intOf i).toNat)
  case atStart => exact ⟨0, Nat.zero_le _, rfl, Lib.hid (by simp)⟩
  case round =>
    obtain ⟨k, hk, rfl, H⟩ := hrel
    by_cases hlt : k < (piecesB 46 3 s).length
    · obtain ⟨x, hx⟩ : ∃ x, (piecesB 46 3 s)[k]? = some x := ⟨_, List.getElem?_eq_getElem hlt⟩
      have hcell := own_cell hown hlt hx
      have hxs := pieces_size 46 3 s x (List.mem_of_getElem? hx)
      have HX := Lib.hid hx
      clear hx
      cases hc : wordB x
      · have hm : Hid (domB s = false) := Lib.hid (domB_miss HX.out hc)
        have HC := Lib.hid hc
        clear hc
        go_wp2_with (go_at_call 112; refine (l1Word_any x _ (by unfold maxLen; omega)).mono ?_; rintro e w1 ⟨rfl, rfl⟩; rw [HC.out])
        go_ret
        exact ⟨ret_b hm.out.symm, hbel⟩
      · have HC := Lib.hid hc
        clear hc
        go_wp2_with (go_at_call 112; refine (l1Word_any x _ (by unfold maxLen; omega)).mono ?_; rintro e w1 ⟨rfl, rfl⟩; rw [HC.out])
        go_round
        case rel => exact ⟨k + 1, by omega, by go_num, Lib.hid (list_all_succ HX.out H.out HC.out)⟩
        case measure => simp [intOf]; omega
    · have hm : Hid (domB s = decide (((piecesB 46 3 s).length : Int) ≤ 3)) := Lib.hid (domB_end (by omega) H.out)
      go_wp2
      go_ret
      exact ⟨ret_b hm.out.symm, hbel⟩

/-- strings.SplitN at a point, four pieces at most. -/
theorem splitN_dot (s : ByteArray) (w : World) (m : Int) (hm : w.cell? ⟨0, 0, none⟩ = some (.int .i64 m)) (hs : s.size < 4294967281) :
    Calls Tryd.prog 127 #[.string s, .string ⟨#[46]⟩, .int .i64 4] w fun e w' => ∃ g cap, e = .returned (.slice (some ⟨g, 0, none⟩) (piecesB 46 3 s).length cap) ∧
      Below w.heap.size w w' ∧ ∀ k x, k < (piecesB 46 3 s).length → (piecesB 46 3 s)[k]? = some x → w'.cell? ⟨g, k, none⟩ = some (.string x) := by
  refine (Tryd.strings_SplitN s (sep1 46) 4 m w hs hm (Nat.le_refl _) (by omega) (by omega)).mono ?_
  rintro e w' ⟨rfl, rfl⟩
  rw [pieces_min 46 3 s]
  refine ⟨_, _, rfl, (Below.refl _ _).alloc (Nat.le_refl _) _, fun k x hk hx => ?_⟩
  rw [World.cell?_alloc_at _ _ _ _ rfl]
  unfold Lib.cellsOf
  rw [List.getElem?_toArray, List.getElem?_append_left (by simpa using hk), List.getElem?_map, hx]
  rfl

theorem valid_any (s : ByteArray) (w : World) (m : Int) (hm : w.cell? ⟨0, 0, none⟩ = some (.int .i64 m)) (hs : s.size < 4294967281) :
    Calls Tryd.prog 126 #[.string s] w fun e w' => e = .returned (.bool (domB s)) ∧ Below w.heap.size w w' := by
  have hlen := pieces_length 46 3 s
  have hpos := pieces_pos 46 3 s
  by_cases h3 : 3 < (piecesB 46 3 s).length
  · have hm1 : Hid (domB s = false) := Lib.hid (domB_many h3)
    go_enter Tryd.func126, Tryd.ntmps126
    go_wp2_with (go_at_call 127; refine (splitN_dot s _ m hm hs).mono ?_; rintro e w' ⟨g, cap, rfl, hbel, hcells⟩; clear hcells)
    go_ret
    exact ⟨ret_b hm1.out.symm, hbel⟩
  · go_enter Tryd.func126, Tryd.ntmps126
    go_wp2_with (go_at_call 127; refine (splitN_dot s _ m hm hs).mono ?_; rintro e w' ⟨g, cap, rfl, hbel, hcells'⟩; have hcells := Lib.hid hcells'; clear hcells')
    go_loop [13] (fun i => ∃ k : Nat, k ≤ (piecesB 46 3 s).length ∧ i = .int .i64 k ∧ Hid (((piecesB 46 3 s).take k).all wordB = true)) (fun i => (piecesB 46 3 s).length - (intOf i).toNat)
    case atStart => exact ⟨0, Nat.zero_le _, rfl, Lib.hid (by simp)⟩
    case round =>
      obtain ⟨k, hk, rfl, H⟩ := hrel
      by_cases hlt : k < (piecesB 46 3 s).length
      · obtain ⟨x, hx⟩ : ∃ x, (piecesB 46 3 s)[k]? = some x := ⟨_, List.getElem?_eq_getElem hlt⟩
        have hcell := hcells.out k x hlt hx
        have hxs := pieces_size 46 3 s x (List.mem_of_getElem? hx)
        have HX := Lib.hid hx
        clear hx
        cases hc : wordB x
        · have hm1 : Hid (domB s = false) := Lib.hid (domB_miss HX.out hc)
          have HC := Lib.hid hc
          clear hc
          go_wp2_with (go_at_call 121; refine (isLabel_any x _ (by unfold maxLen; omega)).mono ?_; rintro e w1 ⟨rfl, rfl⟩; rw [HC.out])
          go_ret
          exact ⟨ret_b hm1.out.symm, hbel⟩
        · have HC := Lib.hid hc
          clear hc
          go_wp2_with (go_at_call 121; refine (isLabel_any x _ (by unfold maxLen; omega)).mono ?_; rintro e w1 ⟨rfl, rfl⟩; rw [HC.out])
          go_round
          case rel => exact ⟨k + 1, by omega, by go_num, Lib.hid (list_all_succ HX.out H.out HC.out)⟩
          case measure => simp [intOf]; omega
      · have hm1 : Hid (domB s = true) := Lib.hid ((domB_end (by omega) H.out).trans (decide_eq_true (by omega)))
        go_wp2
        go_ret
        exact ⟨ret_b hm1.out.symm, hbel⟩

theorem implDomainOk_any (s : ByteArray) (w : World) (m : Int) (hm : w.cell? ⟨0, 0, none⟩ = some (.int .i64 m)) (hs : s.size < 4294967281) :
    Calls Tryd.prog 122 #[.string s] w fun e w' => e = .returned (.bool (domB s)) ∧ Below w.heap.size w w' := by
  go_enter Tryd.func122, Tryd.ntmps122
  go_wp2_with (go_at_call 126; refine (valid_any s _ m hm hs).mono ?_; rintro e w1 ⟨rfl, hbel⟩)
  go_ret
  exact ⟨rfl, hbel⟩

end Go.Proofs.YtcaknjdolfheaaaDoor
namespace Go.Proofs.YtcaknjdolfheaaaDoor
open Go Go.RowKit

/-- bytealg.MaxLen holds an int. -/
def HasMax (w : World) : Prop := ∃ m : Int, w.cell? ⟨0, 0, none⟩ = some (.int .i64 m)
theorem HasMax.below {B : Nat} {w w' : World} (h : HasMax w) (hb : Below B w w') (hB : w.heap.size ≤ B) : HasMax w' := by
  obtain ⟨m, hm⟩ := h
  have := World.block_lt_of_cell? w _ hm
  exact ⟨m, (hb.cell (p := ⟨0, 0, none⟩) (by simp at this ⊢; omega)).trans hm⟩

theorem implDomainOk_max (s : ByteArray) (w : World) (hm : HasMax w) (hs : s.size < 4294967281) :
    Calls Tryd.prog 122 #[.string s] w fun e w' => e = .returned (.bool (domB s)) ∧ Below w.heap.size w w' := by
  obtain ⟨m, hm⟩ := hm
  exact implDomainOk_any s w m hm hs

end Go.Proofs.YtcaknjdolfheaaaDoor
namespace Go.Proofs.YtcaknjdolfheaaaDoor
open Go Go.RowKit

theorem ret_s {a b : ByteArray} (h : a = b) : Ending.returned (.string a) = .returned (.string b) := by rw [h]
theorem ret_i {a b : Int} (h : a = b) : Ending.returned (.int .i64 a) = .returned (.int .i64 b) := by rw [h]

theorem l1Null_is (u d : ByteArray) (v : Bool) (hv : nullB u d = v) (w : World) :
    Calls Tryd.prog 81 #[.agg #[.string u, .string d]] w fun e w' => e = .returned (.bool v) ∧ Below w.heap.size w w' := by
  cases v
  · rcases nullB_false hv with hu | ⟨hu, hd⟩
    · clear hv
      go_enter Tryd.func81, Tryd.ntmps81
      go_wp2
      go_ret
      exact ⟨rfl, (Below.refl _ _).alloc (Nat.le_refl _) _⟩
    · have hd' : d.toList.isEmpty = false := by simpa [List.isEmpty_iff] using hd
      clear hv
      go_enter Tryd.func81, Tryd.ntmps81
      go_wp2
      go_ret
      exact ⟨rfl, (Below.refl _ _).alloc (Nat.le_refl _) _⟩
  · obtain ⟨hu, hd⟩ := nullB_true hv
    have hd' : d.toList.isEmpty = true := by simp [hd]
    clear hv
    go_enter Tryd.func81, Tryd.ntmps81
    go_wp2
    go_ret
    exact ⟨rfl, (Below.refl _ _).alloc (Nat.le_refl _) _⟩

theorem isNull_is (u d : ByteArray) (v : Bool) (hv : nullB u d = v) (w : World) :
    Calls Tryd.prog 90 #[.agg #[.string u, .string d]] w fun e w' => e = .returned (.bool v) ∧ Below w.heap.size w w' := by
  cases v
  · rcases nullB_false hv with hu | ⟨hu, hd⟩
    · clear hv
      go_enter Tryd.func90, Tryd.ntmps90
      go_wp2
      go_ret
      exact ⟨rfl, (Below.refl _ _).alloc (Nat.le_refl _) _⟩
    · clear hv
      go_enter Tryd.func90, Tryd.ntmps90
      go_wp2
      go_ret
      exact ⟨rfl, (Below.refl _ _).alloc (Nat.le_refl _) _⟩
  · obtain ⟨hu, hd⟩ := nullB_true hv
    clear hv
    go_enter Tryd.func90, Tryd.ntmps90
    go_wp2
    go_ret
    exact ⟨rfl, (Below.refl _ _).alloc (Nat.le_refl _) _⟩

theorem l1Put_any (u d : ByteArray) (w : World) (hu : u.size ≤ 1048576) (hd : d.size ≤ 1048576) :
    Calls Tryd.prog 86 #[.agg #[.string u, .string d]] w fun e w' => e = .returned (.string (l1PutB u d)) ∧ Below w.heap.size w w' := by
  cases hn : nullB u d
  · have hm : Hid (l1PutB u d = wireB u d) := Lib.hid (by unfold l1PutB; rw [hn]; rfl)
    have HN := Lib.hid hn
    clear hn
    go_enter Tryd.func86, Tryd.ntmps86
    go_wp2_with (go_at_call 81; refine (l1Null_is u d false HN.out _).mono ?_; rintro e w1 ⟨rfl, hb1⟩; have hc1 := hb1.cell (p := ⟨w.heap.size, 0, none⟩) (by simp); have hc2 := hb1.cell (p := ⟨w.heap.size, 1, none⟩) (by simp))
    go_ret
    exact ⟨ret_s (by rw [hm.out]; rfl), ((Below.refl _ _).alloc (Nat.le_refl _) _).trans (hb1.mono (by simp))⟩
  · have hm : Hid (l1PutB u d = { data := #[60, 62] }) := Lib.hid (by unfold l1PutB; rw [hn]; rfl)
    have HN := Lib.hid hn
    clear hn
    go_enter Tryd.func86, Tryd.ntmps86
    go_wp2_with (go_at_call 81; refine (l1Null_is u d true HN.out _).mono ?_; rintro e w1 ⟨rfl, hb1⟩)
    go_ret
    exact ⟨ret_s hm.out.symm, ((Below.refl _ _).alloc (Nat.le_refl _) _).trans (hb1.mono (by simp))⟩

theorem l1AddrOk_any (u d : ByteArray) (w : World) (hu : u.size ≤ 140737488351232) (hd : d.size ≤ 140737488351232) :
    Calls Tryd.prog 83 #[.agg #[.string u, .string d]] w fun e w' => e = .returned (.bool (addrB u d)) ∧ Below w.heap.size w w' := by
  cases h1 : wordB u
  · have hm : Hid (addrB u d = false) := Lib.hid (by unfold addrB; rw [h1]; rfl)
    have H1 := Lib.hid h1
    clear h1
    go_enter Tryd.func83, Tryd.ntmps83
    go_wp2_with (go_at_call 112; refine (l1Word_any u _ (by unfold maxLen; omega)).mono ?_; rintro e w1 ⟨rfl, rfl⟩; rw [H1.out])
    go_ret
    exact ⟨ret_b hm.out.symm, (Below.refl _ _).alloc (Nat.le_refl _) _⟩
  · have hm : Hid (addrB u d = domB d) := Lib.hid (by unfold addrB; rw [h1]; rfl)
    have H1 := Lib.hid h1
    clear h1
    go_enter Tryd.func83, Tryd.ntmps83
    go_wp2_with (first | (go_at_call 112; refine (l1Word_any u _ (by unfold maxLen; omega)).mono ?_; rintro e w1 ⟨rfl, rfl⟩; rw [H1.out]) | (go_at_call 113; refine (l1Domain_any d _ hd).mono ?_; rintro e w2 ⟨rfl, hb2⟩))
    go_ret
    exact ⟨ret_b hm.out.symm, ((Below.refl _ _).alloc (Nat.le_refl _) _).trans (hb2.mono (by simp))⟩

theorem implAddrOk_any (u d : ByteArray) (w : World) (hm : HasMax w) (hu : u.size < 4294967281) (hd : d.size < 4294967281) :
    Calls Tryd.prog 115 #[.agg #[.string u, .string d]] w fun e w' => e = .returned (.bool (addrB u d)) ∧ Below w.heap.size w w' := by
  have hm1 := hm.below ((Below.refl w.heap.size w).alloc (Nat.le_refl _) (.cells #[.string u, .string d] 27)) (Nat.le_refl _)
  have HM := Lib.hid hm1
  clear hm hm1
  cases h1 : wordB u
  · have hq : Hid (addrB u d = false) := Lib.hid (by unfold addrB; rw [h1]; rfl)
    have H1 := Lib.hid h1
    clear h1
    go_enter Tryd.func115, Tryd.ntmps115
    go_wp2_with (go_at_call 121; refine (isLabel_any u _ (by unfold maxLen; omega)).mono ?_; rintro e w1 ⟨rfl, rfl⟩; rw [H1.out])
    go_ret
    exact ⟨ret_b hq.out.symm, (Below.refl _ _).alloc (Nat.le_refl _) _⟩
  · have hq : Hid (addrB u d = domB d) := Lib.hid (by unfold addrB; rw [h1]; rfl)
    have H1 := Lib.hid h1
    clear h1
    go_enter Tryd.func115, Tryd.ntmps115
    go_wp2_with (first | (go_at_call 121; refine (isLabel_any u _ (by unfold maxLen; omega)).mono ?_; rintro e w1 ⟨rfl, rfl⟩; rw [H1.out]) | (go_at_call 122; refine (implDomainOk_max d _ HM.out hd).mono ?_; rintro e w2 ⟨rfl, hb2⟩))
    go_ret
    exact ⟨ret_b hq.out.symm, ((Below.refl _ _).alloc (Nat.le_refl _) _).trans (hb2.mono (by simp))⟩

theorem toAddr_any (u d : ByteArray) (w : World) :
    Calls Tryd.prog 53 #[.agg #[.string u, .string d]] w fun e w' => e = .returned (.agg #[.string u, .string d]) ∧ Below w.heap.size w w' := by
  go_enter Tryd.func53, Tryd.ntmps53
  go_wp2
  exact bodyPost_ret (v := .agg #[.string u, .string d]) (by simp [results, Tryd.results53, go_sem]) rfl ⟨rfl, (((Below.refl _ _).alloc (Nat.le_refl _) _).alloc (by simp) _).alloc (by simp; omega) _⟩

theorem eqAddr_same (u d : ByteArray) (w : World) :
    Calls Tryd.prog 56 #[.agg #[.string u, .string d], .agg #[.string u, .string d]] w fun e w' => e = .returned (.bool true) ∧ Below w.heap.size w w' := by
  go_enter Tryd.func56, Tryd.ntmps56
  go_wp2
  go_ret
  exact ⟨rfl, ((Below.refl _ _).alloc (Nat.le_refl _) _).alloc (by simp) _⟩

theorem szAddr_any (u d : ByteArray) (left : Int) (w : World) (h0 : 0 ≤ left) (h1 : left ≤ 1048576) (hu : u.size ≤ 9223372036854775807) (hd : d.size ≤ 9223372036854775807) :
    Calls Tryd.prog 49 #[.agg #[.string u, .string d], .int .i64 left] w fun e w' => e = .returned (.int .i64 (leftA u d left)) ∧ Below w.heap.size w w' := by
  rcases (show left < u.size ∨ (u.size ≤ left ∧ left - u.size < d.size) ∨ (u.size ≤ left ∧ d.size ≤ left - u.size) by omega) with h | ⟨h, h'⟩ | ⟨h, h'⟩
  · have hm : Hid (leftA u d left = -1) := Lib.hid (by unfold leftA; rw [if_neg (by omega)])
    go_enter Tryd.func49, Tryd.ntmps49
    go_wp2
    go_ret
    exact ⟨ret_i hm.out.symm, (Below.refl _ _).alloc (Nat.le_refl _) _⟩
  · have hm : Hid (leftA u d left = -1) := Lib.hid (by unfold leftA; rw [if_neg (by omega)])
    go_enter Tryd.func49, Tryd.ntmps49
    go_wp2
    go_ret
    exact ⟨ret_i hm.out.symm, (Below.refl _ _).alloc (Nat.le_refl _) _⟩
  · have hm : Hid (leftA u d left = left - u.size - d.size) := Lib.hid (by unfold leftA; rw [if_pos (by omega)])
    go_enter Tryd.func49, Tryd.ntmps49
    go_wp2
    go_ret
    exact ⟨ret_i hm.out.symm, (Below.refl _ _).alloc (Nat.le_refl _) _⟩

end Go.Proofs.YtcaknjdolfheaaaDoor
namespace Go.Proofs.YtcaknjdolfheaaaDoor
open Go Go.RowKit

theorem implAddrPut_any (u d : ByteArray) (w : World) (hm : HasMax w) (hu : u.size ≤ 1048576) (hd : d.size ≤ 1048576) :
    Calls Tryd.prog 163 #[.agg #[.string u, .string d]] w fun e w' => e = .returned (.string (putB u d)) ∧ Below w.heap.size w w' := by
  have hm1 := hm.below ((Below.refl w.heap.size w).alloc (Nat.le_refl _) (.cells #[.string u, .string d] 27)) (Nat.le_refl _)
  have HM := Lib.hid hm1
  clear hm hm1
  cases hn : nullB u d
  · have HN := Lib.hid hn
    cases ha : addrB u d
    · have hq : Hid (putB u d = { data := #[] }) := Lib.hid (by unfold putB; rw [hn, ha]; rfl)
      have HA := Lib.hid ha
      clear ha hn
      go_enter Tryd.func163, Tryd.ntmps163
      go_wp2_with (first | (go_at_call 90; refine (isNull_is u d false HN.out _).mono ?_; rintro e w1 ⟨rfl, hb1⟩; have hc1 := hb1.cell (p := ⟨w.heap.size, 0, none⟩) (by simp); have hc2 := hb1.cell (p := ⟨w.heap.size, 1, none⟩) (by simp); have hz1 := hb1.size; simp only [World.size_alloc] at hz1; have hmx := Lib.hid (HM.out.below hb1 (Nat.le_refl _))) | (go_at_call 115; refine (implAddrOk_any u d _ hmx.out (by omega) (by omega)).mono ?_; rintro e w2 ⟨rfl, hb2⟩; rw [HA.out]))
      go_ret
      exact ⟨ret_s hq.out.symm, (((Below.refl _ _).alloc (Nat.le_refl _) _).trans (hb1.mono (by simp))).trans (hb2.mono (by omega))⟩
    · have hq : Hid (putB u d = wireB u d) := Lib.hid (by unfold putB; rw [hn, ha]; rfl)
      have HA := Lib.hid ha
      clear ha hn
      go_enter Tryd.func163, Tryd.ntmps163
      go_wp2_with (first | (go_at_call 90; refine (isNull_is u d false HN.out _).mono ?_; rintro e w1 ⟨rfl, hb1⟩; have hc1 := hb1.cell (p := ⟨w.heap.size, 0, none⟩) (by simp); have hc2 := hb1.cell (p := ⟨w.heap.size, 1, none⟩) (by simp); have hz1 := hb1.size; simp only [World.size_alloc] at hz1; have hmx := Lib.hid (HM.out.below hb1 (Nat.le_refl _))) | (go_at_call 115; refine (implAddrOk_any u d _ hmx.out (by omega) (by omega)).mono ?_; rintro e w2 ⟨rfl, hb2⟩; rw [HA.out]; have hc3 := hb2.cell (p := ⟨w.heap.size, 0, none⟩) (by simp; omega); have hc4 := hb2.cell (p := ⟨w.heap.size, 1, none⟩) (by simp; omega)))
      go_ret
      exact ⟨ret_s (by rw [hq.out]; rfl), (((Below.refl _ _).alloc (Nat.le_refl _) _).trans (hb1.mono (by simp))).trans (hb2.mono (by omega))⟩
  · have HN := Lib.hid hn
    have hq : Hid (putB u d = { data := #[60, 62] }) := Lib.hid (by unfold putB; rw [hn]; rfl)
    clear hn
    go_enter Tryd.func163, Tryd.ntmps163
    go_wp2_with (go_at_call 90; refine (isNull_is u d true HN.out _).mono ?_; rintro e w1 ⟨rfl, hb1⟩)
    go_ret
    exact ⟨ret_s hq.out.symm, ((Below.refl _ _).alloc (Nat.le_refl _) _).trans (hb1.mono (by simp))⟩

end Go.Proofs.YtcaknjdolfheaaaDoor
