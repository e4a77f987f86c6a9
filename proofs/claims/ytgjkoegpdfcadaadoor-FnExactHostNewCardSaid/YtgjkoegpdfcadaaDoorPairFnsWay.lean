/- Contracts: slices of Way: what is left of a size, copies, comparisons. -/
import Derived.Test.YtgjkoegpdfcadaaDoorMails
import Derived.Deep.RegionHeld3
namespace Go.Proofs.YtgjkoegpdfcadaaDoor
open Go Go.RowKit

theorem toWay_any (u d : ByteArray) (w : World) :
    Calls Tryd.prog 212 #[.agg #[.string u, .string d]] w fun e w' => e = .returned (.agg #[.string u, .string d]) ∧ Below w.heap.size w w' := by
  go_enter Tryd.func212, Tryd.ntmps212
  go_wp2
  exact bodyPost_ret (v := .agg #[.string u, .string d]) (by simp [results, Tryd.results212, go_sem]) rfl ⟨rfl, (((Below.refl _ _).alloc (Nat.le_refl _) _).alloc (by simp) _).alloc (by simp; omega) _⟩

theorem eqWay_same (u d : ByteArray) (w : World) :
    Calls Tryd.prog 215 #[.agg #[.string u, .string d], .agg #[.string u, .string d]] w fun e w' => e = .returned (.bool true) ∧ Below w.heap.size w w' := by
  go_enter Tryd.func215, Tryd.ntmps215
  go_wp2
  go_ret
  exact ⟨rfl, ((Below.refl _ _).alloc (Nat.le_refl _) _).alloc (by simp) _⟩

theorem szWay_any (u d : ByteArray) (left : Int) (w : World) (h0 : 0 ≤ left) (h1 : left ≤ 1048576) (hu : u.size ≤ 9223372036854775807) (hd : d.size ≤ 9223372036854775807) :
    Calls Tryd.prog 211 #[.agg #[.string u, .string d], .int .i64 left] w fun e w' => e = .returned (.int .i64 (leftA u d left)) ∧ Below w.heap.size w w' := by
  rcases (show left < u.size ∨ (u.size ≤ left ∧ left - u.size < d.size) ∨ (u.size ≤ left ∧ d.size ≤ left - u.size) by omega) with h | ⟨h, h'⟩ | ⟨h, h'⟩
  · have hm : Hid (leftA u d left = -1) := Lib.hid (by unfold leftA; rw [if_neg (by omega)])
    go_enter Tryd.func211, Tryd.ntmps211
    go_wp2
    go_ret
    exact ⟨ret_i hm.out.symm, (Below.refl _ _).alloc (Nat.le_refl _) _⟩
  · have hm : Hid (leftA u d left = -1) := Lib.hid (by unfold leftA; rw [if_neg (by omega)])
    go_enter Tryd.func211, Tryd.ntmps211
    go_wp2
    go_ret
    exact ⟨ret_i hm.out.symm, (Below.refl _ _).alloc (Nat.le_refl _) _⟩
  · have hm : Hid (leftA u d left = left - u.size - d.size) := Lib.hid (by unfold leftA; rw [if_pos (by omega)])
    go_enter Tryd.func211, Tryd.ntmps211
    go_wp2
    go_ret
    exact ⟨ret_i hm.out.symm, (Below.refl _ _).alloc (Nat.le_refl _) _⟩

theorem infoWay : (Tryd.prog.info? 34).map (fun i => (i.zero, i.size, i.bytes)) = some (some (.agg #[.string ByteArray.empty, .string ByteArray.empty]), 2, 32) := by kernel_rfl

set_option maxHeartbeats 800000 in
theorem szWayS_any (ao : Option Addr) (cap : Nat) (ps : List Pair) (left : Int) (w : World) (hr : PairRow w ao ps) (hl : ps.length ≤ 9223372036854775807) (h0 : 0 ≤ left) (h1 : left ≤ 1048576) (hs : ∀ p ∈ ps, p.1.size ≤ 9223372036854775807 ∧ p.2.size ≤ 9223372036854775807) :
    Calls Tryd.prog 135 #[.slice ao ps.length cap, .int .i64 left] w fun e w' => e = .returned (.int .i64 (leftP ps left)) ∧ Below w.heap.size w w' := by
  have HR := Lib.hid hr
  have HS := Lib.hid hs
  clear hr hs
  by_cases hlen : left < ps.length
  · have hm : Hid (leftP ps left = -1) := Lib.hid (by unfold leftP; rw [if_neg (by omega)])
    go_enter Tryd.func135, Tryd.ntmps135
    go_wp2
    go_ret
    exact ⟨ret_i hm.out.symm, Below.refl _ _⟩
  · go_enter Tryd.func135, Tryd.ntmps135
    go_wp2
    go_loopw [1, 5] (fun l i wr => ∃ (k : Nat) (r : Int), k ≤ ps.length ∧ i = .int .i64 k ∧ l = .int .i64 r ∧ 0 ≤ r ∧ r ≤ 1048576 ∧ Hid (r = left - ps.length - sumP (ps.take k)) ∧ Below w.heap.size w wr) (fun _ i _ => ps.length - (intOf i).toNat)
    case atStart => exact ⟨0, left - ps.length, Nat.zero_le _, rfl, rfl, by omega, by omega, Lib.hid (by simp [sumP]), Below.refl _ _⟩
    case round =>
      obtain ⟨k, r, hk, rfl, rfl, hr0, hr1, H, hb⟩ := hrel
      by_cases hlt : k < ps.length
      · obtain ⟨p, hp⟩ : ∃ p, ps[k]? = some p := ⟨_, List.getElem?_eq_getElem hlt⟩
        obtain ⟨b, off, rfl, hc1, hc2⟩ := (HR.out.below hb (Nat.le_refl _)) k p hp
        obtain ⟨hz1, hz2⟩ := HS.out p (List.mem_of_getElem? hp)
        have HN : Hid (sumP (ps.take (k + 1)) = sumP (ps.take k) + (p.1.size + p.2.size)) := Lib.hid (sumP_snoc hp)
        clear hp
        by_cases hneg : r < (p.1.size : Int) + p.2.size
        · have hm : Hid (leftP ps left = -1) := Lib.hid (by have e1 := H.out; have e2 := HN.out; have e3 := sumP_take_le ps (k + 1); unfold leftP; rw [if_neg (by omega)])
          have he : Hid (leftA p.1 p.2 r = -1) := Lib.hid (by unfold leftA; rw [if_neg (by omega)])
          go_wp2_with fail
          refine (szWay_any p.1 p.2 r _ hr0 hr1 hz1 hz2).mono ?_
          rintro e w1 ⟨rfl, hb1⟩
          rw [he.out]
          have B1 := hb.trans (hb1.mono hb.size)
          go_wp2
          go_ret
          exact ⟨ret_i hm.out.symm, B1⟩
        · have he : Hid (leftA p.1 p.2 r = r - p.1.size - p.2.size) := Lib.hid (by unfold leftA; rw [if_pos (by omega)])
          have hge : 0 ≤ r - p.1.size - p.2.size := by omega
          go_wp2_with fail
          refine (szWay_any p.1 p.2 r _ hr0 hr1 hz1 hz2).mono ?_
          rintro e w1 ⟨rfl, hb1⟩
          rw [he.out]
          have B1 := hb.trans (hb1.mono hb.size)
          go_wp2
          go_roundw
          case rel => exact ⟨k + 1, r - p.1.size - p.2.size, by omega, by go_num, rfl, by omega, by omega, Lib.hid (by have e1 := H.out; have e2 := HN.out; omega), B1⟩
          case measure => simp [intOf]; omega
      · have hm : Hid (leftP ps left = r) := Lib.hid (by
          have e1 := H.out
          rw [List.take_of_length_le (by omega)] at e1
          unfold leftP; rw [if_pos (by omega)]; omega)
        go_wp2
        go_ret
        exact ⟨ret_i hm.out.symm, hb⟩

set_option maxHeartbeats 800000 in
set_option maxRecDepth 100000 in
theorem toWayS_any (ao : Option Addr) (cap : Nat) (ps : List Pair) (w : World) (hr : PairRow w ao ps) (hl : ps.length ≤ 1048576) :
    Calls Tryd.prog 137 #[.slice ao ps.length cap] w fun e w' => ∃ bo c, e = .returned (.slice bo ps.length c) ∧ PRow w' w.heap.size 34 bo c ps ∧ Below w.heap.size w w' := by
  obtain ⟨i0, hi, hz0, hz1, hz2⟩ := info_parts infoWay
  have HR := Lib.hid hr
  clear hr
  go_enter Tryd.func137, Tryd.ntmps137
  go_wp2_with (at_make; refine wpList_make_full _ rfl _ _ 24 rfl w.heap.size 34 i0 (.agg #[.string ByteArray.empty, .string ByteArray.empty]) 2 Tryd.underlying24 hi hz0 hz1 .i64 .i64 ps.length ps.length ps.length rfl rfl rfl rfl ?b2 ?b3 ?b4 ?_)
  case b2 => rw [hz2]; omega
  case b3 => unfold maxLen; omega
  case b4 => exact Nat.le_refl _
  intro w1 hown1 hgrow1
  have hb1 : Below w.heap.size w w1 := (Below.refl _ _).grown hgrow1 (Nat.le_refl _) (fun k e => by cases e)
  have hown : w1.ownsRow w.heap.size 34 2 (.slice (some ⟨w.heap.size, 0, none⟩) ps.length ps.length) ps.length (pairRowCells ps 0) := by
    rw [pairRowCells_zero, ← made_two ps.length]
    exact hown1
  clear hown1 hgrow1
  go_wp2
  go_loopw [4] (fun i wr => ∃ k : Nat, k ≤ ps.length ∧ i = .int .i64 k ∧ wr.ownsRow w.heap.size 34 2 (.slice (some ⟨w.heap.size, 0, none⟩) ps.length ps.length) ps.length (pairRowCells ps k) ∧ Below w.heap.size w wr) (fun i _ => ps.length - (intOf i).toNat)
  case atStart => exact ⟨0, Nat.zero_le _, rfl, hown, hb1⟩
  case round =>
    obtain ⟨k, hk, rfl, ho, hb⟩ := hrel
    clear hown hb1
    by_cases hlt : k < ps.length
    · obtain ⟨p, hp⟩ : ∃ p, ps[k]? = some p := ⟨_, List.getElem?_eq_getElem hlt⟩
      obtain ⟨b, off, rfl, hc1, hc2⟩ := (HR.out.below hb (Nat.le_refl _)) k p hp
      have HP := Lib.hid hp
      clear hp
      go_wp2_with fail
      refine (toWay_any p.1 p.2 _).mono ?_
      rintro e w1 ⟨rfl, hb1⟩
      have hz := hb.size
      have ho1 := own_later ho hb1
      have B1 := hb.trans (hb1.mono hb.size)
      obtain ⟨g1, g2⟩ := pairRowCells_get ps k hlt
      have e1 := (ho1.cellAt (k * 2) (by omega)).trans g1
      have e2 := (ho1.cellAt (k * 2 + 1) (by omega)).trans g2
      have f1 := ho1.frozenAt (k * 2)
      have f2 := ho1.frozenAt (k * 2 + 1)
      have s1 := (ho1.stored (k * 2) (.string p.1)).1
      have s2 := (s1.stored (k * 2 + 1) (.string p.2)).1
      rw [pairRowCells_set ps k p HP.out] at s2
      have B2 := (B1.setCell (p := ⟨w.heap.size, k * 2, none⟩) (Nat.le_refl _) (.string p.1)).setCell (p := ⟨w.heap.size, k * 2 + 1, none⟩) (Nat.le_refl _) (.string p.2)
      clear g1 g2 ho hb hb1 hc1 hc2 s1 ho1 B1
      go_wp2
      go_roundw
      case rel => exact ⟨k + 1, by omega, by go_num, s2, B2⟩
      case measure => simp [intOf]; omega
    · obtain rfl : k = ps.length := by omega
      rw [pairRowCells_end] at ho
      go_wp2
      go_ret
      exact ⟨_, _, rfl, ho, hb⟩

set_option maxHeartbeats 1600000 in
set_option maxRecDepth 100000 in
theorem eqWayS_same (ao bo : Option Addr) (c1 c2 : Nat) (ps : List Pair) (w : World) (ha : PairRow w ao ps) (hb : PairRow w bo ps) (hl : ps.length ≤ 1048576) :
    Calls Tryd.prog 141 #[.slice ao ps.length c1, .slice bo ps.length c2] w fun e w' => e = .returned (.bool true) ∧ Below w.heap.size w w' := by
  have HA := Lib.hid ha
  have HB := Lib.hid hb
  clear ha hb
  go_enter Tryd.func141, Tryd.ntmps141
  go_wp2
  go_loopw [5] (fun i wr => ∃ k : Nat, k ≤ ps.length ∧ i = .int .i64 k ∧ Below w.heap.size w wr) (fun i _ => ps.length - (intOf i).toNat)
  case atStart => exact ⟨0, Nat.zero_le _, rfl, Below.refl _ _⟩
  case round =>
    obtain ⟨k, hk, rfl, hbe⟩ := hrel
    by_cases hlt : k < ps.length
    · obtain ⟨p, hp⟩ : ∃ p, ps[k]? = some p := ⟨_, List.getElem?_eq_getElem hlt⟩
      obtain ⟨b, off, rfl, hc1, hc2⟩ := (HA.out.below hbe (Nat.le_refl _)) k p hp
      obtain ⟨b', off', rfl, hc1', hc2'⟩ := (HB.out.below hbe (Nat.le_refl _)) k p hp
      clear hp
      go_wp2_with fail
      go_region_held3 (fun w' => w'.cell? ⟨b, off + k * 2, none⟩ = some (.string p.1) ∧ w'.cell? ⟨b, off + k * 2 + 1, none⟩ = some (.string p.2) ∧ w'.cell? ⟨b', off' + k * 2, none⟩ = some (.string p.1) ∧ w'.cell? ⟨b', off' + k * 2 + 1, none⟩ = some (.string p.2) ∧ Below wr.heap.size wr w') (first | exact ⟨hc1, hc2, hc1', hc2', (Below.refl _ _).drew⟩ | (go_split_ands; exact held4 (by assumption) (by assumption) (by assumption) (by assumption) (by assumption) (Nat.le_refl _) hb1) | (go_split_ands; exact ⟨by assumption, by assumption, by assumption, by assumption, Below.drew (by assumption)⟩) | (go_split_ands; exact ⟨by assumption, by assumption, by assumption, by assumption, by assumption⟩)) (first | (go_at_call 215; refine (eqWay_same p.1 p.2 _).mono ?_; rintro e w1 ⟨rfl, hb1⟩))
      go_split_ands
      have hbx := (by assumption : Below wr.heap.size wr _)
      go_wp2
      go_roundw
      case rel => exact ⟨k + 1, by omega, by go_num, hbe.trans (hbx.mono hbe.size)⟩
      case measure => simp [intOf]; omega
    · go_wp2
      go_ret
      exact ⟨rfl, hbe⟩
end Go.Proofs.YtgjkoegpdfcadaaDoor
