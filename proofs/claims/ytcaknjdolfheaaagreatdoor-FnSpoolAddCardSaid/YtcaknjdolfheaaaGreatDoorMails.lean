/- Pairs, PairFnsAddr, MailOk, MailOkI, MailFns, SessLow. -/
import Derived.Test.YtcaknjdolfheaaaGreatDoorBasis
import Derived.Test.YtcaknjdolfheaaaGreatDoorAddrs
import Derived.Deep.RegionHeld3
import Derived.Test.YtcaknjdolfheaaaGreatDoorPlains
import Derived.Outline
import Derived.Deep.RegionWith
namespace Go.Proofs.YtcaknjdolfheaaaGreatDoor
open Go Go.RowKit

abbrev Pair := ByteArray × ByteArray
/-- THE SLICE VALUE '.slice ao ps.length cap' READS AS THE PAIRS ps. -/
def PairRow (w : World) (ao : Option Addr) (ps : List Pair) : Prop :=
  ∀ k p, ps[k]? = some p → ∃ b off, ao = some ⟨b, off, none⟩ ∧ w.cell? ⟨b, off + k * 2, none⟩ = some (.string p.1) ∧ w.cell? ⟨b, off + k * 2 + 1, none⟩ = some (.string p.2)
theorem PairRow.below {B : Nat} {w w' : World} {ao : Option Addr} {ps : List Pair} (h : PairRow w ao ps) (hb : Below B w w') (hB : w.heap.size ≤ B) : PairRow w' ao ps := by
  intro k p hp
  obtain ⟨b, off, e, h1, h2⟩ := h k p hp
  have hlt := World.block_lt_of_cell? w _ h1
  exact ⟨b, off, e, (hb.cell (p := ⟨b, off + k * 2, none⟩) (Nat.lt_of_lt_of_le hlt hB)).trans h1, (hb.cell (p := ⟨b, off + k * 2 + 1, none⟩) (Nat.lt_of_lt_of_le hlt hB)).trans h2⟩
theorem PairRow.later {w w' : World} {ao : Option Addr} {ps : List Pair} (h : PairRow w ao ps) (hb : Below w.heap.size w w') : PairRow w' ao ps := h.below hb (Nat.le_refl _)

def pairCells (ps : List Pair) : List Value := ps.flatMap fun p => [.string p.1, .string p.2]
theorem pairCells_length (ps : List Pair) : (pairCells ps).length = ps.length * 2 := by
  induction ps with
  | nil => rfl
  | cons p ps ih => simp only [pairCells, List.flatMap_cons, List.length_append, List.length_cons, List.length_nil] at ih ⊢; omega
theorem pairCells_get {ps : List Pair} {k : Nat} {p : Pair} (h : ps[k]? = some p) : (pairCells ps)[k * 2]? = some (.string p.1) ∧ (pairCells ps)[k * 2 + 1]? = some (.string p.2) := by
  induction ps generalizing k with
  | nil => cases h
  | cons q ps ih =>
    cases k with
    | zero => cases h; exact ⟨rfl, rfl⟩
    | succ k =>
      have := ih h
      rw [show (k + 1) * 2 = k * 2 + 1 + 1 by omega]
      exact this
/-- A row of pairs of the call's own. -/
def PRow (w : World) (B : Nat) (t : TypeId) (ao : Option Addr) (cap : Nat) (ps : List Pair) : Prop := w.ownsRow B t 2 (.slice ao ps.length cap) ps.length (pairCells ps)
theorem PRow.pairs {w : World} {B : Nat} {t : TypeId} {ao : Option Addr} {cap : Nat} {ps : List Pair} (h : PRow w B t ao cap ps) : PairRow w ao ps := by
  intro k p hp
  obtain ⟨hk, _⟩ := List.getElem?_eq_some_iff.1 hp
  obtain ⟨g1, g2⟩ := pairCells_get hp
  unfold PRow at h
  rcases h.2 with ⟨_, h0⟩ | ⟨g, c, cur, h', _⟩
  · omega
  · simp only [Value.slice.injEq, true_and] at h'
    obtain ⟨rfl, rfl⟩ := h'
    refine ⟨g, 0, rfl, ?_, ?_⟩
    · rw [Nat.zero_add, h.cellAt _ (by omega)]; exact g1
    · rw [Nat.zero_add, h.cellAt _ (by omega)]; exact g2
theorem PRow.later {w w' : World} {B : Nat} {t : TypeId} {ao : Option Addr} {cap : Nat} {ps : List Pair} (h : PRow w B t ao cap ps) (hb : Below w.heap.size w w') : PRow w' B t ao cap ps := own_later h hb
theorem PRow.lt {w : World} {B : Nat} {t : TypeId} {ao : Option Addr} {cap : Nat} {ps : List Pair} (h : PRow w B t ao cap ps) {k : Nat} (hk : blockOf ao = some k) : B ≤ k ∧ k < w.heap.size :=
  World.ownsRow.lt h k (by rw [own_block]; exact hk)
theorem PRow.other {w w' : World} {B : Nat} {t : TypeId} {ao bo : Option Addr} {cap : Nat} {ps : List Pair} (h : PRow w B t ao cap ps) (hg : w.grownBy w' (blockOf bo)) (hne : blockOf ao = none ∨ blockOf ao ≠ blockOf bo) : PRow w' B t ao cap ps :=
  World.ownsRow.kept h hg (by rw [own_block]; exact hne)

def sumP (ps : List Pair) : Nat := (ps.map fun p => p.1.size + p.2.size).sum
theorem sumP_snoc {ps : List Pair} {k : Nat} {p : Pair} (hp : ps[k]? = some p) : sumP (ps.take (k + 1)) = sumP (ps.take k) + (p.1.size + p.2.size) := by
  obtain ⟨hk, e⟩ := List.getElem?_eq_some_iff.1 hp
  unfold sumP
  rw [List.take_succ_eq_append_getElem hk, List.map_append, List.sum_append, e]
  simp
theorem sumP_take_le (ps : List Pair) (k : Nat) : sumP (ps.take k) ≤ sumP ps := by
  have : sumP ps = sumP (ps.take k) + sumP (ps.drop k) := by
    unfold sumP; rw [← List.sum_append, ← List.map_append, List.take_append_drop]
  omega
theorem sumP_mem {ps : List Pair} {p : Pair} (h : p ∈ ps) : p.1.size + p.2.size ≤ sumP ps := by
  induction ps with
  | nil => cases h
  | cons y ys ih =>
    unfold sumP at ih ⊢
    rw [List.map_cons, List.sum_cons]
    rcases List.mem_cons.1 h with rfl | h
    · omega
    · have := ih h; omega
/-- sz..S: what is left. -/
def leftP (ps : List Pair) (left : Int) : Int := if (ps.length : Int) + sumP ps ≤ left then left - ps.length - sumP ps else -1
theorem leftP_le {ps : List Pair} {left : Int} (h : 0 ≤ left) : leftP ps left ≤ left := by unfold leftP; split <;> omega
theorem leftP_small {ps : List Pair} {left : Int} (h : ¬ leftP ps left < 0) (h1 : left ≤ 1048576) : ps.length ≤ 1048576 ∧ ∀ p ∈ ps, p.1.size ≤ 1048576 ∧ p.2.size ≤ 1048576 := by
  unfold leftP at h
  split at h
  · refine ⟨by omega, fun x hx => ?_⟩
    have := sumP_mem hx
    omega
  · exact absurd (show (-1 : Int) < 0 by decide) h

/-- The first k pairs are written, the others are empty. -/
def pairRowCells (ps : List Pair) (k : Nat) : List Value := pairCells (ps.take k) ++ List.replicate ((ps.length - k) * 2) (.string ByteArray.empty)
theorem pairRowCells_zero (ps : List Pair) : pairRowCells ps 0 = List.replicate (ps.length * 2) (.string ByteArray.empty) := by simp [pairRowCells, pairCells]
theorem pairRowCells_end (ps : List Pair) : pairRowCells ps ps.length = pairCells ps := by simp [pairRowCells]
theorem pairRowCells_get (ps : List Pair) (k : Nat) (hk : k < ps.length) : (pairRowCells ps k)[k * 2]? = some (.string ByteArray.empty) ∧ (pairRowCells ps k)[k * 2 + 1]? = some (.string ByteArray.empty) := by
  unfold pairRowCells
  have hl : (pairCells (ps.take k)).length = k * 2 := by rw [pairCells_length, List.length_take]; omega
  constructor
  · rw [List.getElem?_append_right (by omega), List.getElem?_replicate, if_pos (by omega)]
  · rw [List.getElem?_append_right (by omega), List.getElem?_replicate, if_pos (by omega)]
theorem pairRowCells_set (ps : List Pair) (k : Nat) (p : Pair) (hp : ps[k]? = some p) : ((pairRowCells ps k).set (k * 2) (.string p.1)).set (k * 2 + 1) (.string p.2) = pairRowCells ps (k + 1) := by
  obtain ⟨hk, e⟩ := List.getElem?_eq_some_iff.1 hp
  have hl : (pairCells (ps.take k)).length = k * 2 := by rw [pairCells_length, List.length_take]; omega
  have hr : (ps.length - k) * 2 = (ps.length - (k + 1)) * 2 + 1 + 1 := by omega
  unfold pairRowCells
  rw [hr, List.replicate_succ, List.replicate_succ, List.take_succ_eq_append_getElem hk, e]
  rw [List.set_append_right _ _ (by omega), hl, Nat.sub_self, List.set_cons_zero, List.set_append_right _ _ (by omega), hl, show k * 2 + 1 - k * 2 = 1 by omega, List.set_cons_succ, List.set_cons_zero]
  simp [pairCells]
theorem ba_ext {a b : ByteArray} (h : a.toList = b.toList) : a = b := by
  rw [Lib.toList_data, Lib.toList_data] at h
  exact ByteArray.ext (Array.ext' h)
theorem pair_ne {p q : Pair} (h : q ≠ p) : ¬ q.1.toList = p.1.toList ∨ (q.1.toList = p.1.toList ∧ ¬ q.2.toList = p.2.toList) := by
  by_cases h1 : q.1.toList = p.1.toList
  · exact .inr ⟨h1, fun h2 => h (Prod.ext (ba_ext h1) (ba_ext h2))⟩
  · exact .inl h1
theorem made_two (n : Nat) : (madeCells (Value.agg #[.string ByteArray.empty, .string ByteArray.empty]).cells (n * 2)).toList = List.replicate (n * 2) (.string ByteArray.empty) := by
  apply List.ext_getElem?
  intro j
  by_cases hj : j < n * 2
  · rcases Nat.mod_two_eq_zero_or_one j with h | h <;> simp [madeCells, hj, h, Value.cells]
  · simp [madeCells, hj]
theorem held4 {a1 a2 a3 a4 : Addr} {v1 v2 v3 v4 : Value} {B : Nat} {w0 w1 w2 : World} (h1 : w1.cell? a1 = some v1) (h2 : w1.cell? a2 = some v2) (h3 : w1.cell? a3 = some v3) (h4 : w1.cell? a4 = some v4) (hB : Below B w0 w1) (hBs : B ≤ w0.heap.size) (hb : Below w1.heap.size w1 w2) :
    w2.cell? a1 = some v1 ∧ w2.cell? a2 = some v2 ∧ w2.cell? a3 = some v3 ∧ w2.cell? a4 = some v4 ∧ Below B w0 w2 :=
  ⟨(hb.cell (World.block_lt_of_cell? w1 _ h1)).trans h1, (hb.cell (World.block_lt_of_cell? w1 _ h2)).trans h2, (hb.cell (World.block_lt_of_cell? w1 _ h3)).trans h3, (hb.cell (World.block_lt_of_cell? w1 _ h4)).trans h4, hB.trans (hb.mono (Nat.le_trans hBs hB.size))⟩
end Go.Proofs.YtcaknjdolfheaaaGreatDoor
namespace Go.Proofs.YtcaknjdolfheaaaGreatDoor
open Go Go.RowKit

theorem infoAddr : (Tryz.prog.info? 27).map (fun i => (i.zero, i.size, i.bytes)) = some (some (.agg #[.string ByteArray.empty, .string ByteArray.empty]), 2, 32) := by kernel_rfl

set_option maxHeartbeats 800000 in
theorem szAddrS_any (ao : Option Addr) (cap : Nat) (ps : List Pair) (left : Int) (w : World) (hr : PairRow w ao ps) (hl : ps.length ≤ 9223372036854775807) (h0 : 0 ≤ left) (h1 : left ≤ 1048576) (hs : ∀ p ∈ ps, p.1.size ≤ 9223372036854775807 ∧ p.2.size ≤ 9223372036854775807) :
    Calls Tryz.prog 166 #[.slice ao ps.length cap, .int .i64 left] w fun e w' => e = .returned (.int .i64 (leftP ps left)) ∧ Below w.heap.size w w' := by
  have HR := Lib.hid hr
  have HS := Lib.hid hs
  clear hr hs
  by_cases hlen : left < ps.length
  · have hm : Hid (leftP ps left = -1) := Lib.hid (by unfold leftP; rw [if_neg (by omega)])
    go_enter Tryz.func166, Tryz.ntmps166
    go_wp2
    go_ret
    exact ⟨ret_i hm.out.symm, Below.refl _ _⟩
  · go_enter Tryz.func166, Tryz.ntmps166
    go_wp2
    go_loopw [1, 5] (fun l i wr => ∃ (k : Nat) (r : Int), k ≤ ps.length ∧ i = .int .i64 k ∧ l = .int .i64 r ∧ 0 ≤ r ∧ r ≤ 1048576 ∧ Hid (r = left - ps.length - sumP (ps.take k)) ∧ Below w.heap.size w wr) (fun _ i _ => ps.length - (intOf i).toNat)
    case atStart => exact ⟨0, left - ps.length, Nat.zero_le _, rfl, rfl, by omega, by omega, Lib.hid (by simp [sumP]), Below.refl _ _⟩
    case round =>
      obtain ⟨k, r, hk, rfl, rfl, hr0, hr1, H, hb⟩ := hrel
      by_cases hlt : k < ps.length
      · obtain ⟨p, hp⟩ : ∃ p, ps[k]? = some p := ⟨_, List.getElem?_eq_getElem hlt⟩
        obtain ⟨b, off, rfl, hc1, hc2⟩ := (HR.out.below hb (Nat.le_refl _)) k p hp
        obtain ⟨hz1, hz2⟩ := HS.out p (List.mem_of_getElem? hp)
        have HN : Hid (sumP (ps.take (k + 1)) = sumP (ps.take k) + (p.1.size + p.2.size)) := Lib.hid (sumP_snoc hp)
        clear hp
        by_cases hneg : r < (p.1.size : Int) + p.2.size
        · have hm : Hid (leftP ps left = -1) := Lib.hid (by have e1 := H.out; have e2 := HN.out; have e3 := sumP_take_le ps (k + 1); unfold leftP; rw [if_neg (by omega)])
          have he : Hid (leftA p.1 p.2 r = -1) := Lib.hid (by unfold leftA; rw [if_neg (by omega)])
          go_wp2_with fail
          refine (szAddr_any p.1 p.2 r _ hr0 hr1 hz1 hz2).mono ?_
          rintro e w1 ⟨rfl, hb1⟩
          rw [he.out]
          have B1 := hb.trans (hb1.mono hb.size)
          go_wp2
          go_ret
          exact ⟨ret_i hm.out.symm, B1⟩
        · have he : Hid (leftA p.1 p.2 r = r - p.1.size - p.2.size) := Lib.hid (by unfold leftA; rw [if_pos (by omega)])
          have hge : 0 ≤ r - p.1.size - p.2.size := by omega
          go_wp2_with fail
          refine (szAddr_any p.1 p.2 r _ hr0 hr1 hz1 hz2).mono ?_
          rintro e w1 ⟨rfl, hb1⟩
          rw [he.out]
          have B1 := hb.trans (hb1.mono hb.size)
          go_wp2
          go_roundw
          case rel => exact ⟨k + 1, r - p.1.size - p.2.size, by omega, by go_num, rfl, by omega, by omega, Lib.hid (by have e1 := H.out; have e2 := HN.out; omega), B1⟩
          case measure => simp [intOf]; omega
      · have hm : Hid (leftP ps left = r) := Lib.hid (by
          have e1 := H.out
          rw [List.take_of_length_le (by omega)] at e1
          unfold leftP; rw [if_pos (by omega)]; omega)
        go_wp2
        go_ret
        exact ⟨ret_i hm.out.symm, hb⟩

set_option maxHeartbeats 800000 in
set_option maxRecDepth 100000 in
theorem toAddrS_any (ao : Option Addr) (cap : Nat) (ps : List Pair) (w : World) (hr : PairRow w ao ps) (hl : ps.length ≤ 1048576) :
    Calls Tryz.prog 169 #[.slice ao ps.length cap] w fun e w' => ∃ bo c, e = .returned (.slice bo ps.length c) ∧ PRow w' w.heap.size 27 bo c ps ∧ Below w.heap.size w w' := by
  obtain ⟨i0, hi, hz0, hz1, hz2⟩ := info_parts infoAddr
  have HR := Lib.hid hr
  clear hr
  go_enter Tryz.func169, Tryz.ntmps169
  go_wp2_with (at_make; refine wpList_make_full _ rfl _ _ 28 rfl w.heap.size 27 i0 (.agg #[.string ByteArray.empty, .string ByteArray.empty]) 2 Tryz.underlying28 hi hz0 hz1 .i64 .i64 ps.length ps.length ps.length rfl rfl rfl rfl ?b2 ?b3 ?b4 ?_)
  case b2 => rw [hz2]; omega
  case b3 => unfold maxLen; omega
  case b4 => exact Nat.le_refl _
  intro w1 hown1 hgrow1
  have hb1 : Below w.heap.size w w1 := (Below.refl _ _).grown hgrow1 (Nat.le_refl _) (fun k e => by cases e)
  have hown : w1.ownsRow w.heap.size 27 2 (.slice (some ⟨w.heap.size, 0, none⟩) ps.length ps.length) ps.length (pairRowCells ps 0) := by
    rw [pairRowCells_zero, ← made_two ps.length]
    exact hown1
  clear hown1 hgrow1
  go_wp2
  go_loopw [4] (fun i wr => ∃ k : Nat, k ≤ ps.length ∧ i = .int .i64 k ∧ wr.ownsRow w.heap.size 27 2 (.slice (some ⟨w.heap.size, 0, none⟩) ps.length ps.length) ps.length (pairRowCells ps k) ∧ Below w.heap.size w wr) (fun i _ => ps.length - (intOf i).toNat)
  case atStart => exact ⟨0, Nat.zero_le _, rfl, hown, hb1⟩
  case round =>
    obtain ⟨k, hk, rfl, ho, hb⟩ := hrel
    clear hown hb1
    by_cases hlt : k < ps.length
    · obtain ⟨p, hp⟩ : ∃ p, ps[k]? = some p := ⟨_, List.getElem?_eq_getElem hlt⟩
      obtain ⟨b, off, rfl, hc1, hc2⟩ := (HR.out.below hb (Nat.le_refl _)) k p hp
      have HP := Lib.hid hp
      clear hp
      go_wp2_with fail
      refine (toAddr_any p.1 p.2 _).mono ?_
      rintro e w1 ⟨rfl, hb1⟩
      have hz := hb.size
      have ho1 := own_later ho hb1
      have B1 := hb.trans (hb1.mono hb.size)
      obtain ⟨g1, g2⟩ := pairRowCells_get ps k hlt
      have e1 := (ho1.cellAt (k * 2) (by omega)).trans g1
      have e2 := (ho1.cellAt (k * 2 + 1) (by omega)).trans g2
      have f1 := ho1.frozenAt (k * 2)
      have f2 := ho1.frozenAt (k * 2 + 1)
      have s1 := (ho1.stored (k * 2) (.string p.1)).1
      have s2 := (s1.stored (k * 2 + 1) (.string p.2)).1
      rw [pairRowCells_set ps k p HP.out] at s2
      have B2 := (B1.setCell (p := ⟨w.heap.size, k * 2, none⟩) (Nat.le_refl _) (.string p.1)).setCell (p := ⟨w.heap.size, k * 2 + 1, none⟩) (Nat.le_refl _) (.string p.2)
      clear g1 g2 ho hb hb1 hc1 hc2 s1 ho1 B1
      go_wp2
      go_roundw
      case rel => exact ⟨k + 1, by omega, by go_num, s2, B2⟩
      case measure => simp [intOf]; omega
    · obtain rfl : k = ps.length := by omega
      rw [pairRowCells_end] at ho
      go_wp2
      go_ret
      exact ⟨_, _, rfl, ho, hb⟩

set_option maxHeartbeats 1600000 in
set_option maxRecDepth 100000 in
theorem eqAddrS_same (ao bo : Option Addr) (c1 c2 : Nat) (ps : List Pair) (w : World) (ha : PairRow w ao ps) (hb : PairRow w bo ps) (hl : ps.length ≤ 1048576) :
    Calls Tryz.prog 159 #[.slice ao ps.length c1, .slice bo ps.length c2] w fun e w' => e = .returned (.bool true) ∧ Below w.heap.size w w' := by
  have HA := Lib.hid ha
  have HB := Lib.hid hb
  clear ha hb
  go_enter Tryz.func159, Tryz.ntmps159
  go_wp2
  go_loopw [5] (fun i wr => ∃ k : Nat, k ≤ ps.length ∧ i = .int .i64 k ∧ Below w.heap.size w wr) (fun i _ => ps.length - (intOf i).toNat)
  case atStart => exact ⟨0, Nat.zero_le _, rfl, Below.refl _ _⟩
  case round =>
    obtain ⟨k, hk, rfl, hbe⟩ := hrel
    by_cases hlt : k < ps.length
    · obtain ⟨p, hp⟩ : ∃ p, ps[k]? = some p := ⟨_, List.getElem?_eq_getElem hlt⟩
      obtain ⟨b, off, rfl, hc1, hc2⟩ := (HA.out.below hbe (Nat.le_refl _)) k p hp
      obtain ⟨b', off', rfl, hc1', hc2'⟩ := (HB.out.below hbe (Nat.le_refl _)) k p hp
      clear hp
      go_wp2_with fail
      go_region_held3 (fun w' => w'.cell? ⟨b, off + k * 2, none⟩ = some (.string p.1) ∧ w'.cell? ⟨b, off + k * 2 + 1, none⟩ = some (.string p.2) ∧ w'.cell? ⟨b', off' + k * 2, none⟩ = some (.string p.1) ∧ w'.cell? ⟨b', off' + k * 2 + 1, none⟩ = some (.string p.2) ∧ Below wr.heap.size wr w') (first | exact ⟨hc1, hc2, hc1', hc2', (Below.refl _ _).drew⟩ | (go_split_ands; exact held4 (by assumption) (by assumption) (by assumption) (by assumption) (by assumption) (Nat.le_refl _) hb1) | (go_split_ands; exact ⟨by assumption, by assumption, by assumption, by assumption, Below.drew (by assumption)⟩) | (go_split_ands; exact ⟨by assumption, by assumption, by assumption, by assumption, by assumption⟩)) (first | (go_at_call 91; refine (eqAddr_same p.1 p.2 _).mono ?_; rintro e w1 ⟨rfl, hb1⟩))
      go_split_ands
      have hbx := (by assumption : Below wr.heap.size wr _)
      go_wp2
      go_roundw
      case rel => exact ⟨k + 1, by omega, by go_num, hbe.trans (hbx.mono hbe.size)⟩
      case measure => simp [intOf]; omega
    · go_wp2
      go_ret
      exact ⟨rfl, hbe⟩
end Go.Proofs.YtcaknjdolfheaaaGreatDoor
namespace Go.Proofs.YtcaknjdolfheaaaGreatDoor
open Go Go.RowKit

abbrev mailV (m : MailD) (a1 : Option Addr) (c1 : Nat) (a2 : Option Addr) (c2 : Nat) : Array Value := #[.string m.fu, .string m.fd, .slice a1 m.rc.length c1, .slice a2 m.body.length c2]
structure MailAt (w : World) (m : MailD) (a1 a2 : Option Addr) : Prop where
  rc : PairRow w a1 m.rc
  body : StrRow w a2 m.body
structure MailSz (N : Nat) (m : MailD) : Prop where
  fu : m.fu.size ≤ N
  fd : m.fd.size ≤ N
  rcl : m.rc.length ≤ N
  rcs : ∀ p ∈ m.rc, p.1.size ≤ N ∧ p.2.size ≤ N
  bol : m.body.length ≤ N
  bos : ∀ x ∈ m.body, x.size ≤ N
theorem MailAt.below {B : Nat} {w w' : World} {m : MailD} {a1 a2 : Option Addr} (h : MailAt w m a1 a2) (hb : Below B w w') (hB : w.heap.size ≤ B) : MailAt w' m a1 a2 := ⟨h.rc.below hb hB, h.body.below hb hB⟩
theorem MailAt.later {w w' : World} {m : MailD} {a1 a2 : Option Addr} (h : MailAt w m a1 a2) (hb : Below w.heap.size w w') : MailAt w' m a1 a2 := h.below hb (Nat.le_refl _)
theorem MailSz.mono {N M : Nat} {m : MailD} (h : MailSz N m) (hN : N ≤ M) : MailSz M m :=
  ⟨Nat.le_trans h.fu hN, Nat.le_trans h.fd hN, Nat.le_trans h.rcl hN, fun p hp => ⟨Nat.le_trans (h.rcs p hp).1 hN, Nat.le_trans (h.rcs p hp).2 hN⟩, Nat.le_trans h.bol hN, fun x hx => Nat.le_trans (h.bos x hx) hN⟩

theorem bcell {W w1 : World} (hb : Below W.heap.size W w1) : (∀ b o, b < W.heap.size → w1.cell? ⟨b, o, none⟩ = W.cell? ⟨b, o, none⟩) ∧ (∀ b o, b < W.heap.size → w1.frozen? ⟨b, o, none⟩ = W.frozen? ⟨b, o, none⟩) :=
  ⟨fun b o h => hb.cell (p := ⟨b, o, none⟩) h, fun b o h => hb.frozen (p := ⟨b, o, none⟩) h⟩

/-- The four cells of a local mail, in block k. -/
structure FourAt (w : World) (k : Nat) (x0 x1 x2 x3 : Value) : Prop where
  c0 : w.cell? ⟨k, 0, none⟩ = some x0
  c1 : w.cell? ⟨k, 1, none⟩ = some x1
  c2 : w.cell? ⟨k, 2, none⟩ = some x2
  c3 : w.cell? ⟨k, 3, none⟩ = some x3
theorem FourAt.new (w : World) (x0 x1 x2 x3 : Value) (t : TypeId) : FourAt (w.alloc (.cells #[x0, x1, x2, x3] t)) w.heap.size x0 x1 x2 x3 :=
  ⟨by rw [World.cell?_alloc_new]; rfl, by rw [World.cell?_alloc_new]; rfl, by rw [World.cell?_alloc_new]; rfl, by rw [World.cell?_alloc_new]; rfl⟩
theorem FourAt.cells {w : World} {k : Nat} {x0 x1 x2 x3 : Value} (h : FourAt w k x0 x1 x2 x3) : w.cell? ⟨k, 0, none⟩ = some x0 ∧ w.cell? ⟨k, 1, none⟩ = some x1 ∧ w.cell? ⟨k, 2, none⟩ = some x2 ∧ w.cell? ⟨k, 3, none⟩ = some x3 := ⟨h.c0, h.c1, h.c2, h.c3⟩
theorem FourAt.later {w w' : World} {k : Nat} {x0 x1 x2 x3 : Value} (h : FourAt w k x0 x1 x2 x3) (hb : Below w.heap.size w w') : FourAt w' k x0 x1 x2 x3 :=
  have hlt := World.block_lt_of_cell? w _ h.c0
  ⟨(hb.cell (p := ⟨k, 0, none⟩) hlt).trans h.c0, (hb.cell (p := ⟨k, 1, none⟩) hlt).trans h.c1, (hb.cell (p := ⟨k, 2, none⟩) hlt).trans h.c2, (hb.cell (p := ⟨k, 3, none⟩) hlt).trans h.c3⟩

set_option maxHeartbeats 2000000 in
set_option maxRecDepth 100000 in
theorem l2Ok_any (m : MailD) (a1 : Option Addr) (c1 : Nat) (a2 : Option Addr) (c2 : Nat) (w : World) (hat : MailAt w m a1 a2) (hsz : MailSz 1048576 m) :
    Calls Tryz.prog 65 #[.agg (mailV m a1 c1 a2 c2)] w fun e w' => e = .returned (.bool (mailB m)) ∧ Below w.heap.size w w' := by
  have HT := Lib.hid hat.rc
  have HB := Lib.hid hat.body
  have HS := Lib.hid hsz
  have z1 := hsz.rcl
  clear hat hsz
  go_enter Tryz.func65, Tryz.ntmps65
  go_wp2
  go_loopw [3] (fun i wr => ∃ k : Nat, k ≤ m.rc.length ∧ i = .int .i64 k ∧ Hid ((m.rc.take k).all pairB = true) ∧ Hid ((m.rc.take k).Nodup) ∧ Below w.heap.size w wr ∧ FourAt wr w.heap.size (.string m.fu) (.string m.fd) (.slice a1 m.rc.length c1) (.slice a2 m.body.length c2)) (fun i _ => m.rc.length - (intOf i).toNat)
  case atStart => exact ⟨0, Nat.zero_le _, rfl, Lib.hid (by simp), Lib.hid (by simp), (Below.refl _ _).alloc (Nat.le_refl _) _, FourAt.new _ _ _ _ _ _⟩
  case round =>
    obtain ⟨k, hk, rfl, HA, HN, hb, hf⟩ := hrel
    have hz := hb.size
    obtain ⟨g0, g1, g2, g3⟩ := hf.cells
    by_cases hlt : k < m.rc.length
    · obtain ⟨p, hp⟩ : ∃ p, m.rc[k]? = some p := ⟨_, List.getElem?_eq_getElem hlt⟩
      obtain ⟨b, off, rfl, hc1, hc2⟩ := (HT.out.below hb (Nat.le_refl _)) k p hp
      obtain ⟨s1, s2⟩ := HS.out.rcs p (List.mem_of_getElem? hp)
      have HP := Lib.hid hp
      clear hp
      cases hpb : pairB p
      · have hm : Hid (mailB m = false) := Lib.hid (mailB_to (toB_miss HP.out hpb))
        have HPB : Hid (addrB p.1 p.2 = false) := Lib.hid hpb
        clear hpb
        go_wp2_with fail
        refine (l1AddrOk_any p.1 p.2 _ (by omega) (by omega)).mono ?_
        rintro e w1 ⟨rfl, hb1⟩
        rw [HPB.out]
        have B1 := hb.trans (hb1.mono hz)
        go_wp2
        go_ret
        exact ⟨ret_b hm.out.symm, B1⟩
      · have HPB : Hid (addrB p.1 p.2 = true) := Lib.hid hpb
        have HPP := Lib.hid hpb
        clear hpb
        go_wp2_with fail
        refine (l1AddrOk_any p.1 p.2 _ (by omega) (by omega)).mono ?_
        rintro e w1 ⟨rfl, hb1⟩
        rw [HPB.out]
        have B1 := hb.trans (hb1.mono hz)
        have F1 := hf.later hb1
        clear g0 g1 g2 g3 hc1 hc2 hf hb
        go_wp2
        go_loopw [4] (fun i wx => ∃ j : Nat, j ≤ k ∧ i = .int .i64 j ∧ Hid (∀ i, i < j → m.rc[i]? ≠ some p) ∧ Below w1.heap.size w1 wx) (fun i _ => k - (intOf i).toNat)
        case atStart => exact ⟨0, Nat.zero_le _, rfl, Lib.hid (fun i hi => by omega), Below.refl _ _⟩
        case round =>
          obtain ⟨j, hj, rfl, HD, hbx⟩ := hrel
          have F2 := F1.later hbx
          have B2 := B1.trans (hbx.mono B1.size)
          obtain ⟨g0, g1, g2, g3⟩ := F2.cells
          by_cases hlj : j < k
          · obtain ⟨q, hq⟩ : ∃ q, m.rc[j]? = some q := ⟨_, List.getElem?_eq_getElem (by omega)⟩
            obtain ⟨b', off', e', hd1, hd2⟩ := (HT.out.below B2 (Nat.le_refl _)) j q hq
            obtain ⟨b'', off'', e'', he1, he2⟩ := (HT.out.below B2 (Nat.le_refl _)) k p HP.out
            cases e'
            cases e''
            have HQ := Lib.hid hq
            clear hq
            by_cases hqp : q = p
            · subst hqp
              have hm : Hid (mailB m = false) := Lib.hid (mailB_to (toB_twice HP.out HQ.out hlj))
              go_wp2_with fail
              go_quiet (fail)
              have B3 := drewN_below B2 nq
              go_wp2
              go_ret
              exact ⟨ret_b hm.out.symm, by assumption⟩
            · rcases pair_ne hqp with h1 | ⟨h1, h2⟩
              all_goals
                have HD2 : Hid (∀ i, i < j + 1 → m.rc[i]? ≠ some p) := Lib.hid fun i hi e => by
                  by_cases hij : i = j
                  · subst hij; rw [HQ.out] at e; exact hqp (Option.some.inj e)
                  · exact HD.out i (by omega) e
                go_wp2_with fail
                go_quiet (fail)
                go_wp2
                exact ⟨⟨j + 1, by omega, by go_num, HD2, drewN_below hbx _⟩, by simp [intOf]; omega⟩
          · obtain rfl : j = k := by omega
            have HA2 : Hid ((m.rc.take (j + 1)).all pairB = true) := Lib.hid (list_all_succ HP.out HA.out HPP.out)
            have HN2 : Hid ((m.rc.take (j + 1)).Nodup) := Lib.hid (nodup_succ HP.out HN.out HD.out)
            go_wp2
            go_roundw
            case rel => exact ⟨j + 1, by omega, by go_num, HA2, HN2, B2, F2⟩
            case measure => simp [intOf]; omega
    · obtain rfl : k = m.rc.length := by omega
      have hT := toB_end (Nat.le_refl _) HA.out HN.out
      have HT2 : Hid (toB m.rc = inB (m.rc.length : Int) 1 4) := Lib.hid (hT.trans (by unfold inB; rw [decide_eq_decide]; omega))
      clear hT
      have zfu := HS.out.fu
      have zfd := HS.out.fd
      have HBS : Hid (∀ x ∈ m.body, x.size ≤ maxLen) := Lib.hid fun x hx => Nat.le_trans (HS.out.bos x hx) (by unfold maxLen; omega)
      have zb : m.body.length ≤ maxLen := Nat.le_trans HS.out.bol (by unfold maxLen; omega)
      -- from whom
      cases hsd : senderB m.fu m.fd
      · have hm : Hid (mailB m = false) := Lib.hid (by unfold mailB; rw [hsd]; rfl)
        obtain ⟨hn, ha⟩ := senderB_false hsd
        have HA1 := Lib.hid ha
        have HN1 := Lib.hid hn
        clear hsd hn ha
        go_wp2_with fail
        refine (l1AddrOk_any m.fu m.fd _ (by omega) (by omega)).mono ?_
        rintro e w1 ⟨rfl, hb1⟩
        rw [HA1.out]
        have B1 := hb.trans (hb1.mono hz)
        obtain ⟨g0, g1, g2, g3⟩ := (hf.later hb1).cells
        go_wp2_with fail
        refine (l1Null_is m.fu m.fd false HN1.out _).mono ?_
        rintro e w2 ⟨rfl, hb2⟩
        have B2 := B1.trans (hb2.mono B1.size)
        go_wp2
        go_ret
        exact ⟨ret_b hm.out.symm, B2⟩
      · have hmq : mailB m = (toB m.rc && bodyB m.body) := by unfold mailB; rw [hsd]; rfl
        rw [HT2.out] at hmq
        generalize hIn : inB (m.rc.length : Int) 1 4 = vin at hmq
        have HI := Lib.hid hIn
        cases vin
        · have hm : Hid (mailB m = false) := Lib.hid (by rw [hmq]; rfl)
          clear hmq hIn
          rcases senderB_true hsd with ha | ⟨hn, ha⟩
          · have HA1 := Lib.hid ha
            clear hsd ha
            go_wp2_with fail
            refine (l1AddrOk_any m.fu m.fd _ (by omega) (by omega)).mono ?_
            rintro e w1 ⟨rfl, hb1⟩
            rw [HA1.out]
            have B1 := hb.trans (hb1.mono hz)
            obtain ⟨g0, g1, g2, g3⟩ := (hf.later hb1).cells
            go_wp2_with fail
            refine (l1In_any _ _ _ _).mono ?_
            rintro e w2 ⟨rfl, rfl⟩
            rw [HI.out]
            go_wp2
            go_ret
            exact ⟨ret_b hm.out.symm, B1⟩
          · have HA1 := Lib.hid ha
            have HN1 := Lib.hid hn
            clear hsd ha hn
            go_wp2_with fail
            refine (l1AddrOk_any m.fu m.fd _ (by omega) (by omega)).mono ?_
            rintro e w1 ⟨rfl, hb1⟩
            rw [HA1.out]
            have B1 := hb.trans (hb1.mono hz)
            have F1 := hf.later hb1
            obtain ⟨g0, g1, g2, g3⟩ := F1.cells
            go_wp2_with fail
            refine (l1Null_is m.fu m.fd true HN1.out _).mono ?_
            rintro e w2 ⟨rfl, hb2⟩
            have B2 := B1.trans (hb2.mono B1.size)
            obtain ⟨g0, g1, g2, g3⟩ := (F1.later hb2).cells
            go_wp2_with fail
            refine (l1In_any _ _ _ _).mono ?_
            rintro e w2 ⟨rfl, rfl⟩
            rw [HI.out]
            go_wp2
            go_ret
            exact ⟨ret_b hm.out.symm, B2⟩
        · have hm : Hid (mailB m = bodyB m.body) := Lib.hid (by rw [hmq]; rfl)
          clear hmq hIn
          rcases senderB_true hsd with ha | ⟨hn, ha⟩
          · have HA1 := Lib.hid ha
            clear hsd ha
            go_wp2_with fail
            refine (l1AddrOk_any m.fu m.fd _ (by omega) (by omega)).mono ?_
            rintro e w1 ⟨rfl, hb1⟩
            rw [HA1.out]
            have B1 := hb.trans (hb1.mono hz)
            obtain ⟨g0, g1, g2, g3⟩ := (hf.later hb1).cells
            go_wp2_with fail
            refine (l1In_any _ _ _ _).mono ?_
            rintro e w2 ⟨rfl, rfl⟩
            rw [HI.out]
            go_wp2_with fail
            refine (l2BodyOk_any a2 c2 m.body _ (HB.out.below B1 (Nat.le_refl _)) zb HBS.out).mono ?_
            rintro e w2 ⟨rfl, rfl⟩
            go_wp2
            go_ret
            exact ⟨ret_b hm.out.symm, B1⟩
          · have HA1 := Lib.hid ha
            have HN1 := Lib.hid hn
            clear hsd ha hn
            go_wp2_with fail
            refine (l1AddrOk_any m.fu m.fd _ (by omega) (by omega)).mono ?_
            rintro e w1 ⟨rfl, hb1⟩
            rw [HA1.out]
            have B1 := hb.trans (hb1.mono hz)
            have F1 := hf.later hb1
            obtain ⟨g0, g1, g2, g3⟩ := F1.cells
            go_wp2_with fail
            refine (l1Null_is m.fu m.fd true HN1.out _).mono ?_
            rintro e w2 ⟨rfl, hb2⟩
            have B2 := B1.trans (hb2.mono B1.size)
            obtain ⟨g0, g1, g2, g3⟩ := (F1.later hb2).cells
            go_wp2_with fail
            refine (l1In_any _ _ _ _).mono ?_
            rintro e w2 ⟨rfl, rfl⟩
            rw [HI.out]
            go_wp2_with fail
            refine (l2BodyOk_any a2 c2 m.body _ (HB.out.below B2 (Nat.le_refl _)) zb HBS.out).mono ?_
            rintro e w2 ⟨rfl, rfl⟩
            go_wp2
            go_ret
            exact ⟨ret_b hm.out.symm, B2⟩

end Go.Proofs.YtcaknjdolfheaaaGreatDoor
namespace Go.Proofs.YtcaknjdolfheaaaGreatDoor
open Go Go.RowKit

theorem PairRow.take {w : World} {ao : Option Addr} {ps : List Pair} (h : PairRow w ao ps) (k : Nat) : PairRow w ao (ps.take k) := by
  intro j p hp
  rw [List.getElem?_take] at hp
  split at hp
  · exact h j p hp
  · cases hp

def IndexPost (ps : List Pair) (p : Pair) (B : Nat) (w : World) (e : Ending) (w' : World) : Prop := ∃ n : Int, e = .returned (.int .i64 n) ∧ ((0 ≤ n ∧ p ∈ ps) ∨ (n = -1 ∧ p ∉ ps)) ∧ Below B w w'
theorem not_mem_take {α : Type} {ps : List α} {k : Nat} {p q : α} (hq : ps[k]? = some q) (h : p ∉ ps.take k) (hne : q ≠ p) : p ∉ ps.take (k + 1) := by
  obtain ⟨hk, e⟩ := List.getElem?_eq_some_iff.1 hq
  rw [List.take_succ_eq_append_getElem hk, e, List.mem_append, List.mem_singleton]
  rintro (h2 | h2)
  · exact h h2
  · exact hne h2.symm

set_option maxHeartbeats 800000 in
set_option maxRecDepth 100000 in
theorem indexP_any (ao : Option Addr) (cap : Nat) (ps : List Pair) (p : Pair) (w : World) (hr : PairRow w ao ps) (hl : ps.length ≤ 9223372036854775806) :
    Calls Tryz.prog 219 #[.slice ao ps.length cap, .agg #[.string p.1, .string p.2]] w (IndexPost ps p w.heap.size w) := by
  have HR := Lib.hid hr
  clear hr
  go_enter Tryz.func219, Tryz.ntmps219
  go_wp2
  go_loopw [8] (fun i wr => ∃ k : Nat, k ≤ ps.length ∧ i = .int .i64 k ∧ Hid (p ∉ ps.take k) ∧ wr.cell? ⟨w.heap.size, 0, none⟩ = some (.string p.1) ∧ wr.cell? ⟨w.heap.size, 1, none⟩ = some (.string p.2) ∧ Below w.heap.size w wr) (fun i _ => ps.length - (intOf i).toNat)
  case atStart => exact ⟨0, Nat.zero_le _, rfl, Lib.hid (by simp), by rw [World.cell?_alloc_new]; rfl, by rw [World.cell?_alloc_new]; rfl, (Below.refl _ _).alloc (Nat.le_refl _) _⟩
  case round =>
    obtain ⟨k, hk, rfl, HN, e0, e1, hb0⟩ := hrel
    by_cases hlt : k < ps.length
    · obtain ⟨q, hq⟩ : ∃ q, ps[k]? = some q := ⟨_, List.getElem?_eq_getElem hlt⟩
      obtain ⟨b, off, rfl, hc1, hc2⟩ := HR.out.below hb0 (Nat.le_refl _) k q hq
      have HQ := Lib.hid hq
      clear hq
      by_cases hqp : p = q
      · subst hqp
        have hmem := Lib.hid (List.mem_of_getElem? HQ.out)
        clear HN
        go_wp2_with fail
        go_quiet (fail)
        go_wp2
        go_ret
        exact ⟨_, rfl, .inl ⟨by omega, hmem.out⟩, drewN_below hb0 _⟩
      · have HN2 := Lib.hid (not_mem_take HQ.out HN.out (Ne.symm hqp))
        rcases pair_ne hqp with h1 | ⟨h1, h2⟩
        all_goals
          clear HN
          go_wp2_with fail
          go_quiet (fail)
          go_wp2
          exact ⟨⟨k + 1, by omega, by go_num, HN2, by simpa using e0, by simpa using e1, drewN_below hb0 _⟩, by simp [intOf]; omega⟩
    · obtain rfl : k = ps.length := by omega
      have HM := Lib.hid (show p ∉ ps by have := HN.out; rwa [List.take_length] at this)
      clear HN
      go_wp2
      go_ret
      exact ⟨-1, rfl, .inr ⟨rfl, HM.out⟩, hb0⟩

theorem containsP_is (ao : Option Addr) (cap : Nat) (ps : List Pair) (p : Pair) (v : Bool) (w : World) (hv : v = true ↔ p ∈ ps) (hr : PairRow w ao ps) (hl : ps.length ≤ 9223372036854775806) :
    Calls Tryz.prog 184 #[.slice ao ps.length cap, .agg #[.string p.1, .string p.2]] w fun e w' => e = .returned (.bool v) ∧ Below w.heap.size w w' := by
  have HR := Lib.hid hr
  have HV := Lib.hid hv
  clear hr hv
  go_enter Tryz.func184, Tryz.ntmps184
  go_wp2_with fail
  refine (indexP_any ao cap ps p _ (HR.out.later ((Below.refl _ _).alloc (Nat.le_refl _) _)) hl).mono ?_
  rintro e w1 ⟨n, rfl, hn, hb1⟩
  have B1 := ((Below.refl w.heap.size w).alloc (Nat.le_refl _) (.cells #[.string p.1, .string p.2] 27)).trans (hb1.mono (by simp))
  rcases hn with ⟨h0, hm⟩ | ⟨rfl, hm⟩
  · have hv : Hid (v = true) := Lib.hid (HV.out.2 hm)
    clear hm
    go_wp2
    go_ret
    exact ⟨ret_b hv.out.symm, B1⟩
  · have hv : Hid (v = false) := Lib.hid (by rw [← Bool.not_eq_true]; exact fun h => hm (HV.out.1 h))
    clear hm
    go_wp2
    go_ret
    exact ⟨ret_b hv.out.symm, B1⟩

theorem isSender_any (u d : ByteArray) (w : World) (hm : HasMax w) (hu : u.size ≤ 1048576) (hd : d.size ≤ 1048576) :
    Calls Tryz.prog 114 #[.agg #[.string u, .string d]] w fun e w' => e = .returned (.bool (senderB u d)) ∧ Below w.heap.size w w' := by
  have HM := Lib.hid (hm.below ((Below.refl w.heap.size w).alloc (Nat.le_refl _) (.cells #[.string u, .string d] 27)) (Nat.le_refl _))
  clear hm
  cases hn : nullB u d
  · have hq : Hid (senderB u d = addrB u d) := Lib.hid (by unfold senderB; rw [hn]; rfl)
    have HN := Lib.hid hn
    clear hn
    go_enter Tryz.func114, Tryz.ntmps114
    go_wp2_with fail
    refine (isNull_is u d false HN.out _).mono ?_
    rintro e w1 ⟨rfl, hb1⟩
    have c0 := hb1.cell (p := ⟨w.heap.size, 0, none⟩) (by simp)
    have c1 := hb1.cell (p := ⟨w.heap.size, 1, none⟩) (by simp)
    have B1 := ((Below.refl w.heap.size w).alloc (Nat.le_refl _) (.cells #[.string u, .string d] 27)).trans (hb1.mono (by simp))
    have HM1 := Lib.hid (HM.out.below hb1 (Nat.le_refl _))
    clear hb1
    go_wp2_with fail
    refine (implAddrOk_any u d _ HM1.out (by omega) (by omega)).mono ?_
    rintro e w2 ⟨rfl, hb2⟩
    have B2 := B1.trans (hb2.mono B1.size)
    go_wp2
    go_ret
    exact ⟨ret_b hq.out.symm, B2⟩
  · have hq : Hid (senderB u d = true) := Lib.hid (by unfold senderB; rw [hn]; rfl)
    have HN := Lib.hid hn
    clear hn
    go_enter Tryz.func114, Tryz.ntmps114
    go_wp2_with fail
    refine (isNull_is u d true HN.out _).mono ?_
    rintro e w1 ⟨rfl, hb1⟩
    have B1 := ((Below.refl w.heap.size w).alloc (Nat.le_refl _) (.cells #[.string u, .string d] 27)).trans (hb1.mono (by simp))
    go_wp2
    go_ret
    exact ⟨ret_b hq.out.symm, B1⟩

theorem contains_yes {b off cap : Nat} {ps : List Pair} {p : Pair} {w : World} (k : Nat) (hv : p ∈ ps.take k) (hr : PairRow w (some ⟨b, off, none⟩) ps) (hk : k ≤ ps.length) (hl : ps.length ≤ 1048576) :
    Calls Tryz.prog 184 #[.slice (some ⟨b, off, none⟩) k cap, .agg #[.string p.1, .string p.2]] w fun e w' => e = .returned (.bool true) ∧ Below w.heap.size w w' := by
  have h := containsP_is (some ⟨b, off, none⟩) cap (ps.take k) p true w ⟨fun _ => hv, fun _ => rfl⟩ (hr.take k) (by rw [List.length_take]; omega)
  rwa [List.length_take, Nat.min_eq_left hk] at h
theorem contains_no {b off cap : Nat} {ps : List Pair} {p : Pair} {w : World} (k : Nat) (hv : p ∉ ps.take k) (hr : PairRow w (some ⟨b, off, none⟩) ps) (hk : k ≤ ps.length) (hl : ps.length ≤ 1048576) :
    Calls Tryz.prog 184 #[.slice (some ⟨b, off, none⟩) k cap, .agg #[.string p.1, .string p.2]] w fun e w' => e = .returned (.bool false) ∧ Below w.heap.size w w' := by
  have h := containsP_is (some ⟨b, off, none⟩) cap (ps.take k) p false w ⟨(fun h => by cases h), fun h => absurd h hv⟩ (hr.take k) (by rw [List.length_take]; omega)
  rwa [List.length_take, Nat.min_eq_left hk] at h
theorem toB_new {ps : List Pair} {k : Nat} {p : Pair} (hp : ps[k]? = some p) (hm : p ∈ ps.take k) : toB ps = false := by
  obtain ⟨j, hj⟩ := List.getElem?_of_mem hm
  rw [List.getElem?_take] at hj
  split at hj
  · exact toB_twice hp hj (by assumption)
  · cases hj
theorem nodup_new {ps : List Pair} {k : Nat} {p : Pair} (hp : ps[k]? = some p) (h : (ps.take k).Nodup) (hm : p ∉ ps.take k) : (ps.take (k + 1)).Nodup :=
  nodup_succ hp h fun j hj e => hm (List.mem_of_getElem? (i := j) (by rw [List.getElem?_take, if_pos hj]; exact e))

set_option maxHeartbeats 2000000 in
set_option maxRecDepth 100000 in
theorem areRecipients_any (ao : Option Addr) (cap : Nat) (ps : List Pair) (w : World) (hm : HasMax w) (hr : PairRow w ao ps) (hl : ps.length ≤ 1048576) (hcap : ps.length ≤ cap) (hs : ∀ p ∈ ps, p.1.size ≤ 1048576 ∧ p.2.size ≤ 1048576) :
    Calls Tryz.prog 115 #[.slice ao ps.length cap] w fun e w' => e = .returned (.bool (toB ps)) ∧ Below w.heap.size w w' := by
  have HR := Lib.hid hr
  have HS := Lib.hid hs
  have HM := Lib.hid hm
  clear hr hs hm
  by_cases h1 : ps.length < 1
  · have hq : Hid (toB ps = false) := Lib.hid (toB_size (by omega))
    go_enter Tryz.func115, Tryz.ntmps115
    go_wp2
    go_ret
    exact ⟨ret_b hq.out.symm, Below.refl _ _⟩
  by_cases h4 : 4 < ps.length
  · have hq : Hid (toB ps = false) := Lib.hid (toB_size (by omega))
    go_enter Tryz.func115, Tryz.ntmps115
    go_wp2
    go_ret
    exact ⟨ret_b hq.out.symm, Below.refl _ _⟩
  go_enter Tryz.func115, Tryz.ntmps115
  go_wp2
  go_loopw [15] (fun i wr => ∃ k : Nat, k ≤ ps.length ∧ i = .int .i64 k ∧ Hid ((ps.take k).all pairB = true) ∧ Hid ((ps.take k).Nodup) ∧ Below w.heap.size w wr) (fun i _ => ps.length - (intOf i).toNat)
  case atStart => exact ⟨0, Nat.zero_le _, rfl, Lib.hid (by simp), Lib.hid (by simp), Below.refl _ _⟩
  case round =>
    obtain ⟨k, hk, rfl, HA, HN, hb⟩ := hrel
    have hz := hb.size
    by_cases hlt : k < ps.length
    · obtain ⟨p, hp⟩ : ∃ p, ps[k]? = some p := ⟨_, List.getElem?_eq_getElem hlt⟩
      obtain ⟨b, off, rfl, hc1, hc2⟩ := (HR.out.below hb (Nat.le_refl _)) k p hp
      obtain ⟨s1, s2⟩ := HS.out p (List.mem_of_getElem? hp)
      have HP := Lib.hid hp
      clear hp
      have bw : Below w.heap.size w (wr.alloc (.cells #[.string p.1, .string p.2] 27)).drew := (hb.alloc hz _).drew
      have zw : w.heap.size ≤ (wr.alloc (.cells #[.string p.1, .string p.2] 27)).drew.heap.size := bw.size
      have HM2 := Lib.hid (HM.out.below bw (Nat.le_refl _))
      cases hpb : pairB p
      · have hq : Hid (toB ps = false) := Lib.hid (toB_miss HP.out hpb)
        have HPB : Hid (addrB p.1 p.2 = false) := Lib.hid hpb
        clear hpb
        go_wp2_with fail
        clear hc1 hc2
        first | (go_region_with (go_at_call 183; refine (implAddrOk_any p.1 p.2 _ HM2.out (by omega) (by omega)).mono ?_; rintro e w1 ⟨rfl, hb1⟩; rw [HPB.out])) | fail
        all_goals
          simp only [Act.put, List.getElem_toArray, List.getElem_cons_succ, List.getElem_cons_zero, List.setIfInBounds_toArray, List.set_cons_zero, List.set_cons_succ]
          have B1 := bw.trans (hb1.mono zw)
          go_wp2
          go_ret
          exact ⟨ret_b hq.out.symm, B1⟩
      · have HPB : Hid (addrB p.1 p.2 = true) := Lib.hid hpb
        have HPP := Lib.hid hpb
        have hlk : k ≤ cap := by omega
        clear hpb
        by_cases hmem : p ∈ ps.take k
        · have hq : Hid (toB ps = false) := Lib.hid (toB_new HP.out hmem)
          have HV := Lib.hid hmem
          clear hmem
          go_wp2_with fail
          clear hc1 hc2
          go_region_with (first | (go_at_call 183; refine (implAddrOk_any p.1 p.2 _ HM2.out (by omega) (by omega)).mono ?_; rintro e w1 ⟨rfl, hb1⟩; rw [HPB.out]; obtain ⟨cc, cf⟩ := bcell hb1; have B1 := bw.trans (hb1.mono zw)) | (go_at_call 184; refine (contains_yes k HV.out (HR.out.below B1 (Nat.le_refl _)) (by omega) (by omega)).mono ?_; rintro e w2 ⟨rfl, hb2⟩))
          have B2 := B1.trans (hb2.mono B1.size)
          go_wp2
          go_ret
          exact ⟨ret_b hq.out.symm, B2⟩
        · have HA2 := Lib.hid (list_all_succ HP.out HA.out HPP.out)
          have HN2 := Lib.hid (nodup_new HP.out HN.out hmem)
          have HV := Lib.hid hmem
          clear hmem
          go_wp2_with fail
          clear hc1 hc2
          go_region_with (first | (go_at_call 183; refine (implAddrOk_any p.1 p.2 _ HM2.out (by omega) (by omega)).mono ?_; rintro e w1 ⟨rfl, hb1⟩; rw [HPB.out]; obtain ⟨cc, cf⟩ := bcell hb1; have B1 := bw.trans (hb1.mono zw)) | (go_at_call 184; refine (contains_no k HV.out (HR.out.below B1 (Nat.le_refl _)) (by omega) (by omega)).mono ?_; rintro e w2 ⟨rfl, hb2⟩))
          have B2 := B1.trans (hb2.mono B1.size)
          clear cc cf
          go_wp2
          go_roundw
          case rel => exact ⟨k + 1, by omega, by go_num, HA2, HN2, B2⟩
          case measure => simp [intOf]; omega
    · obtain rfl : k = ps.length := by omega
      have hq : Hid (toB ps = true) := Lib.hid ((toB_end (Nat.le_refl _) HA.out HN.out).trans (decide_eq_true (by omega)))
      go_wp2
      go_ret
      exact ⟨ret_b hq.out.symm, hb⟩

theorem mailB_from {m : MailD} (h : senderB m.fu m.fd = false) : mailB m = false := by unfold mailB; rw [h]; rfl
theorem mailB_body {m : MailD} (h1 : senderB m.fu m.fd = true) (h2 : toB m.rc = true) : mailB m = bodyB m.body := by unfold mailB; rw [h1, h2]; rfl

set_option maxHeartbeats 800000 in
set_option maxRecDepth 100000 in
theorem implMailOk_any (m : MailD) (a1 : Option Addr) (c1 : Nat) (a2 : Option Addr) (c2 : Nat) (w : World) (hm : HasMax w) (hat : MailAt w m a1 a2) (hsz : MailSz 1048576 m) (hcap : m.rc.length ≤ c1) :
    Calls Tryz.prog 60 #[.agg (mailV m a1 c1 a2 c2)] w fun e w' => e = .returned (.bool (mailB m)) ∧ Below w.heap.size w w' := by
  have hb0 : Below w.heap.size w (w.alloc (.cells (mailV m a1 c1 a2 c2) 31)) := (Below.refl _ _).alloc (Nat.le_refl _) _
  have HM := Lib.hid (hm.below hb0 (Nat.le_refl _))
  have HAT := Lib.hid hat
  have HS := Lib.hid hsz
  have z1 := hsz.rcl
  have z2 := hsz.fu
  have z3 := hsz.fd
  have HBS : Hid (∀ x ∈ m.body, x.size ≤ maxLen) := Lib.hid fun x hx => Nat.le_trans (HS.out.bos x hx) (by unfold maxLen; omega)
  have zb : m.body.length ≤ maxLen := Nat.le_trans HS.out.bol (by unfold maxLen; omega)
  have hf := FourAt.new w (.string m.fu) (.string m.fd) (.slice a1 m.rc.length c1) (.slice a2 m.body.length c2) 31
  have HF := Lib.hid hf
  clear hm hat hsz hf
  cases hsd : senderB m.fu m.fd
  · have hq := Lib.hid (mailB_from hsd)
    have H1 := Lib.hid hsd
    clear hsd
    go_enter Tryz.func60, Tryz.ntmps60
    go_wp2_with fail
    refine (isSender_any m.fu m.fd _ HM.out z2 z3).mono ?_
    rintro e w1 ⟨rfl, hb1⟩
    rw [H1.out]
    have B1 := hb0.trans (hb1.mono (by simp))
    go_wp2
    go_ret
    exact ⟨ret_b hq.out.symm, B1⟩
  · cases hto : toB m.rc
    · have hq := Lib.hid (mailB_to hto)
      have H1 := Lib.hid hsd
      have H2 := Lib.hid hto
      clear hsd hto
      go_enter Tryz.func60, Tryz.ntmps60
      go_wp2_with fail
      refine (isSender_any m.fu m.fd _ HM.out z2 z3).mono ?_
      rintro e w1 ⟨rfl, hb1⟩
      rw [H1.out]
      have B1 := hb0.trans (hb1.mono (by simp))
      have HM1 := Lib.hid (HM.out.below hb1 (Nat.le_refl _))
      obtain ⟨g0, g1, g2, g3⟩ := (HF.out.later hb1).cells
      go_wp2_with fail
      refine (areRecipients_any a1 c1 m.rc _ HM1.out (HAT.out.rc.below B1 (Nat.le_refl _)) z1 hcap HS.out.rcs).mono ?_
      rintro e w2 ⟨rfl, hb2⟩
      rw [H2.out]
      have B2 := B1.trans (hb2.mono B1.size)
      go_wp2
      go_ret
      exact ⟨ret_b hq.out.symm, B2⟩
    · have hq := Lib.hid (mailB_body hsd hto)
      have H1 := Lib.hid hsd
      have H2 := Lib.hid hto
      clear hsd hto
      go_enter Tryz.func60, Tryz.ntmps60
      go_wp2_with fail
      refine (isSender_any m.fu m.fd _ HM.out z2 z3).mono ?_
      rintro e w1 ⟨rfl, hb1⟩
      rw [H1.out]
      have B1 := hb0.trans (hb1.mono (by simp))
      have HM1 := Lib.hid (HM.out.below hb1 (Nat.le_refl _))
      have HF1 := Lib.hid (HF.out.later hb1)
      obtain ⟨g0, g1, g2, g3⟩ := HF1.out.cells
      go_wp2_with fail
      refine (areRecipients_any a1 c1 m.rc _ HM1.out (HAT.out.rc.below B1 (Nat.le_refl _)) z1 hcap HS.out.rcs).mono ?_
      rintro e w2 ⟨rfl, hb2⟩
      rw [H2.out]
      have B2 := B1.trans (hb2.mono B1.size)
      obtain ⟨g0, g1, g2, g3⟩ := (HF1.out.later hb2).cells
      go_wp2_with fail
      refine (isBody_any a2 c2 m.body _ (HAT.out.body.below B2 (Nat.le_refl _)) zb HBS.out).mono ?_
      rintro e w3 ⟨rfl, rfl⟩
      go_wp2
      go_ret
      exact ⟨ret_b hq.out.symm, B2⟩
end Go.Proofs.YtcaknjdolfheaaaGreatDoor
namespace Go.Proofs.YtcaknjdolfheaaaGreatDoor
open Go Go.RowKit

/-- Four cells of the call's own, in block k, that may be written. -/
structure FourM (w : World) (k : Nat) (x0 x1 x2 x3 : Value) : Prop where
  at' : FourAt w k x0 x1 x2 x3
  f0 : w.frozen? ⟨k, 0, none⟩ = false
  f1 : w.frozen? ⟨k, 1, none⟩ = false
  f2 : w.frozen? ⟨k, 2, none⟩ = false
  f3 : w.frozen? ⟨k, 3, none⟩ = false
theorem FourM.cells {w : World} {k : Nat} {x0 x1 x2 x3 : Value} (h : FourM w k x0 x1 x2 x3) : (w.cell? ⟨k, 0, none⟩ = some x0 ∧ w.cell? ⟨k, 1, none⟩ = some x1 ∧ w.cell? ⟨k, 2, none⟩ = some x2 ∧ w.cell? ⟨k, 3, none⟩ = some x3) ∧ (w.frozen? ⟨k, 0, none⟩ = false ∧ w.frozen? ⟨k, 1, none⟩ = false ∧ w.frozen? ⟨k, 2, none⟩ = false ∧ w.frozen? ⟨k, 3, none⟩ = false) := ⟨h.at'.cells, h.f0, h.f1, h.f2, h.f3⟩
theorem FourM.lt {w : World} {k : Nat} {x0 x1 x2 x3 : Value} (h : FourM w k x0 x1 x2 x3) : k < w.heap.size := World.block_lt_of_cell? w _ h.at'.c0
theorem FourM.later {w w' : World} {k : Nat} {x0 x1 x2 x3 : Value} (h : FourM w k x0 x1 x2 x3) (hb : Below w.heap.size w w') : FourM w' k x0 x1 x2 x3 :=
  ⟨h.at'.later hb, (hb.frozen (p := ⟨k, 0, none⟩) h.lt).trans h.f0, (hb.frozen (p := ⟨k, 1, none⟩) h.lt).trans h.f1, (hb.frozen (p := ⟨k, 2, none⟩) h.lt).trans h.f2, (hb.frozen (p := ⟨k, 3, none⟩) h.lt).trans h.f3⟩
theorem FourM.new (w : World) (x0 x1 x2 x3 : Value) (t : TypeId) : FourM (w.alloc (.cells #[x0, x1, x2, x3] t)) w.heap.size x0 x1 x2 x3 :=
  ⟨FourAt.new w x0 x1 x2 x3 t, by simp [go_sem], by simp [go_sem], by simp [go_sem], by simp [go_sem]⟩
theorem FourM.set0 {w : World} {k : Nat} {x0 x1 x2 x3 : Value} (h : FourM w k x0 x1 x2 x3) (v : Value) : FourM (w.setCell ⟨k, 0, none⟩ v) k v x1 x2 x3 :=
  ⟨⟨World.cell?_setCell_same _ _ _ h.at'.c0, (World.cell?_setCell_other _ _ _ _ (by simp)).trans h.at'.c1, (World.cell?_setCell_other _ _ _ _ (by simp)).trans h.at'.c2, (World.cell?_setCell_other _ _ _ _ (by simp)).trans h.at'.c3⟩, by simpa using h.f0, by simpa using h.f1, by simpa using h.f2, by simpa using h.f3⟩
theorem FourM.set1 {w : World} {k : Nat} {x0 x1 x2 x3 : Value} (h : FourM w k x0 x1 x2 x3) (v : Value) : FourM (w.setCell ⟨k, 1, none⟩ v) k x0 v x2 x3 :=
  ⟨⟨(World.cell?_setCell_other _ _ _ _ (by simp)).trans h.at'.c0, World.cell?_setCell_same _ _ _ h.at'.c1, (World.cell?_setCell_other _ _ _ _ (by simp)).trans h.at'.c2, (World.cell?_setCell_other _ _ _ _ (by simp)).trans h.at'.c3⟩, by simpa using h.f0, by simpa using h.f1, by simpa using h.f2, by simpa using h.f3⟩
theorem FourM.set2 {w : World} {k : Nat} {x0 x1 x2 x3 : Value} (h : FourM w k x0 x1 x2 x3) (v : Value) : FourM (w.setCell ⟨k, 2, none⟩ v) k x0 x1 v x3 :=
  ⟨⟨(World.cell?_setCell_other _ _ _ _ (by simp)).trans h.at'.c0, (World.cell?_setCell_other _ _ _ _ (by simp)).trans h.at'.c1, World.cell?_setCell_same _ _ _ h.at'.c2, (World.cell?_setCell_other _ _ _ _ (by simp)).trans h.at'.c3⟩, by simpa using h.f0, by simpa using h.f1, by simpa using h.f2, by simpa using h.f3⟩
theorem FourM.set3 {w : World} {k : Nat} {x0 x1 x2 x3 : Value} (h : FourM w k x0 x1 x2 x3) (v : Value) : FourM (w.setCell ⟨k, 3, none⟩ v) k x0 x1 x2 v :=
  ⟨⟨(World.cell?_setCell_other _ _ _ _ (by simp)).trans h.at'.c0, (World.cell?_setCell_other _ _ _ _ (by simp)).trans h.at'.c1, (World.cell?_setCell_other _ _ _ _ (by simp)).trans h.at'.c2, World.cell?_setCell_same _ _ _ h.at'.c3⟩, by simpa using h.f0, by simpa using h.f1, by simpa using h.f2, by simpa using h.f3⟩
theorem FourM.far {w : World} {k k' j : Nat} {x0 x1 x2 x3 : Value} (h : FourM w k x0 x1 x2 x3) (v : Value) (hne : k' ≠ k) : FourM (w.setCell ⟨k', j, none⟩ v) k x0 x1 x2 x3 := by
  obtain ⟨⟨c0, c1, c2, c3⟩, f0, f1, f2, f3⟩ := h
  refine ⟨⟨?_, ?_, ?_, ?_⟩, by simpa using f0, by simpa using f1, by simpa using f2, by simpa using f3⟩
  all_goals exact (World.cell?_setCell_other _ _ _ _ (fun e => hne (congrArg Addr.block e))).trans (by assumption)

/-- What is left of a size behind a mail. -/
def leftM (m : MailD) (left : Int) : Int :=
  if leftA m.fu m.fd left < 0 then -1 else if leftP m.rc (leftA m.fu m.fd left) < 0 then -1 else leftB m.body (leftP m.rc (leftA m.fu m.fd left))
theorem leftA_le (u d : ByteArray) {left : Int} (h : 0 ≤ left) : leftA u d left ≤ left := by unfold leftA; split <;> omega
theorem leftB_le (xs : List ByteArray) {left : Int} (h : 0 ≤ left) : leftB xs left ≤ left := by unfold leftB; split <;> omega
theorem leftB_small2 {xs : List ByteArray} {left : Int} (h : ¬ leftB xs left < 0) (h1 : left ≤ 1048576) : xs.length ≤ 1048576 ∧ ∀ x ∈ xs, x.size ≤ 1048576 := by
  unfold leftB at h
  split at h
  · refine ⟨by omega, fun x hx => ?_⟩
    have := sumB_mem hx
    omega
  · exact absurd (show (-1 : Int) < 0 by decide) h
theorem leftM_small {m : MailD} {left : Int} (h : ¬ leftM m left < 0) (h0 : 0 ≤ left) (h1 : left ≤ 1048576) : MailSz 1048576 m := by
  unfold leftM at h
  split at h
  · exact absurd (show (-1 : Int) < 0 by decide) h
  · rename_i hA
    split at h
    · exact absurd (show (-1 : Int) < 0 by decide) h
    · rename_i hP
      have lA := leftA_le m.fu m.fd h0
      have lP := leftP_le (ps := m.rc) (left := leftA m.fu m.fd left) (by omega)
      obtain ⟨p1, p2⟩ := leftP_small hP (by omega)
      obtain ⟨b1, b2⟩ := leftB_small2 h (by omega)
      have hA2 : m.fu.size ≤ 1048576 ∧ m.fd.size ≤ 1048576 := by
        unfold leftA at hA
        split at hA
        · omega
        · exact absurd (show (-1 : Int) < 0 by decide) hA
      exact ⟨hA2.1, hA2.2, p1, p2, b1, b2⟩

set_option maxHeartbeats 800000 in
set_option maxRecDepth 100000 in
theorem szMail_any (m : MailD) (a1 : Option Addr) (c1 : Nat) (a2 : Option Addr) (c2 : Nat) (left : Int) (w : World) (hat : MailAt w m a1 a2) (hsz : MailSz maxLen m) (h0 : 0 ≤ left) (h1 : left ≤ 1048576) :
    Calls Tryz.prog 97 #[.agg (mailV m a1 c1 a2 c2), .int .i64 left] w fun e w' => e = .returned (.int .i64 (leftM m left)) ∧ Below w.heap.size w w' := by
  have hb0 : Below w.heap.size w (w.alloc (.cells (mailV m a1 c1 a2 c2) 66)) := (Below.refl _ _).alloc (Nat.le_refl _) _
  have HAT := Lib.hid hat
  have HS := Lib.hid hsz
  obtain ⟨z1, z2, z3, z4, z5, z6⟩ := hsz
  unfold maxLen at z1 z2 z3 z4 z5 z6
  have Z4 : Hid (∀ p ∈ m.rc, p.1.size ≤ 9223372036854775807 ∧ p.2.size ≤ 9223372036854775807) := Lib.hid fun p hp => ⟨by have := (z4 p hp).1; omega, by have := (z4 p hp).2; omega⟩
  have Z6 : Hid (∀ x ∈ m.body, x.size ≤ 9223372036854775807) := Lib.hid fun x hx => by have := z6 x hx; omega
  have HF := Lib.hid (FourAt.new w (.string m.fu) (.string m.fd) (.slice a1 m.rc.length c1) (.slice a2 m.body.length c2) 66)
  clear hat z4 z6
  obtain ⟨lA, hA⟩ : ∃ l, leftA m.fu m.fd left = l := ⟨_, rfl⟩
  have LA := leftA_le m.fu m.fd h0
  rw [hA] at LA
  have HA := Lib.hid hA
  by_cases nA : lA < 0
  · have hq : Hid (leftM m left = -1) := Lib.hid (by unfold leftM; rw [hA, if_pos nA])
    clear hA
    go_enter Tryz.func97, Tryz.ntmps97
    go_wp2_with fail
    refine (szAddr_any m.fu m.fd left _ h0 h1 (by omega) (by omega)).mono ?_
    rintro e w1 ⟨rfl, hb1⟩
    rw [HA.out]
    have B1 := hb0.trans (hb1.mono (by simp))
    go_wp2
    go_ret
    exact ⟨ret_i hq.out.symm, B1⟩
  · obtain ⟨lP, hP⟩ : ∃ l, leftP m.rc lA = l := ⟨_, rfl⟩
    have LP := leftP_le (ps := m.rc) (left := lA) (by omega)
    rw [hP] at LP
    have HP := Lib.hid hP
    by_cases nP : lP < 0
    · have hq : Hid (leftM m left = -1) := Lib.hid (by unfold leftM; rw [hA, if_neg nA, hP, if_pos nP])
      clear hA hP
      go_enter Tryz.func97, Tryz.ntmps97
      go_wp2_with fail
      refine (szAddr_any m.fu m.fd left _ h0 h1 (by omega) (by omega)).mono ?_
      rintro e w1 ⟨rfl, hb1⟩
      rw [HA.out]
      have B1 := hb0.trans (hb1.mono (by simp))
      obtain ⟨g0, g1, g2, g3⟩ := (HF.out.later hb1).cells
      go_wp2_with fail
      refine (szAddrS_any a1 c1 m.rc lA _ (HAT.out.rc.below B1 (Nat.le_refl _)) (by omega) (by omega) (by omega) Z4.out).mono ?_
      rintro e w2 ⟨rfl, hb2⟩
      rw [HP.out]
      have B2 := B1.trans (hb2.mono B1.size)
      go_wp2
      go_ret
      exact ⟨ret_i hq.out.symm, B2⟩
    · have hq : Hid (leftM m left = leftB m.body lP) := Lib.hid (by unfold leftM; rw [hA, if_neg nA, hP, if_neg nP])
      obtain ⟨lB, hB⟩ : ∃ l, leftB m.body lP = l := ⟨_, rfl⟩
      have HB := Lib.hid hB
      clear hA hP hB
      go_enter Tryz.func97, Tryz.ntmps97
      go_wp2_with fail
      refine (szAddr_any m.fu m.fd left _ h0 h1 (by omega) (by omega)).mono ?_
      rintro e w1 ⟨rfl, hb1⟩
      rw [HA.out]
      have B1 := hb0.trans (hb1.mono (by simp))
      have F1 := Lib.hid (HF.out.later hb1)
      obtain ⟨g0, g1, g2, g3⟩ := F1.out.cells
      go_wp2_with fail
      refine (szAddrS_any a1 c1 m.rc lA _ (HAT.out.rc.below B1 (Nat.le_refl _)) (by omega) (by omega) (by omega) Z4.out).mono ?_
      rintro e w2 ⟨rfl, hb2⟩
      rw [HP.out]
      have B2 := B1.trans (hb2.mono B1.size)
      obtain ⟨g0, g1, g2, g3⟩ := (F1.out.later hb2).cells
      go_wp2_with fail
      refine (szStringS_any a2 c2 m.body lP _ (HAT.out.body.below B2 (Nat.le_refl _)) (by omega) (by omega) (by omega) Z6.out).mono ?_
      rintro e w3 ⟨rfl, rfl⟩
      rw [HB.out]
      by_cases nB : lB < 0
      · have hq2 : Hid (leftM m left = -1) := Lib.hid (by
          have e1 := HB.out
          rw [hq.out, e1]
          unfold leftB at e1
          split at e1 <;> omega)
        go_wp2
        go_ret
        exact ⟨ret_i hq2.out.symm, B2⟩
      · have hq2 : Hid (leftM m left = lB) := Lib.hid (by rw [hq.out, HB.out])
        go_wp2
        go_ret
        exact ⟨ret_i hq2.out.symm, B2⟩

/-- A mail of the call's own. -/
structure MailOwn (w : World) (B : Nat) (m : MailD) (a1 : Option Addr) (c1 : Nat) (a2 : Option Addr) (c2 : Nat) : Prop where
  rc : PRow w B 27 a1 c1 m.rc
  body : Row w B a2 c2 m.body
  ne : (blockOf a1 = none ∨ blockOf a1 ≠ blockOf a2) ∧ (blockOf a2 = none ∨ blockOf a2 ≠ blockOf a1)
theorem MailOwn.at {w : World} {B : Nat} {m : MailD} {a1 : Option Addr} {c1 : Nat} {a2 : Option Addr} {c2 : Nat} (h : MailOwn w B m a1 c1 a2 c2) : MailAt w m a1 a2 := ⟨h.rc.pairs, h.body.strs⟩
theorem MailOwn.later {w w' : World} {B : Nat} {m : MailD} {a1 : Option Addr} {c1 : Nat} {a2 : Option Addr} {c2 : Nat} (h : MailOwn w B m a1 c1 a2 c2) (hb : Below w.heap.size w w') : MailOwn w' B m a1 c1 a2 c2 := ⟨h.rc.later hb, h.body.later hb, h.ne⟩
theorem PRow.cap {w : World} {B : Nat} {t : TypeId} {ao : Option Addr} {cap : Nat} {ps : List Pair} (h : PRow w B t ao cap ps) : ps.length ≤ cap := by
  rcases h.2 with ⟨hv, hn⟩ | ⟨g, c, cur, hv, _, _, hc, _⟩
  · omega
  · simp only [Value.slice.injEq, true_and] at hv
    omega
theorem PRow.ne_row {wA wB : World} {B1 B2 : Nat} {t : TypeId} {ao bo : Option Addr} {c1 c2 : Nat} {ps : List Pair} {ys : List ByteArray} (h1 : PRow wA B1 t ao c1 ps) (h2 : Row wB B2 bo c2 ys) (hs : wA.heap.size ≤ B2) : (blockOf ao = none ∨ blockOf ao ≠ blockOf bo) ∧ (blockOf bo = none ∨ blockOf bo ≠ blockOf ao) := by
  have key : ∀ k, blockOf ao = some k → blockOf bo = some k → False := fun k e1 e2 => by
    have := (h1.lt e1).2
    have := (h2.lt e2).1
    omega
  constructor
  · cases e : blockOf ao with
    | none => exact .inl rfl
    | some k => exact .inr fun e2 => key k e e2.symm
  · cases e : blockOf bo with
    | none => exact .inl rfl
    | some k => exact .inr fun e2 => key k e2.symm e
theorem ownsRow_base {w : World} {B B' : Nat} {e : TypeId} {size : Nat} {v : Value} {n : Nat} {xs : List Value} (h : w.ownsRow B e size v n xs) (hB : B' ≤ B) : w.ownsRow B' e size v n xs := by
  refine ⟨h.1, ?_⟩
  rcases h.2 with hn | ⟨g, cap, cur, hv, hb, rest⟩
  · exact .inl hn
  · exact .inr ⟨g, cap, cur, hv, Nat.le_trans hB hb, rest⟩

theorem own_low {w : World} {B : Nat} {e : TypeId} {size : Nat} {ao : Option Addr} {n cap k j : Nat} {xs : List Value} (h : w.ownsRow B e size (.slice ao n cap) n xs) (hk : k < B) (v : Value) : (w.setCell ⟨k, j, none⟩ v).ownsRow B e size (.slice ao n cap) n xs := by
  refine h.kept (row := some k) ⟨rfl, rfl, rfl, by simp, fun i _ hi => heap_setCell_other w ⟨k, j, none⟩ i v (fun e => hi (by simp [e]))⟩ ?_
  cases e : (Value.slice ao n cap).ownBlock with
  | none => exact .inl rfl
  | some g =>
    refine .inr fun e2 => ?_
    have := (h.lt g e).1
    have := Option.some.inj e2
    omega
theorem PRow.low {w : World} {B : Nat} {t : TypeId} {ao : Option Addr} {cap k j : Nat} {ps : List Pair} (h : PRow w B t ao cap ps) (hk : k < B) (v : Value) : PRow (w.setCell ⟨k, j, none⟩ v) B t ao cap ps := own_low h hk v
theorem Row.low {w : World} {B : Nat} {ao : Option Addr} {cap k j : Nat} {xs : List ByteArray} (h : Row w B ao cap xs) (hk : k < B) (v : Value) : Row (w.setCell ⟨k, j, none⟩ v) B ao cap xs := own_low h hk v
theorem FourAt.far {w : World} {k k' j : Nat} {x0 x1 x2 x3 : Value} (h : FourAt w k x0 x1 x2 x3) (v : Value) (hne : k' ≠ k) : FourAt (w.setCell ⟨k', j, none⟩ v) k x0 x1 x2 x3 := by
  obtain ⟨c0, c1, c2, c3⟩ := h
  refine ⟨?_, ?_, ?_, ?_⟩
  all_goals exact (World.cell?_setCell_other _ _ _ _ (fun e => hne (congrArg Addr.block e))).trans (by assumption)

set_option maxHeartbeats 1600000 in
set_option maxRecDepth 100000 in
theorem toMail_any (m : MailD) (a1 : Option Addr) (c1 : Nat) (a2 : Option Addr) (c2 : Nat) (w : World) (hat : MailAt w m a1 a2) (hsz : MailSz 1048576 m) :
    Calls Tryz.prog 100 #[.agg (mailV m a1 c1 a2 c2)] w fun e w' => ∃ b1 d1 b2 d2, e = .returned (.agg (mailV m b1 d1 b2 d2)) ∧ MailOwn w' w.heap.size m b1 d1 b2 d2 ∧ Below w.heap.size w w' := by
  have HAT := Lib.hid hat
  have z1 := hsz.rcl
  have z2 := hsz.bol
  have hA0 := (((FourAt.new w (.string m.fu) (.string m.fd) (.slice a1 m.rc.length c1) (.slice a2 m.body.length c2) 66).later ((Below.refl _ _).alloc (Nat.le_refl _) (.cells #[.string ByteArray.empty, .string ByteArray.empty, .slice none 0 0, .slice none 0 0] 31))).later ((Below.refl _ _).alloc (Nat.le_refl _) (.cells #[.string ByteArray.empty, .string ByteArray.empty, .slice none 0 0, .slice none 0 0] 31)))
  have hR0 := (FourM.new (w.alloc (.cells (mailV m a1 c1 a2 c2) 66)) (.string ByteArray.empty) (.string ByteArray.empty) (.slice none 0 0) (.slice none 0 0) 31).later ((Below.refl _ _).alloc (Nat.le_refl _) (.cells #[.string ByteArray.empty, .string ByteArray.empty, .slice none 0 0, .slice none 0 0] 31))
  have hO0 := FourM.new ((w.alloc (.cells (mailV m a1 c1 a2 c2) 66)).alloc (.cells #[.string ByteArray.empty, .string ByteArray.empty, .slice none 0 0, .slice none 0 0] 31)) (.string ByteArray.empty) (.string ByteArray.empty) (.slice none 0 0) (.slice none 0 0) 31
  have hb0 : Below w.heap.size w (((w.alloc (.cells (mailV m a1 c1 a2 c2) 66)).alloc (.cells #[.string ByteArray.empty, .string ByteArray.empty, .slice none 0 0, .slice none 0 0] 31)).alloc (.cells #[.string ByteArray.empty, .string ByteArray.empty, .slice none 0 0, .slice none 0 0] 31)) := (((Below.refl _ _).alloc (Nat.le_refl _) _).alloc (by simp) _).alloc (by simp; omega) _
  simp only [World.size_alloc] at hR0 hO0
  have A0 := Lib.hid hA0
  have R0 := Lib.hid hR0
  have O0 := Lib.hid hO0
  clear hat hsz hA0 hR0 hO0
  go_enter Tryz.func100, Tryz.ntmps100
  go_wp2_with fail
  refine (toAddr_any m.fu m.fd _).mono ?_
  rintro e w1 ⟨rfl, hb1⟩
  have hz1 := hb1.size
  simp only [World.size_alloc] at hz1
  have A1 := Lib.hid (A0.out.later hb1)
  have R1 := Lib.hid (R0.out.later hb1)
  have O1 := Lib.hid (O0.out.later hb1)
  have B1 := Lib.hid (((hb0.trans (hb1.mono hb0.size)).setCell (p := ⟨w.heap.size + 1 + 1, 0, none⟩) (by simp; omega) (.string m.fu)).setCell (p := ⟨w.heap.size + 1 + 1, 1, none⟩) (by simp; omega) (.string m.fd))
  obtain ⟨⟨o0, o1, o2, o3⟩, p0, p1, p2, p3⟩ := O1.out.cells
  obtain ⟨g0, g1, g2, g3⟩ := A1.out.cells
  clear hb1 hb0
  go_wp2_with fail
  refine (toAddrS_any a1 c1 m.rc _ (HAT.out.rc.below B1.out (Nat.le_refl _)) z1).mono ?_
  rintro e w2 ⟨b1, d1, rfl, ho2, hb2⟩
  have hz2 := hb2.size
  simp only [World.size_setCell] at hz2
  have A2 := Lib.hid (((A1.out.far (k' := w.heap.size + 1 + 1) (j := 0) (.string m.fu) (by omega)).far (k' := w.heap.size + 1 + 1) (j := 1) (.string m.fd) (by omega)).later hb2)
  have R2 := Lib.hid (((R1.out.far (k' := w.heap.size + 1 + 1) (j := 0) (.string m.fu) (by omega)).far (k' := w.heap.size + 1 + 1) (j := 1) (.string m.fd) (by omega)).later hb2)
  have O2 := Lib.hid (((O1.out.set0 (.string m.fu)).set1 (.string m.fd)).later hb2)
  have B2 := Lib.hid ((B1.out.trans (hb2.mono B1.out.size)).setCell (p := ⟨w.heap.size + 1 + 1, 2, none⟩) (by simp; omega) (.slice b1 m.rc.length d1))
  have P2 := Lib.hid (ho2.low (k := w.heap.size + 1 + 1) (j := 2) (by simp; omega) (.slice b1 m.rc.length d1))
  clear o0 o1 o2 o3 p0 p1 p2 p3 g0 g1 g2 g3 ho2 hb2
  obtain ⟨⟨o0, o1, o2, o3⟩, p0, p1, p2, p3⟩ := O2.out.cells
  obtain ⟨g0, g1, g2, g3⟩ := A2.out.cells
  go_wp2_with fail
  refine (toStringS_row a2 c2 m.body _ (HAT.out.body.below B2.out (Nat.le_refl _)) z2).mono ?_
  rintro e w3 ⟨b2, d2, rfl, ho3, hb3⟩
  have hz3 := hb3.size
  simp only [World.size_setCell] at hz3
  have R3 := Lib.hid ((R2.out.far (k' := w.heap.size + 1 + 1) (j := 2) (.slice b1 m.rc.length d1) (by omega)).later hb3)
  have O3 := Lib.hid ((O2.out.set2 (.slice b1 m.rc.length d1)).later hb3)
  have B3 := Lib.hid ((B2.out.trans (hb3.mono B2.out.size)).setCell (p := ⟨w.heap.size + 1 + 1, 3, none⟩) (by simp; omega) (.slice b2 m.body.length d2))
  have NE := Lib.hid (P2.out.ne_row ho3 (Nat.le_refl _))
  have P3 := Lib.hid ((P2.out.later hb3).low (k := w.heap.size + 1 + 1) (j := 3) (by simp; omega) (.slice b2 m.body.length d2))
  have Q3 := Lib.hid (ho3.low (k := w.heap.size + 1 + 1) (j := 3) (by simp; omega) (.slice b2 m.body.length d2))
  clear o0 o1 o2 o3 p0 p1 p2 p3 g0 g1 g2 g3 ho3 hb3
  obtain ⟨⟨o0, o1, o2, o3⟩, p0, p1, p2, p3⟩ := O3.out.cells
  obtain ⟨⟨r0, r1, r2, r3⟩, q0, q1, q2, q3⟩ := R3.out.cells
  have hn : w.heap.size + 1 + 1 ≠ w.heap.size + 1 := by omega
  go_wp2
  refine bodyPost_ret (v := .agg (mailV m b1 d1 b2 d2)) (by simp [results, Tryz.results100, go_sem, r0, r1, r2, r3]) rfl ⟨b1, d1, b2, d2, rfl, ?_, ?_⟩
  · refine ⟨ownsRow_base (((((P3.out.low (k := w.heap.size + 1) (j := 0) (by simp; omega) _).low (k := w.heap.size + 1) (j := 1) (by simp; omega) _).low (k := w.heap.size + 1) (j := 2) (by simp; omega) _).low (k := w.heap.size + 1) (j := 3) (by simp; omega) _)) (by simp; omega), ownsRow_base (((((Q3.out.low (k := w.heap.size + 1) (j := 0) (by simp; omega) _).low (k := w.heap.size + 1) (j := 1) (by simp; omega) _).low (k := w.heap.size + 1) (j := 2) (by simp; omega) _).low (k := w.heap.size + 1) (j := 3) (by simp; omega) _)) (by simp; omega), NE.out⟩
  · exact (((B3.out.setCell (p := ⟨w.heap.size + 1, 0, none⟩) (by simp) _).setCell (p := ⟨w.heap.size + 1, 1, none⟩) (by simp) _).setCell (p := ⟨w.heap.size + 1, 2, none⟩) (by simp) _).setCell (p := ⟨w.heap.size + 1, 3, none⟩) (by simp) _

set_option maxHeartbeats 1600000 in
set_option maxRecDepth 100000 in
theorem eqMail_same (m : MailD) (a1 : Option Addr) (c1 : Nat) (a2 : Option Addr) (c2 : Nat) (b1 : Option Addr) (d1 : Nat) (b2 : Option Addr) (d2 : Nat) (w : World) (ha : MailAt w m a1 a2) (hb : MailAt w m b1 b2) (h1 : m.rc.length ≤ 1048576) (h2 : m.body.length ≤ 1048576) :
    Calls Tryz.prog 92 #[.agg (mailV m a1 c1 a2 c2), .agg (mailV m b1 d1 b2 d2)] w fun e w' => e = .returned (.bool true) ∧ Below w.heap.size w w' := by
  have HA := Lib.hid ha
  have HB := Lib.hid hb
  have X0 := Lib.hid ((FourAt.new w (.string m.fu) (.string m.fd) (.slice a1 m.rc.length c1) (.slice a2 m.body.length c2) 31).later ((Below.refl _ _).alloc (Nat.le_refl _) (.cells (mailV m b1 d1 b2 d2) 31)))
  have Y0 := Lib.hid (FourAt.new (w.alloc (.cells (mailV m a1 c1 a2 c2) 31)) (.string m.fu) (.string m.fd) (.slice b1 m.rc.length d1) (.slice b2 m.body.length d2) 31)
  have hb0 : Below w.heap.size w ((w.alloc (.cells (mailV m a1 c1 a2 c2) 31)).alloc (.cells (mailV m b1 d1 b2 d2) 31)) := ((Below.refl _ _).alloc (Nat.le_refl _) _).alloc (by simp) _
  clear ha hb
  go_enter Tryz.func92, Tryz.ntmps92
  go_wp2_with fail
  refine (eqAddr_same m.fu m.fd _).mono ?_
  rintro e w1 ⟨rfl, hb1⟩
  have X1 := Lib.hid (X0.out.later hb1)
  have Y1 := Lib.hid (Y0.out.later hb1)
  have B1 := hb0.trans (hb1.mono hb0.size)
  obtain ⟨x0, x1, x2, x3⟩ := X1.out.cells
  obtain ⟨y0, y1, y2, y3⟩ := Y1.out.cells
  simp only [World.size_alloc] at y0 y1 y2 y3
  clear hb1 hb0
  go_wp2_with fail
  refine (eqAddrS_same a1 b1 c1 d1 m.rc _ (HA.out.rc.below B1 (Nat.le_refl _)) (HB.out.rc.below B1 (Nat.le_refl _)) h1).mono ?_
  rintro e w2 ⟨rfl, hb2⟩
  have B2 := B1.trans (hb2.mono B1.size)
  clear x0 x1 x2 x3 y0 y1 y2 y3
  obtain ⟨x0, x1, x2, x3⟩ := (X1.out.later hb2).cells
  obtain ⟨y0, y1, y2, y3⟩ := (Y1.out.later hb2).cells
  simp only [World.size_alloc] at y0 y1 y2 y3
  go_wp2_with fail
  refine (eqStringS_same a2 b2 c2 d2 m.body _ (HA.out.body.below B2 (Nat.le_refl _)) (HB.out.body.below B2 (Nat.le_refl _)) h2).mono ?_
  rintro e w3 ⟨rfl, n, rfl⟩
  go_wp2
  go_ret
  exact ⟨rfl, drewN_below B2 n⟩
end Go.Proofs.YtcaknjdolfheaaaGreatDoor
namespace Go.Proofs.YtcaknjdolfheaaaGreatDoor
open Go Go.RowKit

theorem leftM_le {m : MailD} {left : Int} (h : 0 ≤ left) : leftM m left ≤ left := by
  unfold leftM
  split
  · omega
  · split
    · omega
    · have h1 := leftA_le m.fu m.fd h
      have h2 := leftP_le (ps := m.rc) (left := leftA m.fu m.fd left) (by omega)
      have h3 := leftB_le m.body (left := leftP m.rc (leftA m.fu m.fd left)) (by omega)
      omega
theorem MailOwn.low {w : World} {B : Nat} {m : MailD} {a1 : Option Addr} {c1 : Nat} {a2 : Option Addr} {c2 : Nat} (h : MailOwn w B m a1 c1 a2 c2) {k : Nat} (hk : k < B) (j : Nat) (v : Value) : MailOwn (w.setCell ⟨k, j, none⟩ v) B m a1 c1 a2 c2 := ⟨h.rc.low hk v, h.body.low hk v, h.ne⟩

theorem MailOwn.base {w : World} {B B' : Nat} {m : MailD} {a1 : Option Addr} {c1 : Nat} {a2 : Option Addr} {c2 : Nat} (h : MailOwn w B m a1 c1 a2 c2) (hB : B' ≤ B) : MailOwn w B' m a1 c1 a2 c2 := ⟨ownsRow_base h.rc hB, ownsRow_base h.body hB, h.ne⟩
end Go.Proofs.YtcaknjdolfheaaaGreatDoor
