/- Lines, Iter, Undot, DotGetS, DotGetI. -/
import Derived.Test.YtcaknjdolfheaaaGreatDoorPlains
import Derived.Test.YtcaknjdolfheaaaGreatDoorBasis
import Derived.RangeFuncNested
import Derived.RangeFuncBound
import Derived.RangeFuncCalls
import Derived.RangeFuncLeaves
import Derived.RangeFuncBox
import Derived.Shelf.Abstract
import Derived.Shelf.RegionOpen
import Derived.WalkKit
import Derived.OwnWalkIn
import Derived.TacticsInMore
import Derived.LoopNIn
import Derived.LoopIn
import Derived.Maps.AppendAt
import Derived.RangeFuncWrites
import Derived.RangeFuncFrom
import Derived.Test.YtcaknjdolfheaaaGreatDoorShelf
import Derived.Test.YtcaknjdolfheaaaGreatDoorWrites
import Derived.WalkSmall
import Derived.Deep.QuietTactic
import Derived.BigQuiet
namespace Go.Proofs.YtcaknjdolfheaaaGreatDoor
open Go Go.RowKit

/-- Two results: a row of the call's own, and a text. -/
def RowTextPost (w : World) (xs : List ByteArray) (t : ByteArray) (e : Ending) (w' : World) : Prop :=
  ∃ ao cap, e = .returned (.tuple #[.slice ao xs.length cap, .string t]) ∧ w'.ownsRow w.heap.size 9 1 (.slice ao xs.length cap) xs.length (xs.map Value.string) ∧ Below w.heap.size w w'

theorem below_app {B : Nat} {w wr w1 : World} {e : TypeId} {size : Nat} {v : Value} {n : Nat} {xs : List Value} {o : Obj} (hbel : Below B w wr) (hB : B ≤ wr.heap.size) (hown : wr.ownsRow B e size v n xs) (hg : (wr.alloc o).grownBy w1 v.ownBlock) : Below B w w1 :=
  (hbel.alloc hB o).grown hg (by simp; omega) (fun j hj => (hown.lt j hj).1)
theorem snoc_own {w : World} {B e : Nat} {v : Value} {D : List ByteArray} {x : ByteArray} (h : w.ownsRow B e 1 v (D.length + 1) (D.map Value.string ++ [.string x])) : w.ownsRow B e 1 v (D ++ [x]).length ((D ++ [x]).map Value.string) := by
  simpa using h
theorem shape_own {w : World} {base : Nat} {e : TypeId} {size : Nat} {v : Value} {n : Nat} {xs : List Value} (h : w.ownsRow base e size v n xs) : ∃ ao cap, v = .slice ao n cap := by
  rcases h.2 with ⟨h', rfl⟩ | ⟨g, cap, cur, h', _⟩
  · exact ⟨_, _, h'⟩
  · exact ⟨_, _, h'⟩

set_option maxHeartbeats 1600000 in
set_option maxRecDepth 100000 in
theorem l2Lines_any (s : ByteArray) (w : World) (hs : s.size ≤ 1048576) :
    Calls Tryz.prog 227 #[.string s] w (RowTextPost w (linesB s) (leftOf s)) := by
  obtain ⟨i0, hi, hz0, hz1, hz2⟩ := info_parts infoS
  go_enter Tryz.func227, Tryz.ntmps227
  go_wp2
  go_loopw [4, 5, 6] (fun v f i wr => ∃ (k fr : Nat) (D : List ByteArray), i = .int .i64 k ∧ f = .int .i64 fr ∧ k ≤ s.size ∧ fr ≤ k ∧ D.length ≤ fr ∧ Hid (LineInv s fr D) ∧ Hid (NoLine s fr k) ∧
      wr.ownsRow w.heap.size 9 1 v D.length (D.map Value.string) ∧ Below w.heap.size w wr)
    (fun _ _ i _ => s.size - (intOf i).toNat)
  case atStart => exact ⟨0, 0, [], rfl, rfl, Nat.zero_le _, Nat.le_refl _, Nat.zero_le _, Lib.hid (line_start s), Lib.hid (fun j _ h => by omega), World.ownsRow_made w #[] 0 (Nat.le_refl _) (by unfold maxLen; omega) rfl, (Below.refl _ _).alloc (Nat.le_refl _) _⟩
  case round =>
    obtain ⟨k, fr, D, rfl, rfl, hk, hf, hD, HL, HN, hown, hbel⟩ := hrel
    obtain ⟨ao, cap, rfl⟩ := shape_own hown
    have hsz := hbel.size
    by_cases hlt : k + 1 < s.size
    · by_cases hc : s[k] = 13
      · have hb1 : ((s[k].toNat : Int) == 13) = true := by rw [hc]; rfl
        by_cases hd : s[k + 1] = 10
        · have hb2 : ((s[k + 1].toNat : Int) == 10) = true := by rw [hd]; rfl
          have hx := index_here hf ⟨by rw [Lib.data_getElem? s k (by omega), hc], by rw [Lib.data_getElem? s (k + 1) hlt, hd]⟩ HN.out
          have HL2 := Lib.hid (line_hit HL.out hx (by omega))
          rw [show fr + (k - fr) = k by omega] at HL2
          have hD2 : (D ++ [s.extract fr k]).length ≤ k + 2 := by rw [List.length_append]; simp; omega
          clear hc hd hx HL HN
          go_wp2_with (at_builtin; refine wpList_append_own _ rfl _ _ 29 rfl w.heap.size 9 i0 (.string ByteArray.empty) 1 16 Tryz.underlying29 hi hz0 hz1 hz2 rfl (by decide) _ _ _ rfl (hown.alloc _) ⟨wr.heap.size, 0, none⟩ 1 1 [.string (s.extract fr k)] rfl rfl ?c1 ?c2 ?c3 ?c4 ?c5 ?_)
          case c1 => exact cell_one_new _ _ _
          case c2 => intro u hu; simp at hu; subst hu; rfl
          case c3 => unfold maxLen; omega
          case c4 => omega
          case c5 => simp; omega
          intro v' w1 hown' hgrow _
          have hb3 := below_app hbel hsz hown hgrow
          have ho1 := snoc_own hown'
          clear hown hbel hown' hgrow
          go_wp2
          go_roundw
          case rel => exact ⟨k + 2, k + 2, D ++ [s.extract fr k], by go_num, by go_num, by omega, by omega, hD2, HL2, Lib.hid (fun j _ h => by omega), ho1, hb3⟩
          case measure => simp [intOf]; omega
        · have hb2 : ((s[k + 1].toNat : Int) == 10) = false := by
            rw [beq_eq_false_iff_ne]; intro e; exact hd (UInt8.toNat_inj.1 (by simpa using (by omega : s[k + 1].toNat = 10)))
          have HN2 := Lib.hid (noLine_skip HN.out (by
            rintro ⟨_, h1⟩
            rw [Lib.data_getElem? s (k + 1) hlt] at h1
            exact hd (Option.some.inj h1)))
          clear hc hd HN
          go_wp2
          go_roundw
          case rel => exact ⟨k + 1, fr, D, by go_num, rfl, by omega, by omega, hD, HL, HN2, hown, hbel⟩
          case measure => simp [intOf]; omega
      · have hb1 : ((s[k].toNat : Int) == 13) = false := by
          rw [beq_eq_false_iff_ne]; intro e; exact hc (UInt8.toNat_inj.1 (by simpa using (by omega : s[k].toNat = 13)))
        have HN2 := Lib.hid (noLine_skip HN.out (by
          rintro ⟨h1, _⟩
          rw [Lib.data_getElem? s k (by omega)] at h1
          exact hc (Option.some.inj h1)))
        clear hc HN
        go_wp2
        go_roundw
        case rel => exact ⟨k + 1, fr, D, by go_num, rfl, by omega, by omega, hD, HL, HN2, hown, hbel⟩
        case measure => simp [intOf]; omega
    · obtain ⟨e1, e2⟩ := line_end HL.out (index_nowhere (noLine_last HN.out (by omega)))
      have HE1 := Lib.hid e1
      have HE2 := Lib.hid e2
      clear e1 e2 HL HN
      have hfs : fr ≤ s.size := by omega
      go_wp2
      go_region
      all_goals
        go_wp2
        go_ret2
        exact ⟨ao, cap, by rw [HE1.out, HE2.out]; rfl, by rw [HE1.out]; exact hown, hbel.drew⟩
end Go.Proofs.YtcaknjdolfheaaaGreatDoor
namespace Go.Proofs.YtcaknjdolfheaaaGreatDoor
open Go Go.RowKit Go.Shelf
attribute [local go_sem] Oper.semAt_some

/-- A text that is not too long. -/
abbrev Text := { x : ByteArray // x.size ≤ 1048576 }
def sizeOfV : Value → Nat
  | .string s => s.size
  | _ => 0
def MaxCell (w : World) : Prop := ∃ m : Int, w.cell? ⟨0, 0, none⟩ = some (.int .i64 m)
theorem MaxCell.below {B : Nat} {w w' : World} (h : MaxCell w) (hb : Below B w w') (hB : w.heap.size ≤ B ∨ 0 < B) : MaxCell w' := by
  obtain ⟨m, hm⟩ := h
  have := World.block_lt_of_cell? w _ hm
  exact ⟨m, (hb.cell (p := ⟨0, 0, none⟩) (by simp at this ⊢; omega)).trans hm⟩

theorem below_drewL (B : Nat) (w : World) : ∀ n, Below B w (w.drewN n)
  | 0 => Below.refl _ _
  | n + 1 => (below_drewL B w n).drew
theorem grownBy_drewN (w : World) (n : Nat) : w.grownBy (w.drewN n) none :=
  have h := below_drewL w.heap.size w n
  ⟨h.os, h.tape, h.output, h.size, fun k hk _ => h.block k hk⟩

/-- strings.Cut at CR LF where there is one, and where there is none. -/
theorem crlf_hit (r : ByteArray) (i : Nat) (W : World) (hm : MaxCell W) (hs : r.size ≤ 1048576) (h : Lib.indexB r crlf = i) :
    Calls Tryz.prog 195 #[.string r, .string { data := #[13, 10] }] W fun e w' => e = .returned (.tuple #[.string (r.extract 0 i), .string (r.extract (i + 2) r.size), .bool true]) ∧ ∃ n, w' = W.drewN n := by
  obtain ⟨m, hm⟩ := hm
  obtain ⟨h1, h2, h3⟩ := Lib.cutB_hit _ _ _ h
  refine (Tryz.strings_Cut r crlf m W (by omega) hm).mono ?_
  rintro e w' ⟨rfl, n, rfl⟩
  exact ⟨by rw [h1, h2, h3]; rfl, n, rfl⟩
theorem crlf_none (r : ByteArray) (W : World) (hm : MaxCell W) (hs : r.size ≤ 1048576) (h : Lib.indexB r crlf = -1) :
    Calls Tryz.prog 195 #[.string r, .string { data := #[13, 10] }] W fun e w' => e = .returned (.tuple #[.string r, .string ByteArray.empty, .bool false]) ∧ ∃ n, w' = W.drewN n := by
  obtain ⟨m, hm⟩ := hm
  obtain ⟨h1, h2, h3⟩ := Lib.cutB_miss _ _ h
  refine (Tryz.strings_Cut r crlf m W (by omega) hm).mono ?_
  rintro e w' ⟨rfl, n, rfl⟩
  exact ⟨by rw [h1, h2, h3], n, rfl⟩

set_option maxRecDepth 100000 in
set_option maxHeartbeats 2000000 in
theorem ended_in (l Bn n₀ : Nat) (s : ByteArray) (hs : s.size ≤ 1048576) (hn₀ : 0 < n₀) (J Jx : List Text → World → Prop) (W0 : Nat) (hJa : AbidesFrom W0 J)
    (hY : ∀ pre x W, J pre W → pre.length < s.size → YieldAt Fence.wide 3 Tryz.prog l #[.string (Subtype.val x)] W fun e W' =>
      (e = .returned (.bool true) ∧ J (pre ++ [x]) W' ∧ Below n₀ W W') ∨ (e = .returned (.bool false) ∧ Jx (pre ++ [x]) W'))
    (W : World) (hBn : W.cell? ⟨Bn, 0, none⟩ = some (.string s)) (hM : MaxCell W) (h0 : J [] W) :
    CallsIn Fence.wide 4 Tryz.prog 271 #[.func (.yield l) #[] #[], .pointer (some ⟨Bn, 0, none⟩)] W fun e W' => (∃ v, e = .returned v) ∧
      ((∃ ys : List Text, ys.map Subtype.val = linesB s ∧ J ys W') ∨ (∃ pre : List Text, True ∧ Jx pre W')) := by
  refine callsIn_of_wp Tryz.func271 rfl trivial ?_ rfl
  simp only [Tryz.ntmps271, List.size_toArray, List.length_cons, List.length_nil, Nat.reduceAdd, Nat.reduceSub, Array.replicate_succ, Array.replicate_zero, List.push_toArray, List.append_toArray, List.nil_append, List.cons_append]
  have HY := Lib.hid hY
  have HJa := Lib.hid hJa
  clear hY hJa
  gi_wp2
  gi_loopw [3] (fun p wr => ∃ (fr : Nat) (pre : List Text), p = .string (s.extract fr s.size) ∧ fr ≤ s.size ∧ Hid (LineInv s fr (pre.map Subtype.val)) ∧ Hid (J pre wr) ∧ Hid (MaxCell wr))
    (fun p _ => sizeOfV p)
  case atStart =>
    exact ⟨0, [], by rw [ByteArray.extract_zero_size], Nat.zero_le _, Lib.hid (line_start s), Lib.hid h0, Lib.hid hM⟩
  case round =>
    obtain ⟨fr, pre, rfl, hfr, HL, HJ, HM⟩ := hrel
    have hz := left_eq hfr
    have HZ := Lib.hid hz
    have hrs : (s.extract fr s.size).size ≤ 1048576 := by omega
    clear hz
    rcases Lib.indexB_cases (s.extract fr s.size) crlf with hx | ⟨i, hx, hi⟩
    · have C := Lib.hid (fun W hm => crlf_none (s.extract fr s.size) W hm hrs hx)
      obtain ⟨e1, _⟩ := line_end HL.out hx
      have HE := Lib.hid e1
      clear hx e1
      gi_wp2
      refine ⟨trivial, ?_⟩
      refine (callsIn_wide.2 (C.out _ HM.out)).mono ?_
      rintro e w' ⟨rfl, nd, rfl⟩
      have HJ2 := Lib.hid (HJa.out pre _ _ none HJ.out (grownBy_drewN wr nd) (fun r e => by cases e))
      gi_wp2
      refine ⟨fun _ h => (by cases h), ?_⟩
      gi_wp2
      refine bodyPost_ret (results_none rfl _ _ _) rfl ?_
      exact ⟨⟨_, rfl⟩, .inl ⟨pre, HE.out.symm, HJ2.out⟩⟩
    · rw [crlf_size] at hi
      have hi2 : fr + i + 2 ≤ s.size := by rw [HZ.out] at hi; omega
      have C := Lib.hid (fun W hm => crlf_hit (s.extract fr s.size) i W hm hrs hx)
      have HL2 := Lib.hid (line_hit HL.out hx hi2)
      have e1 : (s.extract fr s.size).extract 0 i = s.extract fr (fr + i) := by rw [ByteArray.extract_extract]; congr 1; omega
      have e2 : (s.extract fr s.size).extract (i + 2) (s.extract fr s.size).size = s.extract (fr + i + 2) s.size := by rw [HZ.out, ByteArray.extract_extract]; congr 1; omega
      have hxs : (s.extract fr (fr + i)).size ≤ 1048576 := by rw [ByteArray.size_extract]; omega
      have hpl : pre.length < s.size := by
        have := HL.out.2.2.2.2
        rw [List.length_map] at this; omega
      rw [e1, e2] at C
      clear hx hi e1 e2
      gi_wp2
      refine ⟨trivial, ?_⟩
      refine (callsIn_wide.2 (C.out _ HM.out)).mono ?_
      rintro e w' ⟨rfl, nd, rfl⟩
      have HJ2 := Lib.hid (HJa.out pre _ _ none HJ.out (grownBy_drewN wr nd) (fun r e => by cases e))
      have HM2 := Lib.hid (HM.out.below (below_drewL wr.heap.size wr nd) (.inl (Nat.le_refl _)))
      obtain ⟨fn, tmps, assign, body, hy, hR⟩ := HY.out pre ⟨s.extract fr (fr + i), hxs⟩ _ HJ2.out hpl
      gi_wp2
      refine hR.mono ?_
      rintro e W3 (⟨rfl, hJ3, hk3⟩ | ⟨rfl, hJx3⟩)
      · have HM3 := Lib.hid (HM2.out.below hk3 (.inr hn₀))
        have HJ3 := Lib.hid hJ3
        clear hJ3 hk3
        gi_wp2
        go_roundw
        case rel => exact ⟨fr + i + 2, pre ++ [⟨s.extract fr (fr + i), hxs⟩], rfl, hi2, Lib.hid (by rw [List.map_append]; exact HL2.out), HJ3, HM3⟩
        case measure =>
          show (s.extract (fr + i + 2) s.size).size < (s.extract fr s.size).size
          rw [HZ.out, ByteArray.size_extract]; omega
      · gi_wp2
        refine bodyPost_ret (results_none rfl _ _ _) rfl ?_
        exact ⟨⟨_, rfl⟩, .inr ⟨_, trivial, hJx3⟩⟩

theorem enters_ended : ∀ args w, (callFunc 271 args).run Tryz.prog w = .ok (.enter 271 args) w := enters_of Tryz.func271 (by kernel_rfl) rfl
theorem ended_any (s : ByteArray) (w : World) :
    Calls Tryz.prog 257 #[.string s] w fun e w' => e = .returned (.func (.func 271) #[] #[.pointer (some ⟨w.heap.size, 0, none⟩)]) ∧ w' = w.alloc (.cells #[.string s] 9) := by
  go_enter Tryz.func257, Tryz.ntmps257
  go_wp2
  go_ret
  exact ⟨rfl, rfl⟩

theorem ended_stops (Bn n₀ : Nat) (s : ByteArray) (hs : s.size ≤ 1048576) (hn₀ : 0 < n₀) (w : World) (hBn : Bn < w.heap.size) (hc : w.cell? ⟨Bn, 0, none⟩ = some (.string s)) (hM : MaxCell w) :
    SeqStopsK Fence.wide 4 Tryz.prog 271 #[.pointer (some ⟨Bn, 0, none⟩)] (fun x : Text => #[Value.string x.val]) (Below n₀) (fun ys => ys.map Subtype.val = linesB s) (fun _ => True) s.size w := fun l J Jx W hW hJ _ hY h0 =>
  ended_in l Bn n₀ s hs hn₀ J Jx W.heap.size hJ hY W ((hW.cell (p := ⟨Bn, 0, none⟩) hBn).trans hc) (hM.below hW (.inl (Nat.le_refl _))) h0

theorem takes_bound (pre : List Text) : takes (pre.map Subtype.val) ≤ 1048578 * pre.length := by
  induction pre with
  | nil => exact Nat.zero_le _
  | cons x l ih =>
    have := x.2
    unfold takes at ih ⊢
    rw [List.map_cons, List.map_cons, List.sum_cons, List.length_cons]
    omega

theorem takes_lines (s : ByteArray) : takes (linesB s) ≤ s.size ∧ s.extract (takes (linesB s)) s.size = leftOf s := by
  have key : ∀ (n : Nat) (D : List ByteArray) (f : Nat), s.size - f ≤ n → LineInv s f D → takes (linesB s) ≤ s.size ∧ s.extract (takes (linesB s)) s.size = leftOf s := by
    intro n
    induction n with
    | zero =>
      intro D f hn h
      have hx : Lib.indexB (s.extract f s.size) crlf = -1 := by
        rcases Lib.indexB_cases (s.extract f s.size) crlf with e | ⟨i, _, hi⟩
        · exact e
        · rw [crlf_size, ByteArray.size_extract] at hi; omega
      obtain ⟨e1, e2⟩ := line_end h hx
      rw [e1, e2, ← h.2.2.1]
      exact ⟨h.2.2.2.1, rfl⟩
    | succ n ih =>
      intro D f hn h
      rcases Lib.indexB_cases (s.extract f s.size) crlf with hx | ⟨i, hx, hi⟩
      · obtain ⟨e1, e2⟩ := line_end h hx
        rw [e1, e2, ← h.2.2.1]
        exact ⟨h.2.2.2.1, rfl⟩
      · rw [crlf_size, ByteArray.size_extract] at hi
        exact ih _ _ (by omega) (line_hit h hx (by omega))
  exact key s.size [] 0 (by omega) (line_start s)

set_option maxRecDepth 100000 in
set_option maxHeartbeats 2000000 in
theorem linesOf_in (s : ByteArray) (hs : s.size ≤ 1048576) (h800 : ¬ 800 < s.size) (w : World) (hM : MaxCell w) :
    CallsIn Fence.wide 5 Tryz.prog 240 #[.string s] w (RowTextPost w (linesB s) (leftOf s)) := by
  obtain ⟨i0, hi, hz0, hz1, hz2⟩ := info_parts infoS
  have hML : 0 < w.heap.size := by obtain ⟨m, hm⟩ := hM; exact World.block_lt_of_cell? w _ hm
  have hb8 : decide ((800 : Int) < (s.size : Int)) = false := decide_eq_false (by omega)
  refine callsIn_of_wp_marks Tryz.func240 rfl trivial ?_ rfl
  simp only [Tryz.ntmps240, List.size_toArray, List.length_cons, List.length_nil, Nat.reduceAdd, Nat.reduceSub, Array.replicate_succ, Array.replicate_zero, List.push_toArray, List.append_toArray, List.nil_append, List.cons_append]
  gi_wp2
  refine ⟨trivial, ?_⟩
  refine (callsIn_wide.2 (ended_any s _)).mono ?_
  rintro e w' ⟨rfl, rfl⟩
  gi_wp2
  have bL := Boxed.new w 29 (.slice none 0 0)
  have bE := Boxed.new (w.alloc (.cells #[.slice none 0 0] 29)) 3 (.int .i64 0)
  have bS := Boxed.new ((w.alloc (.cells #[.slice none 0 0] 29)).alloc (.cells #[.int .i64 0] 3)) 9 (.string s)
  rw [World.size_alloc] at bE
  rw [World.size_alloc, World.size_alloc] at bS
  have hB0 : Below w.heap.size w (((w.alloc (.cells #[.slice none 0 0] 29)).alloc (.cells #[.int .i64 0] 3)).alloc (.cells #[.string s] 9)) := (((Below.refl _ w).alloc (Nat.le_refl _) _).alloc (by simp) _).alloc (by simp; omega) _
  have hM0 := hM.below hB0 (.inl (Nat.le_refl _))
  refine wpIn_rangeFunc_ownG rfl (by omega) (gf := 271) (lb := #[.pointer (some ⟨w.heap.size + 1 + 1, 0, none⟩)]) rfl trivial enters_ended
    (ended_stops (w.heap.size + 1 + 1) w.heap.size s hs hML _ (by simp) bS.cell hM0) belowK_t (belowK_b (by simp; omega)) (Below.refl _ _) (fun _ => rfl)
    (fun pre W => ((∃ v, Boxed W w.heap.size 29 v ∧ W.ownsRow w.heap.size 9 1 v pre.length (pre.map fun x => Value.string x.val) ∧ True) ∧ Boxed W (w.heap.size + 1) 3 (.int .i64 (takes (pre.map Subtype.val)))) ∧ Below w.heap.size w W)
    (fun _ _ _ => False)
    (OwnFrom.and (OwnFrom.and (Own.from (holdsRow_own w.heap.size w.heap.size 29 9 1 (fun pre : List Text => pre.length) (fun pre => pre.map fun x => Value.string x.val) (fun _ _ => True)) _) (Own.from (boxed_own (w.heap.size + 1) 3 (fun pre : List Text => .int .i64 (takes (pre.map Subtype.val)))) _)) (ownFrom_below (Nat.le_refl _) (by simp; omega)))
    (fun _ _ _ _ _ hs _ _ => hs)
    ⟨⟨⟨_, (bL.alloc _).alloc _, World.ownsRow_nil _ _ _ _, trivial⟩, bE.alloc _⟩, hB0⟩
    (fun x => { tmps := #[.string s, undef, .slice none 0 0, .string { data := #[] }, .pointer (some ⟨w.heap.size, 0, none⟩), .pointer (some ⟨w.heap.size + 1, 0, none⟩), .string x.val, .string s, .int .i64 s.size, .bool false, .string s, .func (.func 271) #[] #[.pointer (some ⟨w.heap.size + 1 + 1, 0, none⟩)], .string x.val, undef, undef, undef, undef, undef, undef, undef, undef, undef, undef, undef, undef, undef], defers := [] }) ?assign ?body ?done ?stop
  case assign =>
    intro l x W K hK
    gi_wp2
    exact hK
  case body =>
    rintro l pre x W ⟨⟨⟨v, hv, hrow, _⟩, hE⟩, hB⟩ hlt
    have hc := hv.cell
    have hx := x.2
    have htb := takes_bound pre
    have htk : takes (pre.map Subtype.val) ≤ 1099513724928 := Nat.le_trans htb (Nat.le_trans (Nat.mul_le_mul_left 1048578 (show pre.length ≤ 1048576 by omega)) (by omega))
    clear htb
    obtain ⟨tk, hT⟩ : ∃ tk, tk = takes (pre.map Subtype.val) := ⟨_, rfl⟩
    rw [← hT] at hE htk
    have HT := Lib.hid hT
    clear hT
    gi_wp2_with (gi_at_builtin; refine wpListIn_append_own _ rfl _ _ 29 rfl w.heap.size 9 i0 (.string ByteArray.empty) 1 16 Tryz.underlying29 hi hz0 hz1 hz2 rfl (by decide) _ _ _ rfl (hrow.alloc _) ⟨W.heap.size, 0, none⟩ 1 1 [.string x.val] rfl rfl (cell_one_new _ _ _) (by simp [Value.oneCell']) (by unfold maxLen; omega) (by omega) (by have := hB.size; simp; omega) ?_; intro v' w1 hown' hgrow _; obtain ⟨g', cap', rfl⟩ := ownsRow_succ hown'; obtain ⟨hv1, hv2, hr2, hk2, hb2⟩ := hv.appended (by decide) hrow hB.size (Nat.le_refl _) hown' hgrow; have hc1 := hv1.cell; have hf1 := hv1.frozen; have hE1 := (hE.alloc (.cells #[.string x.val] 9)).kept hgrow (hE.not_row (by decide) hrow); have hE2 := hE1.other (B' := w.heap.size) (by omega) (.slice (some ⟨g', 0, none⟩) (pre.length + 1) cap'); have ce := hE2.cell; have fe := hE2.frozen)
    have hv3 := hv2.other (B' := w.heap.size + 1) (by omega) (.int .i64 ((tk : Int) + ((x.val.size : Int) + 2)))
    have hr3 := hr2.kept (grownBy_setCell' _ (w.heap.size + 1) (.int .i64 ((tk : Int) + ((x.val.size : Int) + 2)))) (.inr (hE2.not_row (by decide) hr2).symm)
    have hE3 := hE2.set (.int .i64 ((tk : Int) + ((x.val.size : Int) + 2)))
    have hb3 := hb2.setCell (p := ⟨w.heap.size + 1, 0, none⟩) (by simp) (.int .i64 ((tk : Int) + ((x.val.size : Int) + 2)))
    have hval : (Value.int .i64 ((tk : Int) + ((x.val.size : Int) + 2))) = .int .i64 ((takes ((pre ++ [x]).map Subtype.val) : Nat) : Int) := by
      rw [List.map_append, List.map_cons, List.map_nil, takes_snoc, ← HT.out]; go_num
    refine ⟨(hk2.trans (KeepsOthers.setCell _ _ _)).from _, hb3, ⟨⟨_, hv3, ?_, trivial⟩, ?_⟩, hB.trans hb3⟩
    · simpa using hr3
    · rw [← hval]; exact hE3
  case done =>
    rintro D ys W hD hys ⟨⟨⟨v, hv, hrow, _⟩, hE⟩, hB⟩ hK
    have hc := hv.cell
    have hcE := hE.cell
    rw [hys] at hcE
    have hend : takes (linesB s) ≤ s.size ∧ s.extract (takes (linesB s)) s.size = leftOf s := takes_lines s
    have hend1 := hend.1
    have HE := Lib.hid hend.2
    clear hend
    gi_wp2
    gi_region
    have hlen : ys.length = (linesB s).length := by rw [← hys, List.length_map]
    have hcells : ys.map (fun x => Value.string x.val) = (linesB s).map Value.string := by rw [← hys, List.map_map]; rfl
    rw [hcells, hlen] at hrow
    obtain ⟨ao, cap, rfl⟩ := shape_own hrow
    gi_wp2
    refine ⟨by simp, .inl ⟨_, _, rfl, run_takeDeferred (w := W.drew) hK, ?_⟩⟩
    refine ⟨_, results_tmp2 rfl _ _ _, ao, cap, ?_, ?_, ?_⟩
    · rw [HE.out]; rfl
    · exact ownsRow_putObj (W := W.drew) hrow _ hK rfl
    · exact hB.drew.trans (belowK_b (w := w) (Nat.le_refl _) W.drew D _ _ (by simp at hD; omega) hK rfl rfl)
  case stop =>
    rintro D c pre W _ _ h _
    exact h.elim

def linesOfB (s : ByteArray) : List ByteArray := if 800 < s.size then [] else linesB s
def leftOfB (s : ByteArray) : ByteArray := if 800 < s.size then { data := #[] } else leftOf s

/-- LinesOf, of the program and of the model. -/
theorem implLinesOf_any (s : ByteArray) (w : World) (hM : MaxCell w) (hs : s.size ≤ 9223372036854775807) :
    Calls Tryz.prog 240 #[.string s] w (RowTextPost w (linesOfB s) (leftOfB s)) := by
  unfold linesOfB leftOfB
  by_cases h : 800 < s.size
  · rw [if_pos h, if_pos h]
    go_enter Tryz.func240, Tryz.ntmps240
    go_wp2
    go_ret2
    exact ⟨none, 0, rfl, World.ownsRow_nil _ _ _ _, Below.refl _ _⟩
  · rw [if_neg h, if_neg h]
    exact callsIn_wide.1 (linesOf_in s (by omega) h w hM)
end Go.Proofs.YtcaknjdolfheaaaGreatDoor
namespace Go.Proofs.YtcaknjdolfheaaaGreatDoor
open Go Go.RowKit

theorem takes_mem {l : List ByteArray} {x : ByteArray} (h : x ∈ l) : x.size + 2 ≤ takes l := by
  induction l with
  | nil => cases h
  | cons a l ih =>
    unfold takes at ih ⊢
    rw [List.map_cons, List.sum_cons]
    rcases List.mem_cons.1 h with rfl | h
    · omega
    · have := ih h; omega
theorem takes_len (l : List ByteArray) : l.length ≤ takes l := by
  induction l with
  | nil => exact Nat.zero_le _
  | cons a l ih =>
    unfold takes at ih ⊢
    rw [List.map_cons, List.sum_cons, List.length_cons]
    omega
theorem lines_size {s x : ByteArray} (h : x ∈ linesB s) : x.size ≤ s.size := by
  have := takes_mem h
  have := (takes_lines s).1
  omega
theorem lines_len (s : ByteArray) : (linesB s).length ≤ s.size := Nat.le_trans (takes_len _) (takes_lines s).1
theorem strip_size (x : ByteArray) : (strip x).size ≤ x.size := by
  unfold strip
  split
  · rw [ByteArray.size_extract]; omega
  · exact Nat.le_refl _
theorem strip_no {x : ByteArray} (h : dotted x = false) : strip x = x ∧ undotOk x = true := by
  unfold strip undotOk; rw [h]; exact ⟨rfl, rfl⟩
theorem strip_yes {x : ByteArray} (h : dotted x = true) : strip x = x.extract 1 x.size ∧ undotOk x = Lib.hasPrefix x.data.toList [46, 46] := by
  unfold strip undotOk; rw [h]; exact ⟨rfl, rfl⟩
theorem outs_size {s y : ByteArray} (h : y ∈ outsB s) : y.size ≤ s.size := by
  obtain ⟨x, hx, rfl⟩ := List.mem_map.1 h
  exact Nat.le_trans (strip_size x) (lines_size (List.dropLast_subset _ hx))
theorem outs_len (s : ByteArray) : (outsB s).length ≤ s.size := by
  unfold outsB
  rw [List.length_map, List.length_dropLast]
  have := lines_len s
  omega
def strips (xs : List ByteArray) (k : Nat) : List ByteArray := (xs.take k).map strip
theorem strips_zero (xs : List ByteArray) : strips xs 0 = [] := rfl
theorem strips_len {xs : List ByteArray} {k : Nat} (h : k ≤ xs.length) : (strips xs k).length = k := by unfold strips; rw [List.length_map, List.length_take]; omega
theorem outs_take {s : ByteArray} {k : Nat} (h1 : k ≤ (linesB s).length - 1) (h2 : ¬ k + 1 < (linesB s).length) : strips (linesB s) k = outsB s := by
  unfold strips outsB
  rw [List.dropLast_eq_take, show k = (linesB s).length - 1 by omega]
theorem strips_snoc {xs : List ByteArray} {k : Nat} {x : ByteArray} (hx : xs[k]? = some x) : strips xs (k + 1) = strips xs k ++ [strip x] := by
  unfold strips
  obtain ⟨hk, e⟩ := List.getElem?_eq_some_iff.1 hx
  rw [List.take_succ_eq_append_getElem hk, List.map_append, e]; rfl
theorem own_mono {w : World} {B B' : Nat} {e : TypeId} {size : Nat} {v : Value} {n : Nat} {xs : List Value} (h : w.ownsRow B e size v n xs) (hb : B' ≤ B) : w.ownsRow B' e size v n xs :=
  ⟨h.1, h.2.imp id fun ⟨g, cap, cur, a, b, c⟩ => ⟨g, cap, cur, a, Nat.le_trans hb b, c⟩⟩

/-- Two results: a row of the call's own, and whether there is one. -/
def RowBoolPost (w : World) (r : List ByteArray × Bool) (e : Ending) (w' : World) : Prop :=
  ∃ ao cap, e = .returned (.tuple #[.slice ao r.1.length cap, .bool r.2]) ∧ w'.ownsRow w.heap.size 9 1 (.slice ao r.1.length cap) r.1.length (r.1.map Value.string) ∧ Below w.heap.size w w'
theorem RowBoolPost.nil {w w' : World} {r : List ByteArray × Bool} (h : r = ([], false)) (hb : Below w.heap.size w w') : RowBoolPost w r (.returned (.tuple #[.slice none 0 0, .bool false])) w' := by
  subst h
  exact ⟨none, 0, rfl, World.ownsRow_nil _ _ _ _, hb⟩
theorem RowBoolPost.row {w w' : World} {r : List ByteArray × Bool} {xs : List ByteArray} {ao : Option Addr} {n cap : Nat} (h : r = (xs, true)) (hn : n = xs.length) (ho : w'.ownsRow w.heap.size 9 1 (.slice ao n cap) n (xs.map Value.string)) (hb : Below w.heap.size w w') :
    RowBoolPost w r (.returned (.tuple #[.slice ao n cap, .bool true])) w' := by
  subst h hn
  exact ⟨ao, cap, rfl, ho, hb⟩
theorem dotGetR_no {s : ByteArray} (h : bodyB (outsB s) = false ∨ dotsAll (outsB s) ≠ s.data.toList) : dotGetR s = ([], false) := by
  unfold dotGetR
  rcases h with h | h
  · rw [h, Bool.and_false]; rfl
  · rw [show (dotsAll (outsB s) == s.data.toList) = false by rwa [beq_eq_false_iff_ne], Bool.and_false]; rfl
theorem dotGetR_yes {s : ByteArray} (h0 : s.size ≤ 800) (h1 : bodyB (outsB s) = true) (h2 : dotsAll (outsB s) = s.data.toList) : dotGetR s = (outsB s, true) := by
  unfold dotGetR
  rw [h1, h2, decide_eq_true h0, beq_self_eq_true]; rfl

theorem undot_any (x : ByteArray) (w : World) :
    Calls Tryz.prog 241 #[.string x] w fun e w' => e = .returned (.tuple #[.string (strip x), .bool (undotOk x)]) ∧ Below w.heap.size w w' := by
  cases hd : dotted x
  · obtain ⟨e1, e2⟩ := strip_no hd
    have HP : Hid (Lib.hasPrefix x.data.toList ({ data := #[46] } : ByteArray).data.toList = false) := Lib.hid hd
    rw [e1, e2]
    clear e1 e2 hd
    go_enter Tryz.func241, Tryz.ntmps241
    go_wp2_with (go_at_call 214; refine (Tryz.strings_HasPrefix _ _ _).mono ?_; rintro e w' ⟨rfl, rfl⟩; rw [HP.out])
    go_ret2
    exact ⟨rfl, Below.refl _ _⟩
  · obtain ⟨e1, e2⟩ := strip_yes hd
    have HP : Hid (Lib.hasPrefix x.data.toList ({ data := #[46] } : ByteArray).data.toList = true) := Lib.hid hd
    obtain ⟨h0, _⟩ := dotted_true hd
    rw [e1, e2]
    clear e1 e2 hd
    go_enter Tryz.func241, Tryz.ntmps241
    go_wp2_with fail
    refine (Tryz.strings_HasPrefix _ _ _).mono ?_
    rintro e w' ⟨rfl, rfl⟩
    rw [HP.out]
    go_wp2_with fail
    go_quiet ((go_at_call 214; refine Calls.quiet_of_same (Tryz.strings_HasPrefix _ _ _)))
    go_wp2
    go_ret2
    exact ⟨rfl, below_drewN _ _ _⟩
end Go.Proofs.YtcaknjdolfheaaaGreatDoor
namespace Go.Proofs.YtcaknjdolfheaaaGreatDoor
open Go Go.RowKit

theorem snoc1 {w : World} {B e k : Nat} {v : Value} {xs ys : List ByteArray} {x : ByteArray} (hx : ys = xs ++ [x]) (h : w.ownsRow B e 1 v (k + 1) (xs.map Value.string ++ [.string x])) : w.ownsRow B e 1 v (k + 1) (ys.map Value.string) := by
  subst hx; simpa using h

set_option maxHeartbeats 1600000 in
set_option maxRecDepth 100000 in
theorem specDotGet_any (s : ByteArray) (w : World) (hs : s.size ≤ 9223372036854775807) :
    Calls Tryz.prog 201 #[.string s] w (RowBoolPost w (dotGetR s)) := by
  by_cases hbig : 800 < s.size
  · have hq := Lib.hid (dotGetR_big hbig)
    go_enter Tryz.func201, Tryz.ntmps201
    go_wp2
    go_ret2
    exact .nil hq.out (Below.refl _ _)
  obtain ⟨i0, hi, hz0, hz1, hz2⟩ := info_parts infoS
  have hL := lines_len s
  have HS : Hid (∀ x ∈ linesB s, x.size ≤ 800) := Lib.hid fun x hx => by have := lines_size hx; omega
  have HOS : Hid (∀ x ∈ outsB s, x.size ≤ maxLen) := Lib.hid fun x hx => by have := outs_size hx; unfold maxLen; omega
  have hOL : (outsB s).length ≤ maxLen := by have := outs_len s; unfold maxLen; omega
  have HT := Lib.hid (fun k h1 h2 => outs_take (s := s) (k := k) h1 h2)
  have HNO := Lib.hid (fun h => dotGetR_no (s := s) h)
  have HYES := Lib.hid (fun h1 h2 => dotGetR_yes (s := s) (by omega) h1 h2)
  have C := Lib.hid (fun W => l2Lines_any s W (by omega))
  generalize linesB s = M at hL HS HT C
  generalize outsB s = O at HOS hOL HT HNO HYES
  generalize dotGetR s = R at HNO HYES
  generalize leftOf s = rest at C
  go_enter Tryz.func201, Tryz.ntmps201
  go_wp2_with fail
  refine (C.out _).mono ?_
  rintro e w1 ⟨a1, c1, rfl, r1, b1⟩
  have HR := Lib.hid (StrRow.of_own r1)
  have z1 := b1.size
  clear r1
  go_wp2
  go_loopw [6, 7] (fun o i wr => ∃ k : Nat, i = .int .i64 k ∧ k ≤ M.length - 1 ∧ wr.ownsRow w1.heap.size 9 1 o k ((strips M k).map Value.string) ∧ Below w1.heap.size w1 wr) (fun _ i _ => M.length - (intOf i).toNat)
  case atStart => exact ⟨0, rfl, Nat.zero_le _, World.ownsRow_made w1 #[] 0 (Nat.le_refl _) (by unfold maxLen; omega) rfl, (Below.refl _ _).alloc (Nat.le_refl _) _⟩
  case round =>
    obtain ⟨k, rfl, hk, hown, hbel⟩ := hrel
    obtain ⟨ao, cap, rfl⟩ := shape_own hown
    have hsz := hbel.size
    by_cases hlt : k + 1 < M.length
    · obtain ⟨x, hx⟩ : ∃ x, M[k]? = some x := ⟨_, List.getElem?_eq_getElem (by omega)⟩
      obtain ⟨b, off, rfl, hcell⟩ := (HR.out.below hbel (Nat.le_refl _)) k x hx
      have hxs := HS.out x (List.mem_of_getElem? hx)
      have HN := Lib.hid (strips_snoc hx)
      clear hx
      cases hd : dotted x
      · have HX := Lib.hid (strip_no hd).1
        rw [HX.out] at HN
        rcases dotted_false hd with he | ⟨he, h0, hne⟩
        · clear hd
          go_wp2_with (at_builtin; refine wpList_append_own _ rfl _ _ 29 rfl w1.heap.size 9 i0 (.string ByteArray.empty) 1 16 Tryz.underlying29 hi hz0 hz1 hz2 rfl (by decide) _ _ _ rfl (hown.alloc _) ⟨wr.heap.size, 0, none⟩ 1 1 [.string (x)] rfl rfl ?c1 ?c2 ?c3 ?c4 ?c5 ?_)
          case c1 => exact cell_one_new _ _ _
          case c2 => intro u hu; simp at hu; subst hu; rfl
          case c3 => unfold maxLen; omega
          case c4 => omega
          case c5 => simp; omega
          intro v' w2 hown' hgrow _
          have hb3 := below_app hbel hsz hown hgrow
          have ho1 := snoc1 HN.out hown'
          clear hown hbel hown' hgrow
          go_wp2
          go_roundw
          case rel => exact ⟨k + 1, by go_num, by omega, ho1, hb3⟩
          case measure => simp [intOf]; omega
        · have hb0 : ((x[0].toNat : Int) == 46) = false := by
            rw [beq_eq_false_iff_ne]; intro e; exact hne (UInt8.toNat_inj.1 (by simpa using (by omega : x[0].toNat = 46)))
          have he2 : (!x.toList.isEmpty) = true := by simpa [List.isEmpty_iff] using he
          clear hd hne
          go_wp2_with (at_builtin; refine wpList_append_own _ rfl _ _ 29 rfl w1.heap.size 9 i0 (.string ByteArray.empty) 1 16 Tryz.underlying29 hi hz0 hz1 hz2 rfl (by decide) _ _ _ rfl (hown.alloc _) ⟨wr.heap.size, 0, none⟩ 1 1 [.string (x)] rfl rfl ?c1 ?c2 ?c3 ?c4 ?c5 ?_)
          case c1 => exact cell_one_new _ _ _
          case c2 => intro u hu; simp at hu; subst hu; rfl
          case c3 => unfold maxLen; omega
          case c4 => omega
          case c5 => simp; omega
          intro v' w2 hown' hgrow _
          have hb3 := below_app hbel hsz hown hgrow
          have ho1 := snoc1 HN.out hown'
          clear hown hbel hown' hgrow
          go_wp2
          go_roundw
          case rel => exact ⟨k + 1, by go_num, by omega, ho1, hb3⟩
          case measure => simp [intOf]; omega
      · have HX := Lib.hid (strip_yes hd).1
        rw [HX.out] at HN
        obtain ⟨h0, he⟩ := dotted_true hd
        have hb0 : ((x[0].toNat : Int) == 46) = true := by rw [he]; rfl
        have hne : ¬ x.toList = [] := by rw [Lib.toList_data]; intro e; rw [Lib.size_eq, e] at h0; cases h0
        have hne2 : (!x.toList.isEmpty) = true := by simpa [List.isEmpty_iff] using hne
        clear hd he
        go_wp2_with (at_builtin; refine wpList_append_own _ rfl _ _ 29 rfl w1.heap.size 9 i0 (.string ByteArray.empty) 1 16 Tryz.underlying29 hi hz0 hz1 hz2 rfl (by decide) _ _ _ rfl (hown.alloc _) ⟨wr.heap.size, 0, none⟩ 1 1 [.string (x.extract 1 x.size)] rfl rfl ?c1 ?c2 ?c3 ?c4 ?c5 ?_)
        case c1 => exact cell_one_new _ _ _
        case c2 => intro u hu; simp at hu; subst hu; rfl
        case c3 => unfold maxLen; omega
        case c4 => omega
        case c5 => simp; omega
        intro v' w2 hown' hgrow _
        have hb3 := below_app hbel hsz hown hgrow
        have ho1 := snoc1 HN.out hown'
        clear hown hbel hown' hgrow
        go_wp2
        go_roundw
        case rel => exact ⟨k + 1, by go_num, by omega, ho1, hb3⟩
        case measure => simp [intOf]; omega
    · have hO := HT.out k hk hlt
      rw [hO] at hown
      have hk2 : k = O.length := by
        have := congrArg List.length hO
        rw [strips_len (by omega)] at this; omega
      subst hk2
      have hrow := Lib.hid (StrRow.of_own hown)
      have HOWN := Lib.hid (own_mono hown z1)
      have HBEL := Lib.hid (b1.trans (hbel.mono z1))
      have HO := Lib.hid hO
      have hO8 : O.length ≤ 800 := by omega
      clear hO hown hbel hk
      cases hb : bodyB O
      · have hq := Lib.hid (HNO.out (.inl hb))
        have HB := Lib.hid hb
        clear hb
        go_wp2_with fail
        refine (l2BodyOk_any ao cap O _ hrow.out hOL HOS.out).mono ?_
        rintro e w2 ⟨rfl, rfl⟩
        rw [HB.out]
        go_wp2_with fail
        go_ret2
        exact .nil hq.out HBEL.out
      · obtain ⟨hb1, hb2⟩ := bodyB_bounds hb
        have HB := Lib.hid hb
        have HB2 := Lib.hid hb2
        by_cases hd : dotsAll O = s.data.toList
        · have hq := Lib.hid (HYES.out hb hd)
          have hd1 : ((⟨(dotsAll O).toArray⟩ : ByteArray)).toList = s.toList := by rw [Lib.toList_data, Lib.toList_data, hd]
          clear hb hb2 hd
          go_wp2_with fail
          refine (l2BodyOk_any ao cap O _ hrow.out hOL HOS.out).mono ?_
          rintro e w2 ⟨rfl, rfl⟩
          rw [HB.out]
          go_wp2_with fail
          refine (l2Dots_any ao cap O _ hrow.out hb1 HB2.out).mono ?_
          rintro e w2 ⟨rfl, rfl⟩
          go_wp2_with fail
          go_ret2
          exact .row hq.out rfl HOWN.out HBEL.out
        · have hq := Lib.hid (HNO.out (.inr hd))
          have hd1 : ¬ dotsAll O = s.toList := by rw [Lib.toList_data]; exact hd
          have hd2 : (dotsAll O == s.toList) = false := by rw [beq_eq_false_iff_ne]; exact hd1
          have hd3 : (!dotsAll O == s.toList) = true := by rw [hd2]; rfl
          clear hb hb2 hd
          go_wp2_with fail
          refine (l2BodyOk_any ao cap O _ hrow.out hOL HOS.out).mono ?_
          rintro e w2 ⟨rfl, rfl⟩
          rw [HB.out]
          go_wp2_with fail
          refine (l2Dots_any ao cap O _ hrow.out hb1 HB2.out).mono ?_
          rintro e w2 ⟨rfl, rfl⟩
          go_wp2_with fail
          go_ret2
          exact .nil hq.out HBEL.out
end Go.Proofs.YtcaknjdolfheaaaGreatDoor
namespace Go.Proofs.YtcaknjdolfheaaaGreatDoor
open Go Go.RowKit

/-- The lines while their dots are taken away in place. -/
def stripCells (xs : List ByteArray) (k : Nat) : List Value := ((xs.take k).map strip ++ xs.drop k).map Value.string
theorem stripCells_zero (xs : List ByteArray) : stripCells xs 0 = xs.map Value.string := by simp [stripCells]
theorem stripCells_end (xs : List ByteArray) : stripCells xs xs.length = (xs.map strip).map Value.string := by simp [stripCells]
theorem stripCells_get {xs : List ByteArray} {k : Nat} {x : ByteArray} (hx : xs[k]? = some x) : (stripCells xs k)[k]? = some (.string x) := by
  obtain ⟨hk, e⟩ := List.getElem?_eq_some_iff.1 hx
  unfold stripCells
  rw [List.getElem?_map, List.getElem?_append_right (by simp; omega)]
  rw [List.length_map, List.length_take, Nat.min_eq_left (by omega), Nat.sub_self, List.getElem?_drop, Nat.add_zero, hx]; rfl
theorem stripCells_set {xs : List ByteArray} {k : Nat} {x : ByteArray} (hx : xs[k]? = some x) : (stripCells xs k).set k (.string (strip x)) = stripCells xs (k + 1) := by
  obtain ⟨hk, e⟩ := List.getElem?_eq_some_iff.1 hx
  unfold stripCells
  have hl : ((xs.take k).map strip).length = k := by rw [List.length_map, List.length_take]; omega
  rw [List.take_succ_eq_append_getElem hk, e, List.drop_eq_getElem_cons hk, ← List.map_set]
  congr 1
  rw [List.set_append_right _ _ (by omega), hl, Nat.sub_self, List.set_cons_zero, List.map_append, List.append_assoc]
  rfl

theorem dotGetR_not {s : ByteArray} (h0 : ¬ 800 < s.size) (h : stepsOk s = false) : dotGetR s = ([], false) := by rw [dotGetR_steps h0, h]; rfl
theorem dotGetR_is {s : ByteArray} (h0 : ¬ 800 < s.size) (h : stepsOk s = true) : dotGetR s = (outsB s, true) := by rw [dotGetR_steps h0, h]; rfl
theorem steps_last {s : ByteArray} (h : (linesB s).getLast? ≠ some (mk [46])) : stepsOk s = false := by
  unfold stepsOk; rw [decide_eq_false h]; rfl
theorem steps_left {s : ByteArray} (h : leftOf s ≠ mk []) : stepsOk s = false := by
  unfold stepsOk; rw [decide_eq_false h, Bool.and_false]; rfl
theorem steps_undot {s x : ByteArray} (hx : x ∈ (linesB s).dropLast) (h : undotOk x = false) : stepsOk s = false := by
  unfold stepsOk
  rw [show (linesB s).dropLast.all undotOk = false by rw [List.all_eq_false]; exact ⟨x, hx, by rw [h]; simp⟩, Bool.and_false]; rfl
theorem steps_body {s : ByteArray} (h : bodyB (outsB s) = false) : stepsOk s = false := by
  unfold stepsOk; rw [h, Bool.and_false]
theorem steps_yes {s : ByteArray} (h1 : (linesB s).getLast? = some (mk [46])) (h2 : leftOf s = mk []) (h3 : (linesB s).dropLast.all undotOk = true) (h4 : bodyB (outsB s) = true) : stepsOk s = true := by
  unfold stepsOk; rw [decide_eq_true h1, decide_eq_true h2, h3, h4]; rfl

theorem dotGetR_none {s : ByteArray} (h : linesOfB s = []) : dotGetR s = ([], false) := by
  by_cases hbig : 800 < s.size
  · exact dotGetR_big hbig
  · refine dotGetR_not hbig (steps_last ?_)
    rw [← show linesOfB s = linesB s from if_neg hbig, h]
    simp

set_option maxHeartbeats 1600000 in
set_option maxRecDepth 100000 in
theorem implDotGet_any (s : ByteArray) (w : World) (hM : MaxCell w) (hs : s.size ≤ 9223372036854775807) :
    Calls Tryz.prog 225 #[.string s] w (RowBoolPost w (dotGetR s)) := by
  have C := Lib.hid (fun W hW => implLinesOf_any s W hW hs)
  have HM := Lib.hid hM
  clear hM
  rcases List.eq_nil_or_concat (linesOfB s) with hnil | ⟨xs, x, hcat⟩
  · have hq := Lib.hid (dotGetR_none hnil)
    rw [hnil] at C
    clear hnil
    go_enter Tryz.func225, Tryz.ntmps225
    go_wp2_with fail
    refine (C.out _ HM.out).mono ?_
    rintro e w1 ⟨a1, c1, rfl, r1, b1⟩
    have B1 := Lib.hid b1
    clear r1 b1
    go_wp2
    go_ret2
    exact .nil hq.out B1.out
  have h8 : ¬ 800 < s.size := fun h => by
    rw [show linesOfB s = [] from if_pos h] at hcat
    simp at hcat
  have e1 : linesB s = xs ++ [x] := by
    rw [← List.concat_eq_append, ← hcat]; exact (if_neg h8).symm
  have e2 : leftOfB s = leftOf s := if_neg h8
  have hlen : xs.length + 1 ≤ 800 := by
    have := lines_len s
    rw [e1, List.length_append, List.length_singleton] at this; omega
  have HS : Hid (∀ y ∈ xs, y.size ≤ 800) := Lib.hid fun y hy => by
    have := lines_size (s := s) (x := y) (by rw [e1]; exact List.mem_append_left _ hy)
    omega
  have eo : outsB s = xs.map strip := by unfold outsB; rw [e1, List.dropLast_concat]
  have HNO := Lib.hid (fun h => dotGetR_not h8 h)
  have HL := Lib.hid (fun h : x ≠ mk [46] => HNO.out (steps_last (s := s) (by rw [e1]; simpa using h)))
  have HT := Lib.hid (fun h : leftOf s ≠ mk [] => HNO.out (steps_left h))
  have HU := Lib.hid (fun y (hy : y ∈ xs) h => HNO.out (steps_undot (s := s) (x := y) (by rw [e1, List.dropLast_concat]; exact hy) h))
  have HB := Lib.hid (fun h : bodyB (xs.map strip) = false => HNO.out (steps_body (by rw [eo]; exact h)))
  have HY := Lib.hid (fun (h1 : x = mk [46]) (h2 : leftOf s = mk []) (h3 : xs.all undotOk = true) (h4 : bodyB (xs.map strip) = true) => eo ▸ dotGetR_is h8 (steps_yes (by rw [e1, h1]; simp) h2 (by rw [e1, List.dropLast_concat]; exact h3) (by rw [eo]; exact h4)))
  rw [e2, hcat, List.concat_eq_append] at C
  clear hcat e1 e2 eo HNO
  generalize dotGetR s = R at *
  generalize leftOf s = T at *
  go_enter Tryz.func225, Tryz.ntmps225
  go_wp2_with fail
  refine (C.out _ HM.out).mono ?_
  rintro e w1 ⟨a1, c1, rfl, r1, b1⟩
  rw [List.length_append, List.length_singleton] at r1 ⊢
  obtain ⟨g, cap', hv⟩ := ownsRow_succ r1
  injection hv with hv1 hv2 hv3
  subst hv1 hv3
  have hcl := r1.cellAt xs.length (by omega)
  rw [List.map_append, List.getElem?_append_right (by simp), List.length_map, Nat.sub_self] at hcl
  have hcell : w1.cell? ⟨g, xs.length, none⟩ = some (.string x) := hcl
  have hcap : xs.length + 1 ≤ c1 ∧ c1 ≤ maxLen := by
    rcases r1.2 with ⟨e, _⟩ | ⟨g', c', cur, e, _, _, h1, h2, _⟩
    · cases e
    · injection e with _ _ e3
      subst e3
      exact ⟨h1, h2⟩
  unfold maxLen at hcap
  obtain ⟨hcap1, hcap2⟩ := hcap
  have R1 := Lib.hid r1
  have B1 := Lib.hid b1
  have z1 := b1.size
  clear hcl r1 b1
  by_cases hx : x = mk [46]
  · have hx1 : x.toList = [46] := by rw [Lib.toList_data, hx]; rfl
    have HX := Lib.hid hx
    clear hx
    by_cases ht : T = mk []
    · have ht1 : T.toList = [] := by rw [Lib.toList_data, ht]; rfl
      have HT2 := Lib.hid ht
      clear ht
      have ho1 : w1.ownsRow w.heap.size 9 1 (.slice (some ⟨g, 0, none⟩) xs.length c1) xs.length (stripCells xs 0) := by
        rw [stripCells_zero]
        exact ownsRow_pop (last := [.string x]) (by simp) (by simpa using R1.out)
      have HO1 := Lib.hid ho1
      clear ho1
      go_wp2
      go_loopw [38] (fun i wr => ∃ k : Nat, i = .int .i64 k ∧ k ≤ xs.length ∧ Hid ((xs.take k).all undotOk = true) ∧ wr.ownsRow w.heap.size 9 1 (.slice (some ⟨g, 0, none⟩) xs.length c1) xs.length (stripCells xs k) ∧ Below w.heap.size w wr) (fun i _ => xs.length - (intOf i).toNat)
      case atStart => exact ⟨0, rfl, Nat.zero_le _, Lib.hid rfl, HO1.out, B1.out⟩
      case round =>
        obtain ⟨k, rfl, hk, HA, hor, hb⟩ := hrel
        have hsz := hb.size
        have hg := hor.lt g rfl
        by_cases hlt : k < xs.length
        · obtain ⟨y, hy⟩ : ∃ y, xs[k]? = some y := ⟨_, List.getElem?_eq_getElem hlt⟩
          have hcy : wr.cell? ⟨g, k, none⟩ = some (.string y) := (hor.cellAt k (by omega)).trans (stripCells_get hy)
          have hys := HS.out y (List.mem_of_getElem? hy)
          have HC := Lib.hid (stripCells_set hy)
          have HY2 := Lib.hid hy
          clear hy
          cases hu : undotOk y
          · have hq := Lib.hid (HU.out y (List.mem_of_getElem? HY2.out) hu)
            have HU2 := Lib.hid hu
            have HBX := Lib.hid hb
            clear hu hor hb
            go_wp2_with (go_at_call 241; refine (undot_any y _).mono ?_; rintro e w2 ⟨rfl, hb2⟩; rw [HU2.out])
            go_ret2
            exact .nil hq.out (HBX.out.trans (hb2.mono (by omega)))
          · have HA2 := Lib.hid (list_all_succ HY2.out HA.out hu)
            have HU2 := Lib.hid hu
            clear hu
            go_wp2_with (go_at_call 241; refine (undot_any y _).mono ?_; rintro e w2 ⟨rfl, hb2⟩; rw [HU2.out]; have ho2 := own_later hor hb2; have hc2 : w2.cell? ⟨g, k, none⟩ = some (.string y) := (ho2.cellAt k (by omega)).trans (stripCells_get HY2.out); have hf2 := ho2.frozenAt k)
            have hs2 := (ho2.stored k (.string (strip y))).1
            rw [HC.out] at hs2
            have HB3 := Lib.hid ((hb.trans (hb2.mono (by omega))).setCell (p := ⟨g, k, none⟩) hg.1 (.string (strip y)))
            clear hor hb hb2 ho2
            go_roundw
            case rel => exact ⟨k + 1, by go_num, by omega, HA2, hs2, HB3.out⟩
            case measure => simp [intOf]; omega
        · obtain rfl : k = xs.length := by omega
          rw [stripCells_end] at hor
          have HAll := Lib.hid (by have := HA.out; rwa [List.take_length] at this : xs.all undotOk = true)
          have hor2 : wr.ownsRow w.heap.size 9 1 (.slice (some ⟨g, 0, none⟩) xs.length c1) (xs.map strip).length ((xs.map strip).map Value.string) := by rw [List.length_map]; exact hor
          have hl2 : (xs.map strip).length = xs.length := List.length_map _
          have HR3 := Lib.hid (StrRow.of_own (ao := some ⟨g, 0, none⟩) (cap := c1) (xs := xs.map strip) (by rw [List.length_map]; exact hor))
          have HS3 : Hid (∀ y ∈ xs.map strip, y.size ≤ maxLen) := Lib.hid fun y hy => by
            obtain ⟨z, hz, rfl⟩ := List.mem_map.1 hy
            have := strip_size z
            have := HS.out z hz
            unfold maxLen; omega
          have HL3 : Hid ((xs.map strip).length ≤ maxLen) := Lib.hid (by rw [List.length_map]; unfold maxLen; omega)
          have C3 := Lib.hid (fun W h => isBody_any (some ⟨g, 0, none⟩) c1 (xs.map strip) W h HL3.out HS3.out)
          rw [List.length_map] at C3
          have HO := Lib.hid hor
          have HBX := Lib.hid hb
          clear hor hor2 hb HA hl2
          cases hbd : bodyB (xs.map strip)
          · have hq := Lib.hid (HB.out hbd)
            rw [hbd] at C3
            clear hbd
            go_wp2_with fail
            refine (C3.out _ HR3.out).mono ?_
            rintro e w2 ⟨rfl, rfl⟩
            go_wp2_with fail
            go_ret2
            exact .nil hq.out HBX.out
          · have hq := Lib.hid (HY.out HX.out HT2.out HAll.out hbd)
            rw [hbd] at C3
            clear hbd
            go_wp2_with fail
            refine (C3.out _ HR3.out).mono ?_
            rintro e w2 ⟨rfl, rfl⟩
            go_wp2_with fail
            go_ret2
            exact .row hq.out (List.length_map _).symm HO.out HBX.out
    · have hq := Lib.hid (HT.out ht)
      have ht1 : ¬ T.toList = [] := by rw [Lib.toList_data]; intro e; exact ht (mk_eq e)
      have ht2 : (!T.toList.isEmpty) = true := by simpa [List.isEmpty_iff] using ht1
      clear ht
      go_wp2
      go_ret2
      exact .nil hq.out B1.out
  · have hq := Lib.hid (HL.out hx)
    have hx1 : ¬ x.toList = [46] := by rw [Lib.toList_data]; intro e; exact hx (mk_eq e)
    have hx2 : (x.toList == [46]) = false := by rw [beq_eq_false_iff_ne]; exact hx1
    have hx3 : (!x.toList == [46]) = true := by rw [hx2]; rfl
    clear hx
    go_wp2
    go_ret2
    exact .nil hq.out B1.out
end Go.Proofs.YtcaknjdolfheaaaGreatDoor
