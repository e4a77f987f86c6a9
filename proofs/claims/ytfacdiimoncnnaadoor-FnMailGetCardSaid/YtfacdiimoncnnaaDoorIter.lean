/- Contracts: the iterator over the lines of a text; LinesOf of the program. -/
import Derived.RangeFuncNested
import Derived.RangeFuncBound
import Derived.RangeFuncCalls
import Derived.RangeFuncLeaves
import Derived.RangeFuncBox
import Derived.Shelf.Abstract
import Derived.Shelf.RegionOpen
import Derived.WalkKit
import Derived.OwnWalkIn
import Derived.TacticsInMore
import Derived.LoopNIn
import Derived.LoopIn
import Derived.Maps.AppendAt
import Derived.RangeFuncWrites
import Derived.RangeFuncFrom
import Derived.Test.YtfacdiimoncnnaaDoorLines
import Derived.Test.YtfacdiimoncnnaaDoorShelf
namespace Go.Proofs.YtfacdiimoncnnaaDoor
open Go Go.RowKit Go.Shelf
attribute [local go_sem] Oper.semAt_some

/-- A text that is not too long. -/
abbrev Text := { x : ByteArray // x.size ≤ 1048576 }
def sizeOfV : Value → Nat
  | .string s => s.size
  | _ => 0
def MaxCell (w : World) : Prop := ∃ m : Int, w.cell? ⟨0, 0, none⟩ = some (.int .i64 m)
theorem MaxCell.below {B : Nat} {w w' : World} (h : MaxCell w) (hb : Below B w w') (hB : w.heap.size ≤ B ∨ 0 < B) : MaxCell w' := by
  obtain ⟨m, hm⟩ := h
  have := World.block_lt_of_cell? w _ hm
  exact ⟨m, (hb.cell (p := ⟨0, 0, none⟩) (by simp at this ⊢; omega)).trans hm⟩

theorem below_drewL (B : Nat) (w : World) : ∀ n, Below B w (w.drewN n)
  | 0 => Below.refl _ _
  | n + 1 => (below_drewL B w n).drew
theorem grownBy_drewN (w : World) (n : Nat) : w.grownBy (w.drewN n) none :=
  have h := below_drewL w.heap.size w n
  ⟨h.os, h.tape, h.output, h.size, fun k hk _ => h.block k hk⟩

/-- strings.Cut at CR LF where there is one, and where there is none. -/
theorem crlf_hit (r : ByteArray) (i : Nat) (W : World) (hm : MaxCell W) (hs : r.size ≤ 1048576) (h : Lib.indexB r crlf = i) :
    Calls Tryd.prog 115 #[.string r, .string { data := #[13, 10] }] W fun e w' => e = .returned (.tuple #[.string (r.extract 0 i), .string (r.extract (i + 2) r.size), .bool true]) ∧ ∃ n, w' = W.drewN n := by
  obtain ⟨m, hm⟩ := hm
  obtain ⟨h1, h2, h3⟩ := Lib.cutB_hit _ _ _ h
  refine (Tryd.strings_Cut r crlf m W (by omega) hm).mono ?_
  rintro e w' ⟨rfl, n, rfl⟩
  exact ⟨by rw [h1, h2, h3]; rfl, n, rfl⟩
theorem crlf_none (r : ByteArray) (W : World) (hm : MaxCell W) (hs : r.size ≤ 1048576) (h : Lib.indexB r crlf = -1) :
    Calls Tryd.prog 115 #[.string r, .string { data := #[13, 10] }] W fun e w' => e = .returned (.tuple #[.string r, .string ByteArray.empty, .bool false]) ∧ ∃ n, w' = W.drewN n := by
  obtain ⟨m, hm⟩ := hm
  obtain ⟨h1, h2, h3⟩ := Lib.cutB_miss _ _ h
  refine (Tryd.strings_Cut r crlf m W (by omega) hm).mono ?_
  rintro e w' ⟨rfl, n, rfl⟩
  exact ⟨by rw [h1, h2, h3], n, rfl⟩

set_option maxRecDepth 100000 in
set_option maxHeartbeats 2000000 in
theorem ended_in (l Bn n₀ : Nat) (s : ByteArray) (hs : s.size ≤ 1048576) (hn₀ : 0 < n₀) (J Jx : List Text → World → Prop) (W0 : Nat) (hJa : AbidesFrom W0 J)
    (hY : ∀ pre x W, J pre W → pre.length < s.size → YieldAt Fence.wide 3 Tryd.prog l #[.string (Subtype.val x)] W fun e W' =>
      (e = .returned (.bool true) ∧ J (pre ++ [x]) W' ∧ Below n₀ W W') ∨ (e = .returned (.bool false) ∧ Jx (pre ++ [x]) W'))
    (W : World) (hBn : W.cell? ⟨Bn, 0, none⟩ = some (.string s)) (hM : MaxCell W) (h0 : J [] W) :
    CallsIn Fence.wide 4 Tryd.prog 251 #[.func (.yield l) #[] #[], .pointer (some ⟨Bn, 0, none⟩)] W fun e W' => (∃ v, e = .returned v) ∧
      ((∃ ys : List Text, ys.map Subtype.val = linesB s ∧ J ys W') ∨ (∃ pre : List Text, True ∧ Jx pre W')) := by
  refine callsIn_of_wp Tryd.func251 rfl trivial ?_ rfl
  simp only [Tryd.ntmps251, List.size_toArray, List.length_cons, List.length_nil, Nat.reduceAdd, Nat.reduceSub, Array.replicate_succ, Array.replicate_zero, List.push_toArray, List.append_toArray, List.nil_append, List.cons_append]
  have HY := Lib.hid hY
  have HJa := Lib.hid hJa
  clear hY hJa
  gi_wp2
  gi_loopw [3] (fun p wr => ∃ (fr : Nat) (pre : List Text), p = .string (s.extract fr s.size) ∧ fr ≤ s.size ∧ Hid (LineInv s fr (pre.map Subtype.val)) ∧ Hid (J pre wr) ∧ Hid (MaxCell wr))
    (fun p _ => sizeOfV p)
  case atStart =>
    exact ⟨0, [], by rw [ByteArray.extract_zero_size], Nat.zero_le _, Lib.hid (line_start s), Lib.hid h0, Lib.hid hM⟩
  case round =>
    obtain ⟨fr, pre, rfl, hfr, HL, HJ, HM⟩ := hrel
    have hz := left_eq hfr
    have HZ := Lib.hid hz
    have hrs : (s.extract fr s.size).size ≤ 1048576 := by omega
    clear hz
    rcases Lib.indexB_cases (s.extract fr s.size) crlf with hx | ⟨i, hx, hi⟩
    · have C := Lib.hid (fun W hm => crlf_none (s.extract fr s.size) W hm hrs hx)
      obtain ⟨e1, _⟩ := line_end HL.out hx
      have HE := Lib.hid e1
      clear hx e1
      gi_wp2
      refine ⟨trivial, ?_⟩
      refine (callsIn_wide.2 (C.out _ HM.out)).mono ?_
      rintro e w' ⟨rfl, nd, rfl⟩
      have HJ2 := Lib.hid (HJa.out pre _ _ none HJ.out (grownBy_drewN wr nd) (fun r e => by cases e))
      gi_wp2
      refine ⟨fun _ h => (by cases h), ?_⟩
      gi_wp2
      refine bodyPost_ret (results_none rfl _ _ _) rfl ?_
      exact ⟨⟨_, rfl⟩, .inl ⟨pre, HE.out.symm, HJ2.out⟩⟩
    · rw [crlf_size] at hi
      have hi2 : fr + i + 2 ≤ s.size := by rw [HZ.out] at hi; omega
      have C := Lib.hid (fun W hm => crlf_hit (s.extract fr s.size) i W hm hrs hx)
      have HL2 := Lib.hid (line_hit HL.out hx hi2)
      have e1 : (s.extract fr s.size).extract 0 i = s.extract fr (fr + i) := by rw [ByteArray.extract_extract]; congr 1; omega
      have e2 : (s.extract fr s.size).extract (i + 2) (s.extract fr s.size).size = s.extract (fr + i + 2) s.size := by rw [HZ.out, ByteArray.extract_extract]; congr 1; omega
      have hxs : (s.extract fr (fr + i)).size ≤ 1048576 := by rw [ByteArray.size_extract]; omega
      have hpl : pre.length < s.size := by
        have := HL.out.2.2.2.2
        rw [List.length_map] at this; omega
      rw [e1, e2] at C
      clear hx hi e1 e2
      gi_wp2
      refine ⟨trivial, ?_⟩
      refine (callsIn_wide.2 (C.out _ HM.out)).mono ?_
      rintro e w' ⟨rfl, nd, rfl⟩
      have HJ2 := Lib.hid (HJa.out pre _ _ none HJ.out (grownBy_drewN wr nd) (fun r e => by cases e))
      have HM2 := Lib.hid (HM.out.below (below_drewL wr.heap.size wr nd) (.inl (Nat.le_refl _)))
      obtain ⟨fn, tmps, assign, body, hy, hR⟩ := HY.out pre ⟨s.extract fr (fr + i), hxs⟩ _ HJ2.out hpl
      gi_wp2
      refine hR.mono ?_
      rintro e W3 (⟨rfl, hJ3, hk3⟩ | ⟨rfl, hJx3⟩)
      · have HM3 := Lib.hid (HM2.out.below hk3 (.inr hn₀))
        have HJ3 := Lib.hid hJ3
        clear hJ3 hk3
        gi_wp2
        go_roundw
        case rel => exact ⟨fr + i + 2, pre ++ [⟨s.extract fr (fr + i), hxs⟩], rfl, hi2, Lib.hid (by rw [List.map_append]; exact HL2.out), HJ3, HM3⟩
        case measure =>
          show (s.extract (fr + i + 2) s.size).size < (s.extract fr s.size).size
          rw [HZ.out, ByteArray.size_extract]; omega
      · gi_wp2
        refine bodyPost_ret (results_none rfl _ _ _) rfl ?_
        exact ⟨⟨_, rfl⟩, .inr ⟨_, trivial, hJx3⟩⟩

theorem enters_ended : ∀ args w, (callFunc 251 args).run Tryd.prog w = .ok (.enter 251 args) w := enters_of Tryd.func251 (by kernel_rfl) rfl
theorem ended_any (s : ByteArray) (w : World) :
    Calls Tryd.prog 221 #[.string s] w fun e w' => e = .returned (.func (.func 251) #[] #[.pointer (some ⟨w.heap.size, 0, none⟩)]) ∧ w' = w.alloc (.cells #[.string s] 9) := by
  go_enter Tryd.func221, Tryd.ntmps221
  go_wp2
  go_ret
  exact ⟨rfl, rfl⟩

theorem ended_stops (Bn n₀ : Nat) (s : ByteArray) (hs : s.size ≤ 1048576) (hn₀ : 0 < n₀) (w : World) (hBn : Bn < w.heap.size) (hc : w.cell? ⟨Bn, 0, none⟩ = some (.string s)) (hM : MaxCell w) :
    SeqStopsK Fence.wide 4 Tryd.prog 251 #[.pointer (some ⟨Bn, 0, none⟩)] (fun x : Text => #[Value.string x.val]) (Below n₀) (fun ys => ys.map Subtype.val = linesB s) (fun _ => True) s.size w := fun l J Jx W hW hJ _ hY h0 =>
  ended_in l Bn n₀ s hs hn₀ J Jx W.heap.size hJ hY W ((hW.cell (p := ⟨Bn, 0, none⟩) hBn).trans hc) (hM.below hW (.inl (Nat.le_refl _))) h0

theorem takes_bound (pre : List Text) : takes (pre.map Subtype.val) ≤ 1048578 * pre.length := by
  induction pre with
  | nil => exact Nat.zero_le _
  | cons x l ih =>
    have := x.2
    unfold takes at ih ⊢
    rw [List.map_cons, List.map_cons, List.sum_cons, List.length_cons]
    omega

theorem takes_lines (s : ByteArray) : takes (linesB s) ≤ s.size ∧ s.extract (takes (linesB s)) s.size = leftOf s := by
  have key : ∀ (n : Nat) (D : List ByteArray) (f : Nat), s.size - f ≤ n → LineInv s f D → takes (linesB s) ≤ s.size ∧ s.extract (takes (linesB s)) s.size = leftOf s := by
    intro n
    induction n with
    | zero =>
      intro D f hn h
      have hx : Lib.indexB (s.extract f s.size) crlf = -1 := by
        rcases Lib.indexB_cases (s.extract f s.size) crlf with e | ⟨i, _, hi⟩
        · exact e
        · rw [crlf_size, ByteArray.size_extract] at hi; omega
      obtain ⟨e1, e2⟩ := line_end h hx
      rw [e1, e2, ← h.2.2.1]
      exact ⟨h.2.2.2.1, rfl⟩
    | succ n ih =>
      intro D f hn h
      rcases Lib.indexB_cases (s.extract f s.size) crlf with hx | ⟨i, hx, hi⟩
      · obtain ⟨e1, e2⟩ := line_end h hx
        rw [e1, e2, ← h.2.2.1]
        exact ⟨h.2.2.2.1, rfl⟩
      · rw [crlf_size, ByteArray.size_extract] at hi
        exact ih _ _ (by omega) (line_hit h hx (by omega))
  exact key s.size [] 0 (by omega) (line_start s)

set_option maxRecDepth 100000 in
set_option maxHeartbeats 2000000 in
theorem linesOf_in (s : ByteArray) (hs : s.size ≤ 1048576) (h800 : ¬ 800 < s.size) (w : World) (hM : MaxCell w) :
    CallsIn Fence.wide 5 Tryd.prog 183 #[.string s] w (RowTextPost w (linesB s) (leftOf s)) := by
  obtain ⟨i0, hi, hz0, hz1, hz2⟩ := info_parts infoS
  have hML : 0 < w.heap.size := by obtain ⟨m, hm⟩ := hM; exact World.block_lt_of_cell? w _ hm
  have hb8 : decide ((800 : Int) < (s.size : Int)) = false := decide_eq_false (by omega)
  refine callsIn_of_wp_marks Tryd.func183 rfl trivial ?_ rfl
  simp only [Tryd.ntmps183, List.size_toArray, List.length_cons, List.length_nil, Nat.reduceAdd, Nat.reduceSub, Array.replicate_succ, Array.replicate_zero, List.push_toArray, List.append_toArray, List.nil_append, List.cons_append]
  gi_wp2
  refine ⟨trivial, ?_⟩
  refine (callsIn_wide.2 (ended_any s _)).mono ?_
  rintro e w' ⟨rfl, rfl⟩
  gi_wp2
  have bL := Boxed.new w 22 (.slice none 0 0)
  have bE := Boxed.new (w.alloc (.cells #[.slice none 0 0] 22)) 3 (.int .i64 0)
  have bS := Boxed.new ((w.alloc (.cells #[.slice none 0 0] 22)).alloc (.cells #[.int .i64 0] 3)) 9 (.string s)
  rw [World.size_alloc] at bE
  rw [World.size_alloc, World.size_alloc] at bS
  have hB0 : Below w.heap.size w (((w.alloc (.cells #[.slice none 0 0] 22)).alloc (.cells #[.int .i64 0] 3)).alloc (.cells #[.string s] 9)) := (((Below.refl _ w).alloc (Nat.le_refl _) _).alloc (by simp) _).alloc (by simp; omega) _
  have hM0 := hM.below hB0 (.inl (Nat.le_refl _))
  refine wpIn_rangeFunc_ownG rfl (by omega) (gf := 251) (lb := #[.pointer (some ⟨w.heap.size + 1 + 1, 0, none⟩)]) rfl trivial enters_ended
    (ended_stops (w.heap.size + 1 + 1) w.heap.size s hs hML _ (by simp) bS.cell hM0) belowK_t (belowK_b (by simp; omega)) (Below.refl _ _) (fun _ => rfl)
    (fun pre W => ((∃ v, Boxed W w.heap.size 22 v ∧ W.ownsRow w.heap.size 9 1 v pre.length (pre.map fun x => Value.string x.val) ∧ True) ∧ Boxed W (w.heap.size + 1) 3 (.int .i64 (takes (pre.map Subtype.val)))) ∧ Below w.heap.size w W)
    (fun _ _ _ => False)
    (OwnFrom.and (OwnFrom.and (Own.from (holdsRow_own w.heap.size w.heap.size 22 9 1 (fun pre : List Text => pre.length) (fun pre => pre.map fun x => Value.string x.val) (fun _ _ => True)) _) (Own.from (boxed_own (w.heap.size + 1) 3 (fun pre : List Text => .int .i64 (takes (pre.map Subtype.val)))) _)) (ownFrom_below (Nat.le_refl _) (by simp; omega)))
    (fun _ _ _ _ _ hs _ _ => hs)
    ⟨⟨⟨_, (bL.alloc _).alloc _, World.ownsRow_nil _ _ _ _, trivial⟩, bE.alloc _⟩, hB0⟩
    (fun x => { tmps := #[.string s, undef, .slice none 0 0, .string { data := #[] }, .pointer (some ⟨w.heap.size, 0, none⟩), .pointer (some ⟨w.heap.size + 1, 0, none⟩), .string x.val, .string s, .int .i64 s.size, .bool false, .string s, .func (.func 251) #[] #[.pointer (some ⟨w.heap.size + 1 + 1, 0, none⟩)], .string x.val, undef, undef, undef, undef, undef, undef, undef, undef, undef, undef, undef, undef, undef], defers := [] }) ?assign ?body ?done ?stop
  case assign =>
    intro l x W K hK
    gi_wp2
    exact hK
  case body =>
    rintro l pre x W ⟨⟨⟨v, hv, hrow, _⟩, hE⟩, hB⟩ hlt
    have hc := hv.cell
    have hx := x.2
    have htb := takes_bound pre
    have htk : takes (pre.map Subtype.val) ≤ 1099513724928 := Nat.le_trans htb (Nat.le_trans (Nat.mul_le_mul_left 1048578 (show pre.length ≤ 1048576 by omega)) (by omega))
    clear htb
    obtain ⟨tk, hT⟩ : ∃ tk, tk = takes (pre.map Subtype.val) := ⟨_, rfl⟩
    rw [← hT] at hE htk
    have HT := Lib.hid hT
    clear hT
    gi_wp2_with (gi_at_builtin; refine wpListIn_append_own _ rfl _ _ 22 rfl w.heap.size 9 i0 (.string ByteArray.empty) 1 16 Tryd.underlying22 hi hz0 hz1 hz2 rfl (by decide) _ _ _ rfl (hrow.alloc _) ⟨W.heap.size, 0, none⟩ 1 1 [.string x.val] rfl rfl (cell_one_new _ _ _) (by simp [Value.oneCell']) (by unfold maxLen; omega) (by omega) (by have := hB.size; simp; omega) ?_; intro v' w1 hown' hgrow _; obtain ⟨g', cap', rfl⟩ := ownsRow_succ hown'; obtain ⟨hv1, hv2, hr2, hk2, hb2⟩ := hv.appended (by decide) hrow hB.size (Nat.le_refl _) hown' hgrow; have hc1 := hv1.cell; have hf1 := hv1.frozen; have hE1 := (hE.alloc (.cells #[.string x.val] 9)).kept hgrow (hE.not_row (by decide) hrow); have hE2 := hE1.other (B' := w.heap.size) (by omega) (.slice (some ⟨g', 0, none⟩) (pre.length + 1) cap'); have ce := hE2.cell; have fe := hE2.frozen)
    have hv3 := hv2.other (B' := w.heap.size + 1) (by omega) (.int .i64 ((tk : Int) + ((x.val.size : Int) + 2)))
    have hr3 := hr2.kept (grownBy_setCell' _ (w.heap.size + 1) (.int .i64 ((tk : Int) + ((x.val.size : Int) + 2)))) (.inr (hE2.not_row (by decide) hr2).symm)
    have hE3 := hE2.set (.int .i64 ((tk : Int) + ((x.val.size : Int) + 2)))
    have hb3 := hb2.setCell (p := ⟨w.heap.size + 1, 0, none⟩) (by simp) (.int .i64 ((tk : Int) + ((x.val.size : Int) + 2)))
    have hval : (Value.int .i64 ((tk : Int) + ((x.val.size : Int) + 2))) = .int .i64 ((takes ((pre ++ [x]).map Subtype.val) : Nat) : Int) := by
      rw [List.map_append, List.map_cons, List.map_nil, takes_snoc, ← HT.out]; go_num
    refine ⟨(hk2.trans (KeepsOthers.setCell _ _ _)).from _, hb3, ⟨⟨_, hv3, ?_, trivial⟩, ?_⟩, hB.trans hb3⟩
    · simpa using hr3
    · rw [← hval]; exact hE3
  case done =>
    rintro D ys W hD hys ⟨⟨⟨v, hv, hrow, _⟩, hE⟩, hB⟩ hK
    have hc := hv.cell
    have hcE := hE.cell
    rw [hys] at hcE
    have hend : takes (linesB s) ≤ s.size ∧ s.extract (takes (linesB s)) s.size = leftOf s := takes_lines s
    have hend1 := hend.1
    have HE := Lib.hid hend.2
    clear hend
    gi_wp2
    gi_region
    have hlen : ys.length = (linesB s).length := by rw [← hys, List.length_map]
    have hcells : ys.map (fun x => Value.string x.val) = (linesB s).map Value.string := by rw [← hys, List.map_map]; rfl
    rw [hcells, hlen] at hrow
    obtain ⟨ao, cap, rfl⟩ := shape_own hrow
    gi_wp2
    refine ⟨by simp, .inl ⟨_, _, rfl, run_takeDeferred (w := W.drew) hK, ?_⟩⟩
    refine ⟨_, results_tmp2 rfl _ _ _, ao, cap, ?_, ?_, ?_⟩
    · rw [HE.out]; rfl
    · exact ownsRow_putObj (W := W.drew) hrow _ hK rfl
    · exact hB.drew.trans (belowK_b (w := w) (Nat.le_refl _) W.drew D _ _ (by simp at hD; omega) hK rfl rfl)
  case stop =>
    rintro D c pre W _ _ h _
    exact h.elim

def linesOfB (s : ByteArray) : List ByteArray := if 800 < s.size then [] else linesB s
def leftOfB (s : ByteArray) : ByteArray := if 800 < s.size then { data := #[] } else leftOf s

/-- LinesOf, of the program and of the model. -/
theorem implLinesOf_any (s : ByteArray) (w : World) (hM : MaxCell w) (hs : s.size ≤ 9223372036854775807) :
    Calls Tryd.prog 183 #[.string s] w (RowTextPost w (linesOfB s) (leftOfB s)) := by
  unfold linesOfB leftOfB
  by_cases h : 800 < s.size
  · rw [if_pos h, if_pos h]
    go_enter Tryd.func183, Tryd.ntmps183
    go_wp2
    go_ret2
    exact ⟨none, 0, rfl, World.ownsRow_nil _ _ _ _, Below.refl _ _⟩
  · rw [if_neg h, if_neg h]
    exact callsIn_wide.1 (linesOf_in s (by omega) h w hM)
end Go.Proofs.YtfacdiimoncnnaaDoor
