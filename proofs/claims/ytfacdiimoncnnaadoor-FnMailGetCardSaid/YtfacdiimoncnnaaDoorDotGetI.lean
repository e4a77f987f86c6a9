/- Contract: DotGet of the program. -/
import Derived.Test.YtfacdiimoncnnaaDoorUndot
namespace Go.Proofs.YtfacdiimoncnnaaDoor
open Go Go.RowKit

/-- The lines while their dots are taken away in place. -/
def stripCells (xs : List ByteArray) (k : Nat) : List Value := ((xs.take k).map strip ++ xs.drop k).map Value.string
theorem stripCells_zero (xs : List ByteArray) : stripCells xs 0 = xs.map Value.string := by simp [stripCells]
theorem stripCells_end (xs : List ByteArray) : stripCells xs xs.length = (xs.map strip).map Value.string := by simp [stripCells]
theorem stripCells_get {xs : List ByteArray} {k : Nat} {x : ByteArray} (hx : xs[k]? = some x) : (stripCells xs k)[k]? = some (.string x) := by
  obtain ⟨hk, e⟩ := List.getElem?_eq_some_iff.1 hx
  unfold stripCells
  rw [List.getElem?_map, List.getElem?_append_right (by simp; omega)]
  rw [List.length_map, List.length_take, Nat.min_eq_left (by omega), Nat.sub_self, List.getElem?_drop, Nat.add_zero, hx]; rfl
theorem stripCells_set {xs : List ByteArray} {k : Nat} {x : ByteArray} (hx : xs[k]? = some x) : (stripCells xs k).set k (.string (strip x)) = stripCells xs (k + 1) := by
  obtain ⟨hk, e⟩ := List.getElem?_eq_some_iff.1 hx
  unfold stripCells
  have hl : ((xs.take k).map strip).length = k := by rw [List.length_map, List.length_take]; omega
  rw [List.take_succ_eq_append_getElem hk, e, List.drop_eq_getElem_cons hk, ← List.map_set]
  congr 1
  rw [List.set_append_right _ _ (by omega), hl, Nat.sub_self, List.set_cons_zero, List.map_append, List.append_assoc]
  rfl

theorem dotGetR_not {s : ByteArray} (h0 : ¬ 800 < s.size) (h : stepsOk s = false) : dotGetR s = ([], false) := by rw [dotGetR_steps h0, h]; rfl
theorem dotGetR_is {s : ByteArray} (h0 : ¬ 800 < s.size) (h : stepsOk s = true) : dotGetR s = (outsB s, true) := by rw [dotGetR_steps h0, h]; rfl
theorem steps_last {s : ByteArray} (h : (linesB s).getLast? ≠ some (mk [46])) : stepsOk s = false := by
  unfold stepsOk; rw [decide_eq_false h]; rfl
theorem steps_left {s : ByteArray} (h : leftOf s ≠ mk []) : stepsOk s = false := by
  unfold stepsOk; rw [decide_eq_false h, Bool.and_false]; rfl
theorem steps_undot {s x : ByteArray} (hx : x ∈ (linesB s).dropLast) (h : undotOk x = false) : stepsOk s = false := by
  unfold stepsOk
  rw [show (linesB s).dropLast.all undotOk = false by rw [List.all_eq_false]; exact ⟨x, hx, by rw [h]; simp⟩, Bool.and_false]; rfl
theorem steps_body {s : ByteArray} (h : bodyB (outsB s) = false) : stepsOk s = false := by
  unfold stepsOk; rw [h, Bool.and_false]
theorem steps_yes {s : ByteArray} (h1 : (linesB s).getLast? = some (mk [46])) (h2 : leftOf s = mk []) (h3 : (linesB s).dropLast.all undotOk = true) (h4 : bodyB (outsB s) = true) : stepsOk s = true := by
  unfold stepsOk; rw [decide_eq_true h1, decide_eq_true h2, h3, h4]; rfl

theorem dotGetR_none {s : ByteArray} (h : linesOfB s = []) : dotGetR s = ([], false) := by
  by_cases hbig : 800 < s.size
  · exact dotGetR_big hbig
  · refine dotGetR_not hbig (steps_last ?_)
    rw [← show linesOfB s = linesB s from if_neg hbig, h]
    simp

set_option maxHeartbeats 1600000 in
set_option maxRecDepth 100000 in
theorem implDotGet_any (s : ByteArray) (w : World) (hM : MaxCell w) (hs : s.size ≤ 9223372036854775807) :
    Calls Tryd.prog 118 #[.string s] w (RowBoolPost w (dotGetR s)) := by
  have C := Lib.hid (fun W hW => implLinesOf_any s W hW hs)
  have HM := Lib.hid hM
  clear hM
  rcases List.eq_nil_or_concat (linesOfB s) with hnil | ⟨xs, x, hcat⟩
  · have hq := Lib.hid (dotGetR_none hnil)
    rw [hnil] at C
    clear hnil
    go_enter Tryd.func118, Tryd.ntmps118
    go_wp2_with fail
    refine (C.out _ HM.out).mono ?_
    rintro e w1 ⟨a1, c1, rfl, r1, b1⟩
    have B1 := Lib.hid b1
    clear r1 b1
    go_wp2
    go_ret2
    exact .nil hq.out B1.out
  have h8 : ¬ 800 < s.size := fun h => by
    rw [show linesOfB s = [] from if_pos h] at hcat
    simp at hcat
  have e1 : linesB s = xs ++ [x] := by
    rw [← List.concat_eq_append, ← hcat]; exact (if_neg h8).symm
  have e2 : leftOfB s = leftOf s := if_neg h8
  have hlen : xs.length + 1 ≤ 800 := by
    have := lines_len s
    rw [e1, List.length_append, List.length_singleton] at this; omega
  have HS : Hid (∀ y ∈ xs, y.size ≤ 800) := Lib.hid fun y hy => by
    have := lines_size (s := s) (x := y) (by rw [e1]; exact List.mem_append_left _ hy)
    omega
  have eo : outsB s = xs.map strip := by unfold outsB; rw [e1, List.dropLast_concat]
  have HNO := Lib.hid (fun h => dotGetR_not h8 h)
  have HL := Lib.hid (fun h : x ≠ mk [46] => HNO.out (steps_last (s := s) (by rw [e1]; simpa using h)))
  have HT := Lib.hid (fun h : leftOf s ≠ mk [] => HNO.out (steps_left h))
  have HU := Lib.hid (fun y (hy : y ∈ xs) h => HNO.out (steps_undot (s := s) (x := y) (by rw [e1, List.dropLast_concat]; exact hy) h))
  have HB := Lib.hid (fun h : bodyB (xs.map strip) = false => HNO.out (steps_body (by rw [eo]; exact h)))
  have HY := Lib.hid (fun (h1 : x = mk [46]) (h2 : leftOf s = mk []) (h3 : xs.all undotOk = true) (h4 : bodyB (xs.map strip) = true) => eo ▸ dotGetR_is h8 (steps_yes (by rw [e1, h1]; simp) h2 (by rw [e1, List.dropLast_concat]; exact h3) (by rw [eo]; exact h4)))
  rw [e2, hcat, List.concat_eq_append] at C
  clear hcat e1 e2 eo HNO
  generalize dotGetR s = R at *
  generalize leftOf s = T at *
  go_enter Tryd.func118, Tryd.ntmps118
  go_wp2_with fail
  refine (C.out _ HM.out).mono ?_
  rintro e w1 ⟨a1, c1, rfl, r1, b1⟩
  rw [List.length_append, List.length_singleton] at r1 ⊢
  obtain ⟨g, cap', hv⟩ := ownsRow_succ r1
  injection hv with hv1 hv2 hv3
  subst hv1 hv3
  have hcl := r1.cellAt xs.length (by omega)
  rw [List.map_append, List.getElem?_append_right (by simp), List.length_map, Nat.sub_self] at hcl
  have hcell : w1.cell? ⟨g, xs.length, none⟩ = some (.string x) := hcl
  have hcap : xs.length + 1 ≤ c1 ∧ c1 ≤ maxLen := by
    rcases r1.2 with ⟨e, _⟩ | ⟨g', c', cur, e, _, _, h1, h2, _⟩
    · cases e
    · injection e with _ _ e3
      subst e3
      exact ⟨h1, h2⟩
  unfold maxLen at hcap
  obtain ⟨hcap1, hcap2⟩ := hcap
  have R1 := Lib.hid r1
  have B1 := Lib.hid b1
  have z1 := b1.size
  clear hcl r1 b1
  by_cases hx : x = mk [46]
  · have hx1 : x.toList = [46] := by rw [Lib.toList_data, hx]; rfl
    have HX := Lib.hid hx
    clear hx
    by_cases ht : T = mk []
    · have ht1 : T.toList = [] := by rw [Lib.toList_data, ht]; rfl
      have HT2 := Lib.hid ht
      clear ht
      have ho1 : w1.ownsRow w.heap.size 9 1 (.slice (some ⟨g, 0, none⟩) xs.length c1) xs.length (stripCells xs 0) := by
        rw [stripCells_zero]
        exact ownsRow_pop (last := [.string x]) (by simp) (by simpa using R1.out)
      have HO1 := Lib.hid ho1
      clear ho1
      go_wp2
      go_loopw [38] (fun i wr => ∃ k : Nat, i = .int .i64 k ∧ k ≤ xs.length ∧ Hid ((xs.take k).all undotOk = true) ∧ wr.ownsRow w.heap.size 9 1 (.slice (some ⟨g, 0, none⟩) xs.length c1) xs.length (stripCells xs k) ∧ Below w.heap.size w wr) (fun i _ => xs.length - (intOf i).toNat)
      case atStart => exact ⟨0, rfl, Nat.zero_le _, Lib.hid rfl, HO1.out, B1.out⟩
      case round =>
        obtain ⟨k, rfl, hk, HA, hor, hb⟩ := hrel
        have hsz := hb.size
        have hg := hor.lt g rfl
        by_cases hlt : k < xs.length
        · obtain ⟨y, hy⟩ : ∃ y, xs[k]? = some y := ⟨_, List.getElem?_eq_getElem hlt⟩
          have hcy : wr.cell? ⟨g, k, none⟩ = some (.string y) := (hor.cellAt k (by omega)).trans (stripCells_get hy)
          have hys := HS.out y (List.mem_of_getElem? hy)
          have HC := Lib.hid (stripCells_set hy)
          have HY2 := Lib.hid hy
          clear hy
          cases hu : undotOk y
          · have hq := Lib.hid (HU.out y (List.mem_of_getElem? HY2.out) hu)
            have HU2 := Lib.hid hu
            have HBX := Lib.hid hb
            clear hu hor hb
            go_wp2_with (go_at_call 184; refine (undot_any y _).mono ?_; rintro e w2 ⟨rfl, hb2⟩; rw [HU2.out])
            go_ret2
            exact .nil hq.out (HBX.out.trans (hb2.mono (by omega)))
          · have HA2 := Lib.hid (list_all_succ HY2.out HA.out hu)
            have HU2 := Lib.hid hu
            clear hu
            go_wp2_with (go_at_call 184; refine (undot_any y _).mono ?_; rintro e w2 ⟨rfl, hb2⟩; rw [HU2.out]; have ho2 := own_later hor hb2; have hc2 : w2.cell? ⟨g, k, none⟩ = some (.string y) := (ho2.cellAt k (by omega)).trans (stripCells_get HY2.out); have hf2 := ho2.frozenAt k)
            have hs2 := (ho2.stored k (.string (strip y))).1
            rw [HC.out] at hs2
            have HB3 := Lib.hid ((hb.trans (hb2.mono (by omega))).setCell (p := ⟨g, k, none⟩) hg.1 (.string (strip y)))
            clear hor hb hb2 ho2
            go_roundw
            case rel => exact ⟨k + 1, by go_num, by omega, HA2, hs2, HB3.out⟩
            case measure => simp [intOf]; omega
        · obtain rfl : k = xs.length := by omega
          rw [stripCells_end] at hor
          have HAll := Lib.hid (by have := HA.out; rwa [List.take_length] at this : xs.all undotOk = true)
          have hor2 : wr.ownsRow w.heap.size 9 1 (.slice (some ⟨g, 0, none⟩) xs.length c1) (xs.map strip).length ((xs.map strip).map Value.string) := by rw [List.length_map]; exact hor
          have hl2 : (xs.map strip).length = xs.length := List.length_map _
          have HR3 := Lib.hid (StrRow.of_own (ao := some ⟨g, 0, none⟩) (cap := c1) (xs := xs.map strip) (by rw [List.length_map]; exact hor))
          have HS3 : Hid (∀ y ∈ xs.map strip, y.size ≤ maxLen) := Lib.hid fun y hy => by
            obtain ⟨z, hz, rfl⟩ := List.mem_map.1 hy
            have := strip_size z
            have := HS.out z hz
            unfold maxLen; omega
          have HL3 : Hid ((xs.map strip).length ≤ maxLen) := Lib.hid (by rw [List.length_map]; unfold maxLen; omega)
          have C3 := Lib.hid (fun W h => isBody_any (some ⟨g, 0, none⟩) c1 (xs.map strip) W h HL3.out HS3.out)
          rw [List.length_map] at C3
          have HO := Lib.hid hor
          have HBX := Lib.hid hb
          clear hor hor2 hb HA hl2
          cases hbd : bodyB (xs.map strip)
          · have hq := Lib.hid (HB.out hbd)
            rw [hbd] at C3
            clear hbd
            go_wp2_with fail
            refine (C3.out _ HR3.out).mono ?_
            rintro e w2 ⟨rfl, rfl⟩
            go_wp2_with fail
            go_ret2
            exact .nil hq.out HBX.out
          · have hq := Lib.hid (HY.out HX.out HT2.out HAll.out hbd)
            rw [hbd] at C3
            clear hbd
            go_wp2_with fail
            refine (C3.out _ HR3.out).mono ?_
            rintro e w2 ⟨rfl, rfl⟩
            go_wp2_with fail
            go_ret2
            exact .row hq.out (List.length_map _).symm HO.out HBX.out
    · have hq := Lib.hid (HT.out ht)
      have ht1 : ¬ T.toList = [] := by rw [Lib.toList_data]; intro e; exact ht (mk_eq e)
      have ht2 : (!T.toList.isEmpty) = true := by simpa [List.isEmpty_iff] using ht1
      clear ht
      go_wp2
      go_ret2
      exact .nil hq.out B1.out
  · have hq := Lib.hid (HL.out hx)
    have hx1 : ¬ x.toList = [46] := by rw [Lib.toList_data]; intro e; exact hx (mk_eq e)
    have hx2 : (x.toList == [46]) = false := by rw [beq_eq_false_iff_ne]; exact hx1
    have hx3 : (!x.toList == [46]) = true := by rw [hx2]; rfl
    clear hx
    go_wp2
    go_ret2
    exact .nil hq.out B1.out
end Go.Proofs.YtfacdiimoncnnaaDoor
