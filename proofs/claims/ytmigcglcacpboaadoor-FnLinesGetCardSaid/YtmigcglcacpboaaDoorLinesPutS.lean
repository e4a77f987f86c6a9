/- Contracts: bytes in lines of figures, of the model; the walk of FnExactLinesPut. -/
import Derived.Test.YtmigcglcacpboaaDoorLinesPut
import Derived.Test.YtmigcglcacpboaaDoorSixes
import Derived.Test.YtmigcglcacpboaaDoorBasis
namespace Go.Proofs.YtmigcglcacpboaaDoor
open Go Go.RowKit

/-- The lines so far: the text from fr on is left. -/
def LineInvP (s : ByteArray) (fr : Nat) (D : List ByteArray) : Prop := linesP 40 s = D ++ linesP 40 (s.extract fr s.size) ∧ D.length ≤ fr
theorem linesP_start (s : ByteArray) : LineInvP s 0 [] := by
  refine ⟨?_, Nat.le_refl _⟩
  rw [ByteArray.extract_zero_size]; rfl
theorem linesP_cons {t : ByteArray} (h : 0 < t.size) : linesP 40 t = t.extract 0 40 :: linesP 40 (t.extract 40 t.size) := by
  have h0 : t.data.toList ≠ [] := by
    intro e; have := congrArg List.length e; rw [← Lib.size_eq, List.length_nil] at this; omega
  unfold linesP
  rw [chunks_step (by decide) h0, List.map_cons, Lib.extract_to_end]
  congr 1
  have : (t.extract 0 40).data.toList = t.data.toList.take 40 := by rw [extract_data, List.drop_zero]
  rw [← this]
theorem linesP_step {s : ByteArray} {fr : Nat} {D : List ByteArray} (h : LineInvP s fr D) (hi : fr + 40 < s.size) : LineInvP s (fr + 40) (D ++ [s.extract fr (fr + 40)]) := by
  obtain ⟨h1, h2⟩ := h
  have hz : (s.extract fr s.size).size = s.size - fr := by rw [ByteArray.size_extract]; omega
  refine ⟨?_, by rw [List.length_append, List.length_singleton]; omega⟩
  rw [h1, linesP_cons (by omega), List.append_assoc]
  have e1 : (s.extract fr s.size).extract 0 40 = s.extract fr (fr + 40) := by rw [ByteArray.extract_extract]; congr 1; omega
  have e2 : (s.extract fr s.size).extract 40 (s.extract fr s.size).size = s.extract (fr + 40) s.size := by rw [hz, ByteArray.extract_extract]; congr 1; omega
  rw [e1, e2]; rfl
theorem linesP_last {s : ByteArray} {fr : Nat} {D : List ByteArray} (h : LineInvP s fr D) (hlt : fr < s.size) (hi : s.size ≤ fr + 40) : D ++ [s.extract fr s.size] = linesP 40 s := by
  have hz : (s.extract fr s.size).size = s.size - fr := by rw [ByteArray.size_extract]; omega
  rw [h.1, linesP_cons (by omega)]
  have e1 : (s.extract fr s.size).extract 0 40 = s.extract fr s.size := by rw [ByteArray.extract_extract]; congr 1; omega
  have e2 : linesP 40 ((s.extract fr s.size).extract 40 (s.extract fr s.size).size) = [] := by
    unfold linesP
    rw [Lib.extract_to_end, List.drop_of_length_le (by rw [← Lib.size_eq]; omega), chunks_nil]; rfl
  rw [e1, e2]
theorem linesP_done {s : ByteArray} {fr : Nat} {D : List ByteArray} (h : LineInvP s fr D) (hi : s.size ≤ fr) : D = linesP 40 s := by
  rw [h.1]
  unfold linesP
  rw [Lib.extract_to_end, List.drop_of_length_le (by rw [← Lib.size_eq]; omega), chunks_nil]
  simp
def sizeOfL : Value → Nat
  | .string s => s.size
  | _ => 0

set_option maxHeartbeats 2000000 in
set_option maxRecDepth 100000 in
theorem specLinesPut_any (s : ByteArray) (w : World) (hs : s.size ≤ maxLen) :
    Calls Tryd.prog 20 #[.string s] w (RowsPost w (linesPutB s)) := by
  obtain ⟨i0, hi, hz0, hz1, hz2⟩ := info_parts infoS
  unfold maxLen at hs
  by_cases h240 : 240 < s.size
  · have hm : Hid (linesPutB s = []) := Lib.hid (by
      unfold linesPutB codePutB; rw [if_neg (by omega)]
      unfold linesP; rw [show ({ data := #[] } : ByteArray).data.toList = [] from rfl, chunks_nil]; rfl)
    go_enter Tryd.func20, Tryd.ntmps20
    go_wp2
    go_ret
    exact ⟨none, 0, by rw [hm.out]; rfl, by rw [hm.out]; exact World.ownsRow_nil _ _ _ _, Below.refl _ _⟩
  · obtain ⟨t, ht⟩ : ∃ t : ByteArray, t = ⟨(codeL s.data.toList).toArray⟩ := ⟨_, rfl⟩
    have HE : Hid (linesPutB s = linesP 40 t) := Lib.hid (by unfold linesPutB codePutB; rw [if_pos (by omega), ht])
    have C := Lib.hid (fun W => l11Sixes_any s W (by omega))
    rw [← ht] at C
    have htz : t.size ≤ 320 := by
      have : t.size = (codeL s.data.toList).length := by rw [ht]; rfl
      rw [this, codeL_length, show s.data.toList.length = s.size by simp]; omega
    clear ht
    go_enter Tryd.func20, Tryd.ntmps20
    go_wp2_with fail
    refine (C.out _).mono ?_
    rintro e w1 ⟨rfl, b1⟩
    have B1 := Lib.hid b1
    have hz1' := b1.size
    have O1 := Lib.hid (World.ownsRow_made (base := w.heap.size) (e := 9) (size := 1) w1 #[] 0 hz1' (by unfold maxLen; omega) rfl)
    have B2 := Lib.hid (b1.alloc hz1' (.cells #[] 9))
    clear b1 C B1
    go_wp2_with fail
    go_loopw [3, 4] (fun p o wr => ∃ (fr : Nat) (D : List ByteArray), p = .string (t.extract fr t.size) ∧ fr ≤ t.size ∧ D.length ≤ 320 ∧ Hid (LineInvP t fr D) ∧ wr.ownsRow w.heap.size 9 1 o D.length (D.map Value.string) ∧ Hid (Below w.heap.size w wr)) (fun p _ _ => sizeOfL p)
    case atStart => exact ⟨0, [], by rw [ByteArray.extract_zero_size], Nat.zero_le _, Nat.zero_le _, Lib.hid (linesP_start t), O1.out, B2⟩
    case round =>
      obtain ⟨fr, D, rfl, hfr, hD, HL, hown, HB⟩ := hrel
      obtain ⟨ao, cap, rfl⟩ := shape_own hown
      clear O1 B2
      have hsz := HB.out.size
      have hz : (t.extract fr t.size).size = t.size - fr := by rw [ByteArray.size_extract]; omega
      obtain ⟨r, hr⟩ : ∃ r, r = t.extract fr t.size := ⟨_, rfl⟩
      rw [← hr] at hz ⊢
      have HR := Lib.hid hr
      have HZ := Lib.hid hz
      clear hr
      by_cases hlt : 40 < r.size
      · have HL2 := Lib.hid (linesP_step HL.out (by omega))
        have e1 : r.extract 0 40 = t.extract fr (fr + 40) := by rw [HR.out, ByteArray.extract_extract]; congr 1; omega
        have E2 := Lib.hid (show r.extract 40 r.size = t.extract (fr + 40) t.size by rw [hz, HR.out, ByteArray.extract_extract]; congr 1; omega)
        have E1 := Lib.hid e1
        have hc1 : (40 : Int) ≤ (r.size : Int) := by omega
        have hc2 : 40 ≤ r.size := by omega
        have HI := Lib.hid (show fr + 40 ≤ t.size ∧ D.length + 1 ≤ 320 from ⟨by omega, by have := HL2.out.2; rw [List.length_append, List.length_singleton] at this; omega⟩)
        clear hz e1
        go_wp2_with (at_builtin; refine wpList_append_own _ rfl _ _ 28 rfl w.heap.size 9 i0 (.string ByteArray.empty) 1 16 Tryd.underlying28 hi hz0 hz1 hz2 rfl (by decide) _ _ _ rfl (hown.alloc _) ⟨wr.heap.size, 0, none⟩ 1 1 [.string (r.extract 0 40)] rfl rfl (cell_one_new _ _ _) ?c2 ?c3 ?c4 ?c5 ?_)
        case c2 => intro u hu; rw [List.mem_singleton.1 hu]; rfl
        case c3 => unfold maxLen; omega
        case c4 => omega
        case c5 => first | (simp; omega) | omega
        intro v' w3 hown' hgrow _
        have HB3 := Lib.hid (below_app (o := .cells #[.string (r.extract 0 40)] 9) HB.out hsz hown hgrow)
        have ho1 := snoc_own hown'
        clear hown hown' hgrow HB
        go_wp2
        go_roundw
        case rel => exact ⟨fr + 40, D ++ [r.extract 0 40], by rw [E2.out], HI.out.1, by rw [List.length_append, List.length_singleton]; exact HI.out.2, Lib.hid (by rw [E1.out]; exact HL2.out), ho1, HB3⟩
        case measure =>
          show (r.extract 40 r.size).size < r.size
          rw [ByteArray.size_extract]; omega
      · by_cases h0 : r.size = 0
        · have hne : r.toList = [] := by
            rw [Lib.toList_data]; exact List.eq_nil_of_length_eq_zero (by rw [← Lib.size_eq]; exact h0)
          have hne2 : (!r.toList.isEmpty) = false := by simpa [List.isEmpty_iff] using hne
          have HD := Lib.hid (linesP_done HL.out (by omega))
          clear HL
          go_wp2
          go_ret
          exact ⟨ao, cap, by rw [HE.out, ← HD.out]; rfl, by rw [HE.out, ← HD.out]; exact hown, HB.out⟩
        · have hne : ¬ r.toList = [] := by
            rw [Lib.toList_data]; intro e
            have := congrArg List.length e
            rw [← Lib.size_eq, List.length_nil] at this; omega
          have hne2 : (!r.toList.isEmpty) = true := by simpa [List.isEmpty_iff] using hne
          have HD := Lib.hid (linesP_last HL.out (by omega) (by omega))
          rw [← HR.out] at HD
          clear HL hz
          go_wp2_with (at_builtin; refine wpList_append_own _ rfl _ _ 28 rfl w.heap.size 9 i0 (.string ByteArray.empty) 1 16 Tryd.underlying28 hi hz0 hz1 hz2 rfl (by decide) _ _ _ rfl (hown.alloc _) ⟨wr.heap.size, 0, none⟩ 1 1 [.string r] rfl rfl (cell_one_new _ _ _) ?c2 ?c3 ?c4 ?c5 ?_)
          case c2 => intro u hu; rw [List.mem_singleton.1 hu]; rfl
          case c3 => unfold maxLen; omega
          case c4 => omega
          case c5 => first | (simp; omega) | omega
          intro v' w3 hown' hgrow _
          have HB3 := Lib.hid (below_app (o := .cells #[.string r] 9) HB.out hsz hown hgrow)
          have ho1 := snoc_own hown'
          clear hown hown' hgrow HB
          obtain ⟨a3, c3, rfl⟩ := shape_own ho1
          have HO1 := Lib.hid ho1
          clear ho1
          go_wp2
          go_ret
          exact ⟨a3, c3, by rw [HE.out, ← HD.out]; first | rfl | simp, by rw [HE.out, ← HD.out]; exact HO1.out, HB3.out⟩

theorem linesPutB_len (s : ByteArray) : (linesPutB s).length ≤ 320 := by
  have h1 := linesP_length (m := 40) (by decide) (codePutB s)
  have h2 : (codePutB s).size ≤ 320 := by
    by_cases h : s.size ≤ 240
    · rw [codePutB_size h]; omega
    · unfold codePutB; rw [if_neg h]; exact Nat.zero_le _
  unfold linesPutB; omega

set_option maxHeartbeats 1600000 in
set_option maxRecDepth 100000 in
theorem wFnExactLinesPut.walk (s : ByteArray) (w : World) (hs : s.size ≤ maxLen) (hf : FigCell w) :
    Calls Tryd.prog 9 #[.string s] w fun e w' => e = .returned (.bool true) ∧ Below w.heap.size w w' := by
  have hs' := hs
  unfold maxLen at hs
  have HM := Lib.hid hf
  clear hf
  by_cases hbig : 1048576 < s.size
  · go_enter Tryd.func9, Tryd.ntmps9
    go_wp2
    go_ret
    exact ⟨rfl, Below.refl _ _⟩
  have hlr := linesPutB_len s
  have C1 := Lib.hid (fun W => specLinesPut_any s W hs')
  have C2 := Lib.hid (fun W hW => implLinesPut_any s W hs' hW)
  generalize linesPutB s = R at hlr C1 C2
  go_enter Tryd.func9, Tryd.ntmps9
  go_wp2_with fail
  refine (C1.out _).mono ?_
  rintro e w1 ⟨a1, c1, rfl, r1, b1⟩
  have R1 : Hid (Row w1 w.heap.size a1 c1 R) := Lib.hid r1
  have z1 := b1.size
  clear r1
  go_wp2_with fail
  refine (C2.out _ (HM.out.below b1 (.inl (Nat.le_refl _)))).mono ?_
  rintro e w2 ⟨a2, c2, rfl, r2, b2⟩
  have R2 : Hid (Row w2 w1.heap.size a2 c2 R) := Lib.hid r2
  have z2 := b2.size
  have N12 := Lib.hid (R1.out.ne r2 (Nat.le_refl _))
  have R12 := Lib.hid (R1.out.later b2)
  have B2 := b1.trans (b2.mono b1.size)
  clear r2 b1 b2
  go_wp2_with fail
  refine (eqStringS_same a2 a1 c2 c1 R _ R2.out.strs R12.out.strs (by omega)).mono ?_
  rintro e w3 ⟨rfl, n3, rfl⟩
  have b3 := below_drewN w2.heap.size w2 n3
  have z3 := b3.size
  have R13 := Lib.hid (R12.out.later b3)
  have R23 := Lib.hid (R2.out.later b3)
  have B3 := B2.trans (b3.mono B2.size)
  clear b3
  go_wp2_with fail
  refine (markStringS_own w1.heap.size c2 1 a2 R _ R23.out (by omega) (by omega)).mono ?_
  rintro e w4 ⟨rfl, r4, g4⟩
  have z4 := g4.size
  have R24 := Lib.hid r4
  have R14 := Lib.hid (R13.out.other g4 N12.out.1)
  have B4 := B3.trans (below_grown R23.out g4 (by omega) B3.size)
  clear r4 g4
  go_wp2_with fail
  refine (heldStringS_own a2 c2 1 R.length _ R24.out.strs (by omega)).mono ?_
  rintro e w5 ⟨rfl, b5⟩
  have z5 := b5.size
  have R25 := Lib.hid (R24.out.later b5)
  have R15 := Lib.hid (R14.out.later b5)
  have B5 := B4.trans (b5.mono B4.size)
  clear b5
  go_wp2_with fail
  refine (C2.out _ (HM.out.below B5 (.inl (Nat.le_refl _)))).mono ?_
  rintro e w6 ⟨a6, c6, rfl, r6, b6⟩
  have R6 : Hid (Row w6 w5.heap.size a6 c6 R) := Lib.hid r6
  have R26 := Lib.hid (R25.out.later b6)
  have R16 := Lib.hid (R15.out.later b6)
  have B6 := B5.trans (b6.mono B5.size)
  clear r6 b6
  go_wp2_with fail
  refine (eqStringS_same a6 a1 c6 c1 R _ R6.out.strs R16.out.strs (by omega)).mono ?_
  rintro e w7 ⟨rfl, n7, rfl⟩
  have b7 := below_drewN w6.heap.size w6 n7
  have R27 := Lib.hid (R26.out.later b7)
  have B7 := B6.trans (b7.mono B6.size)
  clear b7
  go_wp2_with fail
  refine (heldStringS_own a2 c2 1 R.length _ R27.out.strs (by omega)).mono ?_
  rintro e w8 ⟨rfl, b8⟩
  have B8 := B7.trans (b8.mono B7.size)
  clear b8
  go_wp2
  go_ret
  exact ⟨rfl, B8⟩
end Go.Proofs.YtmigcglcacpboaaDoor
