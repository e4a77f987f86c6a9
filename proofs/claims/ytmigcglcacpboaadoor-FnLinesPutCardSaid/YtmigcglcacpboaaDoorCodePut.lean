/- Contracts: bytes in figures of base 64, of the program. -/
import Derived.Test.YtmigcglcacpboaaDoorFigsPut
import Derived.Test.YtmigcglcacpboaaDoorBuildK
namespace Go.Proofs.YtmigcglcacpboaaDoor
open Go Go.RowKit Go.Shelf
attribute [local go_sem] Oper.semAt_some

/-- What has been written of the groups so far. -/
def figsOf {m : Nat} (pre : List (Piece m)) : List UInt8 := (datas pre).flatMap figs3
theorem figsOf_snoc {m : Nat} (pre : List (Piece m)) (x : Piece m) : figsOf (pre ++ [x]) = figsOf pre ++ figs3 x.val.data.toList := by
  unfold figsOf; rw [datas_snoc, List.flatMap_append]; simp
theorem figsOf_length {m : Nat} (hm : m ≤ 3) (pre : List (Piece m)) : (figsOf pre).length = 4 * pre.length := by
  induction pre with
  | nil => rfl
  | cons x l ih =>
    have e : figsOf (x :: l) = figs3 x.val.data.toList ++ figsOf l := by unfold figsOf datas; rw [List.map_cons, List.flatMap_cons]
    have := x.2.2
    rw [e, List.length_append, ih, figs3_length (by rw [← Lib.size_eq]; omega), List.length_cons]; omega

theorem ret_cp {a b : ByteArray} (h : a = b) : Ending.returned (.string a) = .returned (.string b) := by rw [h]

set_option maxRecDepth 100000 in
set_option maxHeartbeats 2000000 in
theorem implCodePut_in (s : ByteArray) (h240 : ¬ 240 < s.size) (w : World) (hf : FigCell w) :
    CallsIn Fence.wide 5 Tryd.prog 12 #[.string s] w fun e w' => e = .returned (.string ⟨(codeL s.data.toList).toArray⟩) ∧ Below w.heap.size w w' := by
  have HF := Lib.hid hf
  have hb8 : decide ((240 : Int) < (s.size : Int)) = false := decide_eq_false (by omega)
  clear hf
  refine callsIn_of_wp_marks Tryd.func12 rfl trivial ?_ rfl
  simp only [Tryd.ntmps12, List.size_toArray, List.length_cons, List.length_nil, Nat.reduceAdd, Nat.reduceSub, Array.replicate_succ, Array.replicate_zero, List.push_toArray, List.append_toArray, List.nil_append, List.cons_append]
  gi_wp2
  refine ⟨trivial, ?_⟩
  refine (callsIn_wide.2 (groups_any s 3 _)).mono ?_
  rintro e w' ⟨rfl, rfl⟩
  gi_wp2
  have H0 := freshS w
  have bS := Boxed.new (w.alloc (.cells #[.pointer none, .slice none 0 0] 48)) 9 (.string s)
  have bZ := Boxed.new ((w.alloc (.cells #[.pointer none, .slice none 0 0] 48)).alloc (.cells #[.string s] 9)) 3 (.int .i64 (3 : Nat))
  rw [World.size_alloc] at bS
  rw [World.size_alloc, World.size_alloc] at bZ
  have hB0 : Below w.heap.size w (((w.alloc (.cells #[.pointer none, .slice none 0 0] 48)).alloc (.cells #[.string s] 9)).alloc (.cells #[.int .i64 (3 : Nat)] 3)) := (((Below.refl _ w).alloc (Nat.le_refl _) _).alloc (by simp) _).alloc (by simp; omega) _
  refine wpIn_rangeFunc_ownG rfl (by omega) (gf := 50) (lb := #[.pointer (some ⟨w.heap.size + 1, 0, none⟩), .pointer (some ⟨w.heap.size + 1 + 1, 0, none⟩)]) rfl trivial enters_groups
    (groups_stops (w.heap.size + 1) (w.heap.size + 1 + 1) 3 s (by omega) (by omega) _ (by simp) (by simp) ((bS.alloc _).cell) bZ.cell) keepsCell_t (fun W l o o' hl h hc hw => keepsCell_b W l o o' hl h hc hw) (Below.refl _ _) (fun _ => rfl)
    (fun pre W => (HoldsS w.heap.size w.heap.size (figsOf pre) W ∧ Boxed W (w.heap.size + 1 + 1) 3 (.int .i64 (3 : Nat))) ∧ Below w.heap.size w W)
    (fun _ _ _ => False)
    (OwnFrom.and (OwnFrom.and (Own.from (holdsS_own w.heap.size w.heap.size (fun pre : List (Piece 3) => figsOf pre)) _) (Own.from (boxed_own (w.heap.size + 1 + 1) 3 (fun _ : List (Piece 3) => .int .i64 (3 : Nat))) _)) (ownFrom_below (Nat.le_refl _) (by simp; omega)))
    (fun _ _ _ _ _ hs _ _ => hs)
    ⟨⟨(H0.later ((Below.refl _ _).alloc (Nat.le_refl _) _)).later ((Below.refl _ _).alloc (Nat.le_refl _) _), bZ⟩, hB0⟩
    (fun x => { tmps := #[.string s, undef, .string { data := #[] }, .pointer (some ⟨w.heap.size, 0, none⟩), .string x.val, .string s, .int .i64 s.size, .bool false, .string s, .func (.func 50) #[] #[.pointer (some ⟨w.heap.size + 1, 0, none⟩), .pointer (some ⟨w.heap.size + 1 + 1, 0, none⟩)], .string x.val, undef, undef, undef, undef], defers := [] }) ?assign ?body ?done ?stop
  case assign =>
    intro l x W K hK
    gi_wp2
    exact hK
  case body =>
    rintro l pre x W ⟨⟨hO, hZ⟩, hB⟩ hlt
    have hsz := hB.size
    have HO := Lib.hid hO
    have HZ := Lib.hid hZ
    have HB := Lib.hid hB
    have CP := Lib.hid (figuresPut_any x.val W (HF.out.below hB (.inl (Nat.le_refl _))) x.2.1 x.2.2)
    have HL := Lib.hid (figsOf_length (Nat.le_refl _) pre)
    have HN := Lib.hid (figsOf_snoc pre x)
    have hg4 : (⟨(figs3 x.val.data.toList).toArray⟩ : ByteArray).size = 4 := by
      show (figs3 x.val.data.toList).length = 4
      exact figs3_length (by rw [← Lib.size_eq]; exact x.2.2)
    have HG4 := Lib.hid hg4
    obtain ⟨t, ht⟩ : ∃ t : ByteArray, t = ⟨(figs3 x.val.data.toList).toArray⟩ := ⟨_, rfl⟩
    have HT := Lib.hid (show t.data.toList = figs3 x.val.data.toList by rw [ht])
    rw [← ht] at CP HG4
    clear hO hZ hB hg4 ht
    gi_wp2_with fail
    refine ⟨trivial, ?_⟩
    refine (CallsIn.inRound l (callsIn_wide.2 CP.out)).mono ?_
    rintro e W1 ⟨rfl, b1⟩
    have HB1 := Lib.hid (HB.out.trans (b1.mono hsz))
    have HO1 := Lib.hid (HO.out.later b1)
    have HZ1 := Lib.hid (show Boxed W1 _ _ _ from (b1.block _ HZ.out.lt).trans HZ.out)
    have hsz1 := HB1.out.size
    gi_wp2_with fail
    refine ⟨trivial, ?_⟩
    refine (CallsIn.inRound l (callsIn_wide.2 (writeStringK_any w.heap.size w.heap.size _ t W1 HO1.out (by rw [HL.out, HG4.out]; omega) (by omega)))).mono ?_
    rintro e W2 ⟨rfl, h2, b2, k2, t2⟩
    have HZ2 := t2.box HZ1.out (by omega) (by decide)
    gi_wp2
    refine ⟨?_, ?_, ⟨?_, HZ2⟩, HB1.out.trans b2⟩
    · exact KeepsFrom.trans ⟨b1.size, fun k o _ hk _ => (b1.block k (Array.getElem?_eq_some_iff.1 hk).1).trans hk⟩ (k2.from _)
    · exact KeepsCell.of_box HZ.out HZ2
    · rw [HN.out, ← HT.out]; exact h2
  case done =>
    rintro D ys W hD hys ⟨⟨hO, _⟩, hB⟩ hK
    have hsz := hB.size
    have HE : Hid (figsOf ys = codeL s.data.toList) := Lib.hid (by unfold figsOf codeL; rw [hys])
    have hO2 : Lib.IsBuilderF 48 5 w.heap.size w.heap.size (Lib.byteCells (codeL s.data.toList)) W := by
      have := Lib.IsBuilderF.of hO
      rw [HE.out] at this; exact this
    have CS := Lib.hid (Tryd.Builder_String_any_k w.heap.size w.heap.size (codeL s.data.toList) W hO2 (by omega))
    have HB := Lib.hid hB
    have HK := Lib.hid hK
    clear hO hO2 hys hB hK
    obtain ⟨out, hout⟩ : ∃ out, out = codeL s.data.toList := ⟨_, rfl⟩
    have HOUT := Lib.hid hout
    rw [← hout] at CS
    clear hout HE
    gi_wp2
    refine ⟨trivial, ?_⟩
    refine (callsIn_wide.2 CS.out).mono ?_
    rintro e W2 ⟨rfl, _, b2, o2⟩
    gi_wp2
    have hK2 := o2 D _ HK.out (by simp at hD ⊢; omega) (fun _ _ e => by cases e)
    refine ⟨by simp, .inl ⟨_, _, rfl, run_takeDeferred (w := W2) hK2, ?_⟩⟩
    refine ⟨_, results_tmp rfl _ _ _, ?_, ?_⟩
    · exact ret_cp (by rw [HOUT.out])
    · exact (HB.out.trans b2).trans (belowK_b (w := w) (Nat.le_refl _) W2 D _ _ (by simp at hD; omega) hK2 rfl rfl)
  case stop =>
    rintro D c pre W _ _ h _
    exact h.elim

theorem implCodePut_any (s : ByteArray) (w : World) (hs : s.size ≤ maxLen) (hf : FigCell w) :
    Calls Tryd.prog 12 #[.string s] w fun e w' => e = .returned (.string (codePutB s)) ∧ Below w.heap.size w w' := by
  unfold maxLen at hs
  by_cases h : 240 < s.size
  · have hm : Hid (codePutB s = { data := #[] }) := Lib.hid (by unfold codePutB; rw [if_neg (by omega)])
    go_enter Tryd.func12, Tryd.ntmps12
    go_wp2
    go_ret
    exact ⟨ret_cp hm.out.symm, Below.refl _ _⟩
  · have hm : codePutB s = ⟨(codeL s.data.toList).toArray⟩ := by unfold codePutB; rw [if_pos (by omega)]
    rw [hm]
    exact callsIn_wide.1 (implCodePut_in s h w hf)
end Go.Proofs.YtmigcglcacpboaaDoor
