/- Contracts: figures of base 64 read, by the program. -/
import Derived.Test.YtmigcglcacpboaaDoorFigsGet
import Derived.Test.YtmigcglcacpboaaDoorCodePut
namespace Go.Proofs.YtmigcglcacpboaaDoor
open Go Go.RowKit Go.Shelf
attribute [local go_sem] Oper.semAt_some

theorem builderF_later {B b : Nat} {l : List UInt8} {w w' : World} (h : Lib.IsBuilderF 48 5 B b (Lib.byteCells l) w) (hb : Below w.heap.size w w') : Lib.IsBuilderF 48 5 B b (Lib.byteCells l) w' := by
  have key : ∀ {p : Value}, Lib.BuilderAtF 48 5 B b p (Lib.byteCells l) w → Lib.BuilderAtF 48 5 B b p (Lib.byteCells l) w' := by
    rintro p ⟨hB, v, hbk, hown, hne⟩
    have hlt : b < w.heap.size := (Array.getElem?_eq_some_iff.1 hbk).1
    exact ⟨hB, v, (hb.block b hlt).trans hbk, World.ownsRowF.kept (row := none) hown ⟨hb.os, hb.tape, hb.output, hb.size, fun k hk _ => hb.block k hk⟩ (by cases v.ownBlock <;> simp), hne⟩
  exact h.imp key key

/-- What has been read of the groups so far. -/
def readOf (pre : List (Piece 4)) : List UInt8 := pre.flatMap fun x => readG x.val
theorem readOf_snoc (pre : List (Piece 4)) (x : Piece 4) : readOf (pre ++ [x]) = readOf pre ++ readG x.val := by unfold readOf; rw [List.flatMap_append]; simp
theorem readOf_length (pre : List (Piece 4)) : (readOf pre).length ≤ 3 * pre.length := by
  induction pre with
  | nil => exact Nat.zero_le _
  | cons x l ih =>
    have e : readOf (x :: l) = readG x.val ++ readOf l := rfl
    have := readG_length x.val
    rw [e, List.length_append, List.length_cons]; omega
theorem readOf_code : ∀ (n : Nat) (u : List UInt8) (ys : List (Piece 4)), u.length ≤ n → datas ys = chunks 4 (codeL u) → readOf ys = u
  | 0, u, ys, hu, h => by
    obtain rfl : u = [] := List.eq_nil_of_length_eq_zero (by omega)
    rw [codeL_nil, chunks_nil] at h
    cases ys with
    | nil => rfl
    | cons y l => cases h
  | n + 1, u, ys, hu, h => by
    by_cases h0 : u = []
    · subst h0
      rw [codeL_nil, chunks_nil] at h
      cases ys with
      | nil => rfl
      | cons y l => cases h
    · have hp := List.length_pos_iff.2 h0
      have h3 : (u.take 3).length ≤ 3 := by rw [List.length_take]; omega
      have h1 : 1 ≤ (u.take 3).length := by rw [List.length_take]; omega
      rw [codeL_step h0, chunks_cons (by decide) (figs3_length h3)] at h
      cases ys with
      | nil => cases h
      | cons y l =>
        have e : datas (y :: l) = y.val.data.toList :: datas l := rfl
        rw [e] at h
        injection h with e1 e2
        have r1 := readG_figs h1 h3 e1
        have r2 := readOf_code n (u.drop 3) l (by rw [List.length_drop]; omega) e2
        have e3 : readOf (y :: l) = readG y.val ++ readOf l := rfl
        rw [e3, r1, r2, List.take_append_drop]
theorem readOf_nil {ys : List (Piece 4)} (h : datas ys = chunks 4 ([] : List UInt8)) : readOf ys = [] := by
  rw [chunks_nil] at h
  cases ys with
  | nil => rfl
  | cons y l => cases h

theorem ne_toListc {a b : ByteArray} (h : a ≠ b) : (a.toList == b.toList) = false := by
  rw [beq_eq_false_iff_ne]; intro e; apply h
  rw [Lib.toList_data, Lib.toList_data] at e
  cases a; cases b; simp_all

set_option maxRecDepth 100000 in
set_option maxHeartbeats 4000000 in
theorem implCodeGet_in (s : ByteArray) (hs : s.size ≤ 1048576) (w : World) (hf : FigCell w) :
    CallsIn Fence.wide 5 Tryd.prog 14 #[.string s] w fun e w' => e = .returned (.tuple #[.string (codeGetB s).1, .bool (codeGetB s).2]) ∧ Below w.heap.size w w' := by
  have HF := Lib.hid hf
  clear hf
  refine callsIn_of_wp_marks Tryd.func14 rfl trivial ?_ rfl
  simp only [Tryd.ntmps14, List.size_toArray, List.length_cons, List.length_nil, Nat.reduceAdd, Nat.reduceSub, Array.replicate_succ, Array.replicate_zero, List.push_toArray, List.append_toArray, List.nil_append, List.cons_append]
  gi_wp2
  refine ⟨trivial, ?_⟩
  refine (callsIn_wide.2 (groups_any s 4 _)).mono ?_
  rintro e w' ⟨rfl, rfl⟩
  gi_wp2
  have H0 := freshS w
  have bS := Boxed.new (w.alloc (.cells #[.pointer none, .slice none 0 0] 48)) 9 (.string s)
  have bZ := Boxed.new ((w.alloc (.cells #[.pointer none, .slice none 0 0] 48)).alloc (.cells #[.string s] 9)) 3 (.int .i64 (4 : Nat))
  rw [World.size_alloc] at bS
  rw [World.size_alloc, World.size_alloc] at bZ
  have hB0 : Below w.heap.size w (((w.alloc (.cells #[.pointer none, .slice none 0 0] 48)).alloc (.cells #[.string s] 9)).alloc (.cells #[.int .i64 (4 : Nat)] 3)) := (((Below.refl _ w).alloc (Nat.le_refl _) _).alloc (by simp) _).alloc (by simp; omega) _
  refine wpIn_rangeFunc_ownG rfl (by omega) (gf := 50) (lb := #[.pointer (some ⟨w.heap.size + 1, 0, none⟩), .pointer (some ⟨w.heap.size + 1 + 1, 0, none⟩)]) rfl trivial enters_groups
    (groups_stops (w.heap.size + 1) (w.heap.size + 1 + 1) 4 s (by omega) (by omega) _ (by simp) (by simp) ((bS.alloc _).cell) bZ.cell) keepsCell_t (fun W l o o' hl h hc hw => keepsCell_b W l o o' hl h hc hw) (Below.refl _ _) (fun _ => rfl)
    (fun pre W => (HoldsS w.heap.size w.heap.size (readOf pre) W ∧ Boxed W (w.heap.size + 1 + 1) 3 (.int .i64 (4 : Nat))) ∧ Below w.heap.size w W)
    (fun _ _ _ => False)
    (OwnFrom.and (OwnFrom.and (Own.from (holdsS_own w.heap.size w.heap.size (fun pre : List (Piece 4) => readOf pre)) _) (Own.from (boxed_own (w.heap.size + 1 + 1) 3 (fun _ : List (Piece 4) => .int .i64 (4 : Nat))) _)) (ownFrom_below (Nat.le_refl _) (by simp; omega)))
    (fun _ _ _ _ _ hs _ _ => hs)
    ⟨⟨(H0.later ((Below.refl _ _).alloc (Nat.le_refl _) _)).later ((Below.refl _ _).alloc (Nat.le_refl _) _), bZ⟩, hB0⟩
    (fun x => { tmps := #[.string s, undef, .string { data := #[] }, .bool false, .pointer (some ⟨w.heap.size, 0, none⟩), .string x.val, .string s, .func (.func 50) #[] #[.pointer (some ⟨w.heap.size + 1, 0, none⟩), .pointer (some ⟨w.heap.size + 1 + 1, 0, none⟩)], .string x.val, undef, undef, undef, undef, undef, undef, undef, undef], defers := [] }) ?assign ?body ?done ?stop
  case assign =>
    intro l x W K hK
    gi_wp2
    exact hK
  case body =>
    rintro l pre x W ⟨⟨hO, hZ⟩, hB⟩ hlt
    have hsz := hB.size
    have HO := Lib.hid hO
    have HZ := Lib.hid hZ
    have HB := Lib.hid hB
    have CP := Lib.hid (figuresGet_any x.val W (HF.out.below hB (.inl (Nat.le_refl _))) x.2.2)
    have HL := Lib.hid (readOf_length pre)
    have HN := Lib.hid (readOf_snoc pre x)
    have HG3 := Lib.hid (readG_length x.val)
    obtain ⟨t, ht⟩ : ∃ t : ByteArray, t = ⟨(readG x.val).toArray⟩ := ⟨_, rfl⟩
    have HT := Lib.hid (show t.data.toList = readG x.val by rw [ht])
    have HTZ := Lib.hid (show t.size = (readG x.val).length by rw [ht]; rfl)
    rw [← ht] at CP
    clear hO hZ hB ht
    gi_wp2_with fail
    refine ⟨trivial, ?_⟩
    refine (CallsIn.inRound l (callsIn_wide.2 CP.out)).mono ?_
    rintro e W1 ⟨rfl, b1⟩
    have HB1 := Lib.hid (HB.out.trans (b1.mono hsz))
    have HO1 := Lib.hid (HO.out.later b1)
    have HZ1 := Lib.hid (show Boxed W1 _ _ _ from (b1.block _ HZ.out.lt).trans HZ.out)
    have hsz1 := HB1.out.size
    gi_wp2_with fail
    refine ⟨trivial, ?_⟩
    refine (CallsIn.inRound l (callsIn_wide.2 (writeStringK_any w.heap.size w.heap.size _ t W1 HO1.out (by have := HL.out; have := HG3.out; have := HTZ.out; omega) (by omega)))).mono ?_
    rintro e W2 ⟨rfl, h2, b2, k2, t2⟩
    have HZ2 := t2.box HZ1.out (by omega) (by decide)
    gi_wp2
    refine ⟨?_, ?_, ⟨?_, HZ2⟩, HB1.out.trans b2⟩
    · exact KeepsFrom.trans ⟨b1.size, fun k o _ hk _ => (b1.block k (Array.getElem?_eq_some_iff.1 hk).1).trans hk⟩ (k2.from _)
    · exact KeepsCell.of_box HZ.out HZ2
    · rw [HN.out, ← HT.out]; exact h2
  case done =>
    rintro D ys W hD hys ⟨⟨hO, _⟩, hB⟩ hK
    have hsz := hB.size
    have hlen : (readOf ys).length ≤ 3 * s.size := by
      have h1 := readOf_length ys
      have h2 : (datas ys).length = ys.length := by unfold datas; rw [List.length_map]
      have h3 : (chunks 4 s.data.toList).length ≤ s.size := by rw [Lib.size_eq]; exact chunks_length (by decide) _
      rw [← hys, h2] at h3
      omega
    have HCODE : Hid (∀ u : ByteArray, u.size ≤ 240 → s = codePutB u → readOf ys = u.data.toList) := Lib.hid (fun u hu e => by
      refine readOf_code u.data.toList.length _ ys (Nat.le_refl _) ?_
      rw [hys, e, codePutB_data hu])
    have HNIL : Hid (s.size = 0 → readOf ys = []) := Lib.hid (fun e => by
      refine readOf_nil ?_
      rw [hys, show s.data.toList = [] from List.eq_nil_of_length_eq_zero (by rw [← Lib.size_eq]; exact e)])
    have hO2 : Lib.IsBuilderF 48 5 w.heap.size w.heap.size (Lib.byteCells (readOf ys)) W := Lib.IsBuilderF.of hO
    generalize readOf ys = out at *
    have CS := Lib.hid (fun W h hW => Tryd.Builder_String_any_k w.heap.size w.heap.size out W h hW)
    obtain ⟨t, ht⟩ : ∃ t : ByteArray, t = ⟨out.toArray⟩ := ⟨_, rfl⟩
    have hto : t.data.toList = out := by rw [ht]
    have hts : t.size = out.length := by rw [ht]; rfl
    have HT := Lib.hid hto
    have HTZ := Lib.hid hts
    rw [← ht] at CS
    have HB := Lib.hid hB
    have HK := Lib.hid hK
    have HO2 := Lib.hid hO2
    have htz : t.size ≤ 3145728 := by omega
    clear hO hO2 hys hB hK ht hto hts
    gi_wp2
    refine ⟨trivial, ?_⟩
    refine (callsIn_wide.2 (CS.out W HO2.out (by omega))).mono ?_
    rintro e W2 ⟨rfl, f2, b2, o2⟩
    have HK2 := Lib.hid (o2 D _ HK.out (by simp at hD ⊢; omega) (fun _ _ e => by cases e))
    have HF2 := Lib.hid f2
    have HB2 := Lib.hid (HB.out.trans b2)
    have hsz2 := HB2.out.size
    clear f2 b2 o2 HK HO2 HB
    gi_wp2
    refine ⟨trivial, ?_⟩
    refine (callsIn_wide.2 (implCodePut_any t W2 (by unfold maxLen; omega) (HF.out.below HB2.out (.inl (Nat.le_refl _))))).mono ?_
    rintro e W3 ⟨rfl, b3⟩
    have HK3 := Lib.hid ((b3.block D (Array.getElem?_eq_some_iff.1 HK2.out).1).trans HK2.out)
    have HF3 := Lib.hid (builderF_later HF2.out b3)
    have HB3 := Lib.hid (HB2.out.trans (b3.mono hsz2))
    have hsz3 := HB3.out.size
    clear b3 HK2 HF2 HB2
    by_cases hq : codePutB t = s
    · have hm : Hid (codeGetB s = (t, true)) := Lib.hid (by
        by_cases hz : t.size ≤ 240
        · rw [← hq]; exact codeGetB_put hz
        · exfalso
          have e0 : codePutB t = { data := #[] } := by unfold codePutB; rw [if_neg hz]
          rw [e0] at hq
          have := HNIL.out (by rw [← hq]; rfl)
          have h1 := HTZ.out
          rw [this, List.length_nil] at h1; omega)
      rw [hq]
      clear hq
      gi_wp2
      refine ⟨trivial, ?_⟩
      refine (callsIn_wide.2 (CS.out W3 HF3.out (by omega))).mono ?_
      rintro e W4 ⟨rfl, _, b4, o4⟩
      have hK4 := o4 D _ HK3.out (by simp at hD ⊢; omega) (fun _ _ e => by cases e)
      gi_wp2
      refine ⟨by simp, .inl ⟨_, _, rfl, run_takeDeferred (w := W4) hK4, ?_⟩⟩
      refine ⟨_, results_tmp2 rfl _ _ _, ?_, ?_⟩
      · rw [hm.out]; rfl
      · exact (HB3.out.trans b4).trans (belowK_b (w := w) (Nat.le_refl _) W4 D _ _ (by simp at hD; omega) hK4 rfl rfl)
    · have hm : Hid (codeGetB s = ({ data := #[] }, false)) := Lib.hid (by
        rcases codeGetB_cases s with ⟨u, hu, e1, _⟩ | ⟨_, e⟩
        · exfalso
          have e2 := HCODE.out u hu e1
          have e3 : t = u := by
            have e4 := HT.out.trans e2
            cases t; cases u; simp_all
          exact hq (by rw [e3, ← e1])
        · exact e)
      have e1 := ne_toListc hq
      have e2 : (!(codePutB t).toList == s.toList) = true := by rw [e1]; rfl
      have e3 : ¬ (codePutB t).toList = s.toList := by simpa using e1
      clear hq
      gi_wp2
      refine ⟨by simp, .inl ⟨_, _, rfl, run_takeDeferred (w := W3) HK3.out, ?_⟩⟩
      refine ⟨_, results_tmp2 rfl _ _ _, ?_, ?_⟩
      · rw [hm.out]; rfl
      · exact HB3.out.trans (belowK_b (w := w) (Nat.le_refl _) W3 D _ _ (by simp at hD; omega) HK3.out rfl rfl)
  case stop =>
    rintro D c pre W _ _ h _
    exact h.elim

theorem implCodeGet_any (s : ByteArray) (w : World) (hs : s.size ≤ 1048576) (hf : FigCell w) :
    Calls Tryd.prog 14 #[.string s] w fun e w' => e = .returned (.tuple #[.string (codeGetB s).1, .bool (codeGetB s).2]) ∧ Below w.heap.size w w' :=
  callsIn_wide.1 (implCodeGet_in s hs w hf)
end Go.Proofs.YtmigcglcacpboaaDoor
