/- The walk of FnExactSpoolDue. -/
import Derived.Test.YtgjkoegpdfcadaaDoorSpoolDue
import Derived.Test.YtgjkoegpdfcadaaDoorSpoolMany
import Derived.Test.YtgjkoegpdfcadaaDoorSpoolTo
import Derived.Test.YtgjkoegpdfcadaaDoorSpoolEq
import Derived.Test.YtgjkoegpdfcadaaDoorSpoolHeld
import Derived.Deep.RegionWith
namespace Go.Proofs.YtgjkoegpdfcadaaDoor
open Go Go.RowKit

theorem ints_read {w : World} {ao : Option Addr} {cap : Nat} {xs : List Int} (h : (intsR ao cap xs).P w) : IntRow w ao xs := IntRow.of_own h
theorem sum_marks_le (xs : List ItemD) (h : rowN itemN xs ≤ 1048576) : 1 + sumN itemMarks xs ≤ 16777216 := by
  have h1 : sumN itemMarks xs ≤ sumN (fun x => 3 + 4 * itemN x) xs := sumN_le fun x _ => by
    have a := rowN_length rcptN x.rc
    have b := rowN_length ByteArray.size x.body
    unfold itemMarks itemN
    omega
  have h2 : sumN (fun x => 3 + 4 * itemN x) xs = 3 * xs.length + 4 * sumN itemN xs := by
    induction xs with
    | nil => rfl
    | cons x xs ih =>
      have ih' : sumN (fun x => 3 + 4 * itemN x) xs = 3 * xs.length + 4 * sumN itemN xs := by
        clear h h1 ih
        induction xs with
        | nil => rfl
        | cons y ys ih2 =>
          unfold sumN at ih2 ⊢
          rw [List.map_cons, List.map_cons, List.sum_cons, List.sum_cons, List.length_cons]
          omega
      unfold sumN at ih' ⊢
      rw [List.map_cons, List.map_cons, List.sum_cons, List.sum_cons, List.length_cons]
      omega
  rw [rowN_eq] at h
  omega

set_option maxHeartbeats 6400000 in
set_option maxRecDepth 100000 in
theorem wFnExactSpoolDue.walk (s : SpoolD) (ao : Option Addr) (cap : Nat) (now : Int) (w : World) (hat : ItemRow w ao s.items) (hf : SpoolF s) (_ : (Lit.int .i64 now).wf = true) (hm : HasMax w) :
    Calls Tryd.prog 10 #[.agg (spoolV s ao cap), .int .i64 now] w fun e w' => e = .returned (.bool true) ∧ Below w.heap.size w w' := by
  have HM : Seal _ := ⟨hm⟩
  have HA : Seal _ := ⟨hat⟩
  have HF : Seal _ := ⟨hf⟩
  have S0 : Seal (St w _ [Res.cells w.heap.size (spoolL s ao cap)]) := ⟨(St.start w).alloc (spoolV s ao cap) 83⟩
  clear hm hat hf
  obtain ⟨l, hl⟩ : ∃ l, leftN (spoolN s) 1048576 = l := ⟨_, rfl⟩
  have HL : Seal _ := ⟨hl⟩
  have hsz : ¬ l < 0 → spoolN s ≤ 1048576 := fun h => by rw [← hl] at h; have := leftN_small h; omega
  clear hl
  go_enter Tryd.func10, Tryd.ntmps10
  go_wp2_with fail
  refine (szSpool_any s ao cap 1048576 _ (HA.out.below itemP_stays S0.out.below (Nat.le_refl _)) (by omega) (by omega) HF.out).mono ?_
  rintro e w1 ⟨rfl, hb1⟩
  rw [HL.out]
  have S1 : Seal _ := ⟨S0.out.later hb1⟩
  clear hb1 S0
  by_cases hneg : l < 0
  · clear hsz
    go_wp2
    go_ret
    exact ⟨rfl, S1.out.below⟩
  have HZ : Seal (spoolN s ≤ 1048576) := ⟨hsz (by omega)⟩
  have z1 := (spoolN_parts HZ.out).1
  clear hsz
  obtain ⟨D, hD⟩ : ∃ D, dueR s now = D := ⟨_, rfl⟩
  have zD : D.length ≤ 1048576 := by rw [← hD]; exact Nat.le_trans (dueR_le s now) z1
  have CS : Seal (∀ W ao cap, ItemRow W ao s.items → Calls Tryd.prog 41 #[.agg (spoolV s ao cap), .int .i64 now] W fun e w' => ∃ a c, e = .returned (.slice a D.length c) ∧ St W w' [intsR a c D]) := ⟨fun W ao cap h => by rw [← hD]; exact specSpoolDue_any s ao cap now W h HZ.out⟩
  have CI : Seal (∀ W ao cap, HasMax W → ItemRow W ao s.items → Calls Tryd.prog 40 #[.agg (spoolV s ao cap), .int .i64 now] W fun e w' => ∃ a c, e = .returned (.slice a D.length c) ∧ St W w' [intsR a c D]) := ⟨fun W ao cap h1 h2 => by rw [← hD]; exact implSpoolDue_any s ao cap now W h1 h2 HZ.out⟩
  have HMK : Seal (1 + sumN itemMarks s.items ≤ 16777216) := ⟨sum_marks_le _ (by have := HZ.out; unfold spoolN at this; exact this)⟩
  clear hD
  have g0 := S1.out.head.c 0 _ rfl
  have g1 := S1.out.head.c 1 _ rfl
  -- what the model answers
  go_wp2_with fail
  refine (toSpool_any s ao cap _ (HA.out.below itemP_stays S1.out.below (Nat.le_refl _)) HZ.out).mono ?_
  rintro e w2 ⟨b1, d1, p1, rfl, hp1, k1⟩
  have I2 : Seal _ := ⟨items_read hp1 (fun r hr => k1.get hr)⟩
  have S2 : Seal _ := ⟨S1.out.later k1.below⟩
  clear k1 hp1 S1 g0 g1
  go_wp2_with fail
  refine (CS.out _ b1 d1 I2.out).mono ?_
  rintro e w3 ⟨a0, c0, rfl, k3⟩
  have S3 : Seal _ := ⟨S2.out.join k3⟩
  clear k3 S2 I2 CS
  have g0 := S3.out.two.head.c 0 _ rfl
  have g1 := S3.out.two.head.c 1 _ rfl
  -- what the program answers
  go_wp2_with fail
  refine (toSpool_any s ao cap _ (HA.out.below itemP_stays S3.out.below (Nat.le_refl _)) HZ.out).mono ?_
  rintro e w4 ⟨b2, d2, p2, rfl, hp2, k2⟩
  have i4 := items_read hp2 (fun r hr => k2.get hr)
  have S4 : Seal _ := ⟨(S3.out.join k2).alloc (spoolV s b2 d2) 55⟩
  have I4 : Seal _ := ⟨i4.later itemP_stays ((Below.refl w4.heap.size w4).alloc (Nat.le_refl _) (.cells (spoolV s b2 d2) 55))⟩
  have HP2 : Seal _ := ⟨hp2⟩
  clear k2 hp2 S3 i4 g0 g1
  go_wp2_with fail
  refine (CI.out _ b2 d2 (HM.out.below S4.out.below (Nat.le_refl _)) I4.out).mono ?_
  rintro e w5 ⟨a1, c1, rfl, k5⟩
  have S5 : Seal _ := ⟨S4.out.join k5⟩
  have I5 : Seal _ := ⟨I4.out.later itemP_stays k5.below⟩
  clear k5 S4 I4
  -- the parts: the answer, x0, its items, the model's answer, the argument
  have S5' : Seal (St w w5 (intsR a1 c1 D :: intsR a0 c0 D :: Res.cells w4.heap.size (spoolL s b2 d2) :: Res.cells w.heap.size (spoolL s ao cap) :: itemsR b2 d2 s.items p2)) := ⟨S5.out.perm (by
    show (intsR a1 c1 D :: Res.cells w4.heap.size (spoolL s b2 d2) :: (itemsR b2 d2 s.items p2 ++ [intsR a0 c0 D, Res.cells w.heap.size (spoolL s ao cap)])).Perm _
    refine List.Perm.cons _ ?_
    refine (List.Perm.cons _ List.perm_append_comm).trans ?_
    exact List.Perm.swap _ _ _)⟩
  clear S5
  have R1 : Seal _ := ⟨ints_read S5'.out.head⟩
  have R0 : Seal _ := ⟨ints_read S5'.out.two.head⟩
  go_wp2_with fail
  refine (eqIntS_same a1 a0 c1 c0 D _ R1.out R0.out zD).mono ?_
  rintro e w6 ⟨rfl, n6, rfl⟩
  have S6 : Seal _ := ⟨S5'.out.later (below_drewN _ _ n6)⟩
  have I6 : Seal _ := ⟨(I5.out.later itemP_stays (below_drewN _ _ n6)).later itemP_stays (Below.refl (w5.drewN n6).heap.size (w5.drewN n6)).drew⟩
  clear S5' I5 R1 R0
  generalize w5.drewN n6 = w6 at S6 I6 ⊢
  have x0 := S6.out.three.head.c 0 _ rfl
  have x1 := S6.out.three.head.c 1 _ rfl
  have lt1 := S6.out.three.head.lt
  have g0 := S6.out.four.head.c 0 _ rfl
  have g1 := S6.out.four.head.c 1 _ rfl
  have lt2 := S6.out.four.head.lt
  have S6d : Seal _ := ⟨S6.out.drew⟩
  go_wp2_with fail
  go_region_with (first | (go_at_call 50; refine (toSpool_any s ao cap _ (HA.out.below itemP_stays S6d.out.below (Nat.le_refl _)) HZ.out).mono ?_; rintro e w7 ⟨b3, d3, p3, rfl, hp3, k3⟩; have I7 : Seal _ := ⟨items_read hp3 (fun r hr => k3.get hr)⟩; have S7 : Seal _ := ⟨S6d.out.later k3.below⟩; have I7' : Seal _ := ⟨I6.out.later itemP_stays k3.below⟩; have y0 := S7.out.three.head.c 0 _ rfl; have y1 := S7.out.three.head.c 1 _ rfl; clear k3 hp3) | (go_at_call 51; refine (eqSpool_same s _ _ _ _ _ I7'.out I7.out HZ.out).mono ?_; rintro e w8 ⟨rfl, hb8⟩; have S8 : Seal _ := ⟨S7.out.later hb8⟩; clear hb8))
  all_goals
    clear S6 S6d S7 I6 I7 I7' x0 x1 g0 g1 y0 y1 lt1 lt2
    have x0 := S8.out.three.head.c 0 _ rfl
    have x1 := S8.out.three.head.c 1 _ rfl
    have lt1 := S8.out.three.head.lt
    -- marks into the argument's copy
    go_wp2_with fail
    refine (markSpool_any [intsR a1 c1 D, intsR a0 c0 D, Res.cells w4.heap.size (spoolL s b2 d2), Res.cells w.heap.size (spoolL s ao cap)] 1 s b2 d2 p2 HP2.out w _ (S8.out.perm (List.perm_append_comm (l₁ := [intsR a1 c1 D, intsR a0 c0 D, Res.cells w4.heap.size (spoolL s b2 d2), Res.cells w.heap.size (spoolL s ao cap)]))) HMK.out z1).mono ?_
    rintro e w9 ⟨rfl, s9⟩
    have S9 : Seal _ := ⟨s9.drop⟩
    have R1 : Seal _ := ⟨ints_read S9.out.head⟩
    have R0 : Seal _ := ⟨ints_read S9.out.two.head⟩
    have hk0 : ¬ ((1 + sumN itemMarks s.items : Nat) : Int) < 0 := by omega
    have hk0' : (((1 + sumN itemMarks s.items : Nat) : Int) < 0) = False := by simp only [eq_iff_iff, iff_false]; exact hk0
    obtain ⟨mk, hmk⟩ : ∃ mk : Nat, 1 + sumN itemMarks s.items = mk := ⟨_, rfl⟩
    rw [hmk] at hk0 hk0' ⊢
    clear s9 S8 x0 x1 hmk
    go_wp2_with fail
    refine (eqIntS_same a1 a0 c1 c0 D _ R1.out R0.out zD).mono ?_
    rintro e w10 ⟨rfl, n10, rfl⟩
    have S10 : Seal _ := ⟨S9.out.later (below_drewN _ _ n10)⟩
    clear S9 R1 R0 hk0 hk0'
    generalize w9.drewN n10 = w10 at S10 ⊢
    -- marks into the answer
    go_wp2_with fail
    refine (markIntS_any 0 1 a1 c1 D _ S10.out.head (by omega)).mono ?_
    rintro e w11 ⟨rfl, ho, hg⟩
    have S11 : Seal _ := ⟨S10.out.write ho hg⟩
    have R1 : Seal (IntRow w11 a1 (markI 1 D.length)) := ⟨IntRow.of_own (base := 0) (cap := c1) (by rw [markI_length]; exact ho)⟩
    clear ho hg S10
    go_wp2_with fail
    refine (heldIntS_any a1 c1 1 D.length _ R1.out (by omega)).mono ?_
    rintro e w12 ⟨rfl, rfl⟩
    have g0 := S11.out.four.head.c 0 _ rfl
    have g1 := S11.out.four.head.c 1 _ rfl
    go_wp2_with fail
    refine (toSpool_any s ao cap _ (HA.out.below itemP_stays S11.out.below (Nat.le_refl _)) HZ.out).mono ?_
    rintro e w13 ⟨b4, d4, p4, rfl, hp4, k4⟩
    have I13 : Seal _ := ⟨items_read hp4 (fun r hr => k4.get hr)⟩
    have S13 : Seal _ := ⟨S11.out.later k4.below⟩
    have R13 : Seal _ := ⟨R1.out.below k4.below (Nat.le_refl _)⟩
    clear k4 hp4 S11 R1 g0 g1
    go_wp2_with fail
    refine (CI.out _ b4 d4 (HM.out.below S13.out.below (Nat.le_refl _)) I13.out).mono ?_
    rintro e w14 ⟨a5, c5, rfl, k5⟩
    have R5 : Seal _ := ⟨ints_read k5.head⟩
    have S14 : Seal _ := ⟨S13.out.later k5.below⟩
    have R14 : Seal _ := ⟨R13.out.below k5.below (Nat.le_refl _)⟩
    have R0 : Seal _ := ⟨ints_read S14.out.two.head⟩
    clear k5 S13 R13 I13
    go_wp2_with fail
    refine (eqIntS_same a5 a0 c5 c0 D _ R5.out R0.out zD).mono ?_
    rintro e w15 ⟨rfl, n15, rfl⟩
    have S15 : Seal _ := ⟨S14.out.later (below_drewN _ _ n15)⟩
    have R15 : Seal _ := ⟨R14.out.below (below_drewN _ _ n15) (Nat.le_refl _)⟩
    clear S14 R14 R5 R0
    generalize w14.drewN n15 = w15 at S15 R15 ⊢
    go_wp2_with fail
    refine (heldIntS_any a1 c1 1 D.length _ R15.out (by omega)).mono ?_
    rintro e w16 ⟨rfl, rfl⟩
    go_wp2
    go_ret
    exact ⟨rfl, S15.out.below⟩
end Go.Proofs.YtgjkoegpdfcadaaDoor
