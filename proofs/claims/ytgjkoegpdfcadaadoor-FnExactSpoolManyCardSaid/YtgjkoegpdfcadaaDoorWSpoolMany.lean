/- The walk of FnExactSpoolMany. -/
import Derived.Test.YtgjkoegpdfcadaaDoorSpoolMany
import Derived.Test.YtgjkoegpdfcadaaDoorSpoolTo
import Derived.Test.YtgjkoegpdfcadaaDoorSpoolEq
import Derived.Deep.RegionWith
namespace Go.Proofs.YtgjkoegpdfcadaaDoor
open Go Go.RowKit

set_option maxHeartbeats 3200000 in
set_option maxRecDepth 100000 in
theorem wFnExactSpoolMany.walk (s : SpoolD) (ao : Option Addr) (cap : Nat) (w : World) (hat : ItemRow w ao s.items) (hf : SpoolF s) (hm : HasMax w) :
    Calls Tryd.prog 11 #[.agg (spoolV s ao cap)] w fun e w' => e = .returned (.bool true) ∧ Below w.heap.size w w' := by
  have HM : Seal _ := ⟨hm⟩
  have HA : Seal _ := ⟨hat⟩
  have HF : Seal _ := ⟨hf⟩
  have S0 : Seal (St w _ [Res.cells w.heap.size (spoolL s ao cap)]) := ⟨(St.start w).alloc (spoolV s ao cap) 83⟩
  clear hm hat hf
  obtain ⟨l, hl⟩ : ∃ l, leftN (spoolN s) 1048576 = l := ⟨_, rfl⟩
  have HL : Seal _ := ⟨hl⟩
  have hsz : ¬ l < 0 → spoolN s ≤ 1048576 := fun h => by rw [← hl] at h; have := leftN_small h; omega
  obtain ⟨v, hv⟩ : ∃ v, manyR s = v := ⟨_, rfl⟩
  have HV : Seal _ := ⟨hv⟩
  clear hl hv
  go_enter Tryd.func11, Tryd.ntmps11
  go_wp2_with fail
  refine (szSpool_any s ao cap 1048576 _ (HA.out.below itemP_stays S0.out.below (Nat.le_refl _)) (by omega) (by omega) HF.out).mono ?_
  rintro e w1 ⟨rfl, hb1⟩
  rw [HL.out]
  have S1 : Seal _ := ⟨S0.out.later hb1⟩
  clear hb1 S0
  by_cases hneg : l < 0
  · clear hsz
    go_wp2
    go_ret
    exact ⟨rfl, S1.out.below⟩
  have HZ : Seal _ := ⟨hsz (by omega)⟩
  clear hsz
  have g0 := S1.out.head.c 0 _ rfl
  have g1 := S1.out.head.c 1 _ rfl
  -- what the model answers
  go_wp2_with fail
  refine (toSpool_any s ao cap _ (HA.out.below itemP_stays S1.out.below (Nat.le_refl _)) HZ.out).mono ?_
  rintro e w2 ⟨b1, d1, p1, rfl, hp1, k1⟩
  have I2 : Seal _ := ⟨items_read hp1 (fun r hr => k1.get hr)⟩
  have S2 : Seal _ := ⟨S1.out.later k1.below⟩
  clear k1 hp1 S1 g0 g1
  go_wp2_with fail
  refine (specSpoolMany_any s b1 d1 _ I2.out HZ.out).mono ?_
  rintro e w3 ⟨rfl, hb3⟩
  rw [HV.out]
  have S3 : Seal _ := ⟨S2.out.later hb3⟩
  clear hb3 S2 I2
  have g0 := S3.out.head.c 0 _ rfl
  have g1 := S3.out.head.c 1 _ rfl
  -- what the program answers
  go_wp2_with fail
  refine (toSpool_any s ao cap _ (HA.out.below itemP_stays S3.out.below (Nat.le_refl _)) HZ.out).mono ?_
  rintro e w4 ⟨b2, d2, p2, rfl, hp2, k2⟩
  have i4 := items_read hp2 (fun r hr => k2.get hr)
  have S4 : Seal _ := ⟨(S3.out.later k2.below).alloc (spoolV s b2 d2) 55⟩
  have I4 : Seal _ := ⟨i4.later itemP_stays ((Below.refl w4.heap.size w4).alloc (Nat.le_refl _) (.cells (spoolV s b2 d2) 55))⟩
  clear k2 hp2 S3 i4 g0 g1
  go_wp2_with fail
  refine (implSpoolMany_any s b2 d2 _ (HM.out.below S4.out.below (Nat.le_refl _)) I4.out HZ.out).mono ?_
  rintro e w5 ⟨rfl, hb5⟩
  rw [HV.out]
  have I5 : Seal _ := ⟨(I4.out.later itemP_stays hb5).later itemP_stays (Below.refl w5.heap.size w5).drew⟩
  have S5 : Seal _ := ⟨S4.out.later hb5⟩
  have S5d : Seal _ := ⟨S5.out.drew⟩
  clear hb5 S4 I4
  have x0 := S5.out.head.c 0 _ rfl
  have x1 := S5.out.head.c 1 _ rfl
  have lt1 := S5.out.head.lt
  have g0 := S5.out.two.head.c 0 _ rfl
  have g1 := S5.out.two.head.c 1 _ rfl
  have lt2 := S5.out.two.head.lt
  have q1 : (v != v) = false := by simp
  go_wp2_with fail
  go_region_with (first | (go_at_call 50; refine (toSpool_any s ao cap _ (HA.out.below itemP_stays S5d.out.below (Nat.le_refl _)) HZ.out).mono ?_; rintro e w6 ⟨b3, d3, p3, rfl, hp3, k3⟩; have I6 : Seal _ := ⟨items_read hp3 (fun r hr => k3.get hr)⟩; have S6 : Seal _ := ⟨S5d.out.later k3.below⟩; have I6' : Seal _ := ⟨I5.out.later itemP_stays k3.below⟩; have y0 := S6.out.head.c 0 _ rfl; have y1 := S6.out.head.c 1 _ rfl; clear k3 hp3) | (go_at_call 51; refine (eqSpool_same s _ _ _ _ _ I6'.out I6.out HZ.out).mono ?_; rintro e w7 ⟨rfl, hb7⟩; have S7 : Seal _ := ⟨S6.out.later hb7⟩; clear hb7))
  all_goals
    go_wp2
    go_ret
    exact ⟨rfl, S7.out.below⟩
end Go.Proofs.YtgjkoegpdfcadaaDoor
