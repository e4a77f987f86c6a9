/- Contracts: how many recipients a spool has. -/
import Derived.Test.YtgjkoegpdfcadaaDoorSpoolOkI
import Derived.Test.YtgjkoegpdfcadaaDoorSpoolOkL
namespace Go.Proofs.YtgjkoegpdfcadaaDoor
open Go Go.RowKit

def rcLen (x : ItemD) : Nat := x.rc.length
def manyR (s : SpoolD) : Int := if spoolB s = true then (sumN rcLen s.items : Int) else -1
theorem sumN_le {α : Type} {f g : α → Nat} {xs : List α} (h : ∀ x ∈ xs, f x ≤ g x) : sumN f xs ≤ sumN g xs := by
  induction xs with
  | nil => exact Nat.le_refl _
  | cons x xs ih =>
    unfold sumN at ih ⊢
    rw [List.map_cons, List.map_cons, List.sum_cons, List.sum_cons]
    have h1 := h x List.mem_cons_self
    have h2 := ih fun y hy => h y (List.mem_cons_of_mem _ hy)
    omega
theorem rcLen_le (x : ItemD) : rcLen x ≤ itemN x := by
  have := rowN_length rcptN x.rc
  unfold rcLen itemN
  omega
theorem many_le (s : SpoolD) (k : Nat) : sumN rcLen (s.items.take k) ≤ spoolN s := by
  have h1 : sumN rcLen (s.items.take k) ≤ sumN itemN (s.items.take k) := sumN_le fun x _ => rcLen_le x
  have h2 := sumN_split itemN s.items k
  unfold spoolN
  rw [rowN_eq]
  omega

set_option maxHeartbeats 1600000 in
set_option maxRecDepth 100000 in
theorem specSpoolMany_any (s : SpoolD) (ao : Option Addr) (cap : Nat) (w : World) (hat : ItemRow w ao s.items) (hz : spoolN s ≤ 1048576) :
    Calls Tryd.prog 56 #[.agg (spoolV s ao cap)] w fun e w' => e = .returned (.int .i64 (manyR s)) ∧ Below w.heap.size w w' := by
  obtain ⟨z1, _⟩ := spoolN_parts hz
  have HA : Seal _ := ⟨hat⟩
  have HZ : Seal _ := ⟨hz⟩
  have S0 : Seal _ := ⟨(St.start w).alloc (spoolV s ao cap) 55⟩
  obtain ⟨v, hv⟩ : ∃ v, spoolB s = v := ⟨_, rfl⟩
  have HV : Seal _ := ⟨hv⟩
  clear hat hz hv
  go_enter Tryd.func56, Tryd.ntmps56
  go_wp2_with fail
  refine (l5Ok_any s ao cap _ (HA.out.below itemP_stays S0.out.below (Nat.le_refl _)) HZ.out).mono ?_
  rintro e w1 ⟨rfl, hb1⟩
  rw [HV.out]
  have S1 : Seal _ := ⟨S0.out.later hb1⟩
  have g1 := S1.out.head.c 1 _ rfl
  clear hb1 S0
  cases v
  · have hm : Seal (manyR s = -1) := ⟨by unfold manyR; rw [HV.out]; rfl⟩
    go_wp2
    go_ret
    exact ⟨ret_in hm.out.symm, S1.out.below⟩
  · go_wp2
    go_loopw [3, 4] (fun n i wr => ∃ (k m : Nat), k ≤ s.items.length ∧ i = .int .i64 k ∧ n = .int .i64 m ∧ m ≤ 1048576 ∧ Seal (sumN rcLen (s.items.take k) = m) ∧ wr = w1) (fun _ i _ => s.items.length - (intOf i).toNat)
    case atStart => exact ⟨0, 0, Nat.zero_le _, rfl, rfl, by omega, ⟨by simp [sumN]⟩, rfl⟩
    case round =>
      obtain ⟨k, m, hk, rfl, rfl, hm0, H, rfl⟩ := hrel
      by_cases hlt : k < s.items.length
      · obtain ⟨x, hx⟩ : ∃ x, s.items[k]? = some x := ⟨_, List.getElem?_eq_getElem hlt⟩
        obtain ⟨b, off, p, ea, c0, c1, c2, c3, c4, _⟩ := itemAt (HA.out.below itemP_stays S1.out.below (Nat.le_refl _)) hx
        have hsn := sumN_snoc rcLen hx
        rw [H.out] at hsn
        have hle : m + x.rc.length ≤ 1048576 := by
          have := many_le s (k + 1)
          rw [hsn] at this
          have hz := HZ.out
          unfold rcLen at this
          omega
        have H2 : Seal (sumN rcLen (s.items.take (k + 1)) = m + x.rc.length) := ⟨hsn⟩
        rw [ea] at g1
        clear hx hsn c0 c1 c2 c4
        go_wp2
        go_roundw
        case rel => exact ⟨k + 1, m + x.rc.length, by omega, by go_num, by go_num, hle, H2, by first | rfl | trivial⟩
        case measure => simp [intOf]; omega
      · have hm : Seal (manyR s = m) := ⟨by
          have := H.out
          rw [List.take_of_length_le (by omega)] at this
          unfold manyR
          rw [HV.out, if_pos rfl, this]⟩
        go_wp2
        go_ret
        exact ⟨ret_in hm.out.symm, S1.out.below⟩

set_option maxHeartbeats 1600000 in
set_option maxRecDepth 100000 in
theorem implSpoolMany_any (s : SpoolD) (ao : Option Addr) (cap : Nat) (w : World) (hm : HasMax w) (hat : ItemRow w ao s.items) (hz : spoolN s ≤ 1048576) :
    Calls Tryd.prog 38 #[.agg (spoolV s ao cap)] w fun e w' => e = .returned (.int .i64 (manyR s)) ∧ Below w.heap.size w w' := by
  obtain ⟨z1, _⟩ := spoolN_parts hz
  have HA : Seal _ := ⟨hat⟩
  have HZ : Seal _ := ⟨hz⟩
  have s0 := (St.start w).alloc (spoolV s ao cap) 55
  have S0 : Seal _ := ⟨s0⟩
  have C : Seal _ := ⟨implSpoolOk_any s ao cap _ (hm.below s0.below (Nat.le_refl _)) (hat.below itemP_stays s0.below (Nat.le_refl _)) hz⟩
  obtain ⟨v, hv⟩ : ∃ v, spoolB s = v := ⟨_, rfl⟩
  have HV : Seal _ := ⟨hv⟩
  rw [hv] at C
  clear hat hz hv hm s0
  go_enter Tryd.func38, Tryd.ntmps38
  go_wp2_with fail
  refine C.out.mono ?_
  rintro e w1 ⟨rfl, hb1⟩
  have S1 : Seal _ := ⟨S0.out.later hb1⟩
  have g1 := S1.out.head.c 1 _ rfl
  clear hb1 S0 C
  cases v
  · have hm : Seal (manyR s = -1) := ⟨by unfold manyR; rw [HV.out]; rfl⟩
    go_wp2
    go_ret
    exact ⟨ret_in hm.out.symm, S1.out.below⟩
  · go_wp2
    go_loopw [3, 12] (fun n i wr => ∃ (k m : Nat), k ≤ s.items.length ∧ i = .int .i64 k ∧ n = .int .i64 m ∧ m ≤ 1048576 ∧ Seal (sumN rcLen (s.items.take k) = m) ∧ Seal (Below w.heap.size w wr)) (fun _ i _ => s.items.length - (intOf i).toNat)
    case atStart => exact ⟨0, 0, Nat.zero_le _, rfl, rfl, by omega, ⟨by simp [sumN]⟩, ⟨S1.out.below⟩⟩
    case round =>
      obtain ⟨k, m, hk, rfl, rfl, hm0, H, hb⟩ := hrel
      by_cases hlt : k < s.items.length
      · obtain ⟨x, hx⟩ : ∃ x, s.items[k]? = some x := ⟨_, List.getElem?_eq_getElem hlt⟩
        obtain ⟨b, off, p, rfl, c0, c1, c2, c3, c4, _⟩ := itemAt (HA.out.below itemP_stays hb.out (Nat.le_refl _)) hx
        have hsn := sumN_snoc rcLen hx
        rw [H.out] at hsn
        have hle : m + x.rc.length ≤ 1048576 := by
          have := many_le s (k + 1)
          rw [hsn] at this
          have hz := HZ.out
          unfold rcLen at this
          omega
        have H2 : Seal (sumN rcLen (s.items.take (k + 1)) = m + x.rc.length) := ⟨hsn⟩
        have B2 : Seal _ := ⟨hb.out.alloc hb.out.size (.cells (itemV x p) 64)⟩
        clear hx hsn
        go_wp2
        go_roundw
        case rel => exact ⟨k + 1, m + x.rc.length, by omega, by go_num, by go_num, hle, H2, B2⟩
        case measure => simp [intOf]; omega
      · have hm : Seal (manyR s = m) := ⟨by
          have := H.out
          rw [List.take_of_length_le (by omega)] at this
          unfold manyR
          rw [HV.out, if_pos rfl, this]⟩
        go_wp2
        go_ret
        exact ⟨ret_in hm.out.symm, hb.out⟩
end Go.Proofs.YtgjkoegpdfcadaaDoor
