/- Contracts: figures of base 64, of the program. -/
import Derived.Test.YtmigcglcacpboaaDoorBuildS
import Derived.Test.YtmigcglcacpboaaDoorPlainFigs
import Derived.Test.YtmigcglcacpboaaDoorByteOwn
import Derived.Lib.Hide
import Derived.IntWalk
import Derived.Laws.IdiomStrings
import Derived.Laws.IdiomArrays
import Derived.Below
import Derived.Deep.MidRow
namespace Go.Proofs.YtmigcglcacpboaaDoor
open Go Go.RowKit

/-- The table of the figures holds what the program lays. -/
def FigCell (w : World) : Prop := ∀ v, v < 64 → w.cell? ⟨0, v, none⟩ = some (.int .u8 ((figC v).toNat : Int))
theorem FigCell.below {B : Nat} {w w' : World} (h : FigCell w) (hb : Below B w w') (hB : w.heap.size ≤ B ∨ 0 < B) : FigCell w' := by
  intro v hv
  have := World.block_lt_of_cell? w _ (h v hv)
  exact (hb.cell (p := ⟨0, v, none⟩) (by simp at this ⊢; omega)).trans (h v hv)

def figVs : List Value := (List.range 64).map fun v => .int .u8 ((figC v).toNat : Int)
theorem figVs_get {v : Nat} (h : v < 64) : figVs[v]? = some (.int .u8 ((figC v).toNat : Int)) := by simp [figVs, h]
theorem figVs_length : figVs.length = 64 := by simp [figVs]
theorem load_figs (w : World) (hf : FigCell w) : (Instr.loadAt 71 (.pointer (some ⟨0, 0, none⟩))).run Tryd.prog w = .ok (.agg figVs.toArray) w := by
  refine run_loadAt_mid w _ 0 _ figVs _ ?_ Tryd.underlying71 rfl (by rw [figVs_length]; kernel_rfl)
  intro j v hj
  have hj2 : j < 64 := by rw [← figVs_length]; exact (List.getElem?_eq_some_iff.1 hj).1
  rw [figVs_get hj2] at hj
  rw [Nat.zero_add, ← Option.some.inj hj]
  exact hf j hj2
theorem index_figs (v : Nat) (h : v < 64) (w : World) : (Instr.index 71 (.agg figVs.toArray) (.int .i64 (v : Int))).run Tryd.prog w = .ok (.int .u8 ((figC v).toNat : Int)) w := by
  simp [Instr.index, run_underlying Tryd.underlying71, go_sem]
  rw [if_pos h, figVs_get h]
  rfl
theorem ret_inf {a b : Nat} (h : a = b) : Ending.returned (.int .i64 a) = .returned (.int .i64 b) := by rw [h]

set_option maxRecDepth 100000 in
theorem figureValue_any (c : UInt8) (w : World) (hf : FigCell w) :
    Calls Tryd.prog 55 #[.int .u8 (c.toNat : Int)] w fun e w' => e = .returned (.int .i64 (figV c)) ∧ w' = w := by
  have HF := Lib.hid hf
  clear hf
  go_enter Tryd.func55, Tryd.ntmps55
  go_wp2_with (refine wpList_load_mid rfl 71 _ rfl 0 0 rfl figVs _ ?hc Tryd.underlying71 rfl (by rw [figVs_length]; kernel_rfl) ?_)
  case hc =>
    intro j v hj
    have hj2 : j < 64 := by rw [← figVs_length]; exact (List.getElem?_eq_some_iff.1 hj).1
    rw [figVs_get hj2] at hj
    rw [Nat.zero_add, ← Option.some.inj hj]
    exact HF.out j hj2
  go_loop [6] (fun i => ∃ k : Nat, k ≤ 64 ∧ i = .int .i64 k ∧ Hid (∀ v < k, figR[v]? ≠ some c)) (fun i => 64 - (intOf i).toNat)
  case atStart => exact ⟨0, Nat.zero_le _, rfl, Lib.hid (fun v hv => absurd hv (Nat.not_lt_zero _))⟩
  case round =>
    obtain ⟨k, hk, rfl, H⟩ := hrel
    by_cases hlt : k < 64
    · have hx := fun W => index_figs k hlt W
      have hk64 : (k : Int) < 64 := by omega
      have HG := Lib.hid (figC_get hlt)
      by_cases he : figC k = c
      · have hm : Hid (figV c = k) := Lib.hid (figV_at (by rw [HG.out, he]))
        have c0 : (((figC k).toNat : Int) == (c.toNat : Int)) = true := by rw [he, beq_iff_eq]
        have c1 : (figC k).toNat = c.toNat := by rw [he]
        clear he
        go_wp2
        go_ret
        exact ⟨ret_inf (by rw [hm.out]), rfl⟩
      · have c1 : ¬ (figC k).toNat = c.toNat := fun e => he (UInt8.toNat_inj.1 e)
        have c0 : (((figC k).toNat : Int) == (c.toNat : Int)) = false := by rw [beq_eq_false_iff_ne]; omega
        have HN : Hid (∀ v < k + 1, figR[v]? ≠ some c) := Lib.hid (fun v hv => by
          by_cases e : v = k
          · subst e; rw [HG.out]; intro e2; exact he (Option.some.inj e2)
          · exact H.out v (by omega))
        clear he
        go_wp2
        go_round
        case rel => exact ⟨k + 1, by omega, by go_num, HN⟩
        case measure => simp [intOf]; omega
    · have hm : Hid (figV c = 0) := Lib.hid (figV_none (fun v hv => H.out v (by omega)))
      have hk64 : ¬ (k : Int) < 64 := by omega
      go_wp2
      go_ret
      exact ⟨ret_inf (by rw [hm.out]), rfl⟩
end Go.Proofs.YtmigcglcacpboaaDoor
