/- Contracts: the pause behind so many tries, of the model and of the program. -/
import Derived.Test.YtfffocfcnigogaaGreatDoorProg
import Derived.WalkKit
import Derived.Lib.Hide
import Derived.Outline
import Derived.Laws.Shifts
import Derived.Laws.ShiftsVar
import Derived.Laws.ShiftsVarLaws
import Derived.IntWalk
import Derived.Below
import Derived.Test.YtfffocfcnigogaaGreatDoorAddrs
namespace Go.Proofs.YtfffocfcnigogaaGreatDoor
open Go Go.RowKit

def pauseZ (n : Int) : Int := if n = 1 then 2 else if n = 2 then 4 else if n = 3 then 8 else if n = 4 then 16 else -1
theorem pauseZ_out {n : Int} (h : n < 1 ∨ 4 < n) : pauseZ n = -1 := by unfold pauseZ; rw [if_neg (by omega), if_neg (by omega), if_neg (by omega), if_neg (by omega)]
theorem ret_ip {a b : Int} (h : a = b) : Ending.returned (.int .i64 a) = .returned (.int .i64 b) := by rw [h]

theorem implSpoolPause_any (n : Int) (w : World) :
    Calls Tryz.prog 164 #[.int .i64 n] w fun e w' => e = .returned (.int .i64 (pauseZ n)) ∧ w = w' := by
  rcases (show n < 1 ∨ 4 < n ∨ n = 1 ∨ n = 2 ∨ n = 3 ∨ n = 4 by omega) with h | h | rfl | rfl | rfl | rfl
  · have hm := Lib.hid (pauseZ_out (Or.inl h))
    go_enter Tryz.func164, Tryz.ntmps164
    go_wp2
    go_ret
    exact ⟨ret_ip hm.out.symm, rfl⟩
  · have hm := Lib.hid (pauseZ_out (Or.inr h))
    have h1 : ¬ n < 1 := by omega
    go_enter Tryz.func164, Tryz.ntmps164
    go_wp2
    go_ret
    exact ⟨ret_ip hm.out.symm, rfl⟩
  all_goals
    go_enter Tryz.func164, Tryz.ntmps164
    go_wp2
    go_ret
    exact ⟨rfl, rfl⟩

theorem l5Pause_in (N : Nat) (h1 : 1 ≤ N) (h4 : N ≤ 4) (w : World) :
    Calls Tryz.prog 163 #[.int .i64 (N : Int)] w fun e w' => e = .returned (.int .i64 (pauseZ N)) ∧ w = w' := by
  go_enter Tryz.func163, Tryz.ntmps163
  go_wp2
  go_loop [3, 4] (fun v i => ∃ k : Nat, 1 ≤ k ∧ k ≤ N ∧ i = .int .i64 k ∧ v = .int .i64 (pauseZ k)) (fun _ i => N - (intOf i).toNat)
  case atStart => exact ⟨1, Nat.le_refl _, h1, rfl, rfl⟩
  case round =>
    obtain ⟨k, hk1, hk, rfl, rfl⟩ := hrel
    by_cases hlt : k < N
    · obtain rfl | rfl | rfl : k = 1 ∨ k = 2 ∨ k = 3 := by omega
      all_goals
        go_wp2
        go_round
        case rel => exact ⟨_, by omega, hlt, rfl, congrArg (Value.int IntKind.i64) (by decide +kernel)⟩
        case measure => simp [intOf]; omega
    · obtain rfl : k = N := by omega
      go_wp2
      go_ret
      exact ⟨rfl, rfl⟩

end Go.Proofs.YtfffocfcnigogaaGreatDoor
