/- Contracts: the laws' comparison of clients' states. -/
import Derived.Test.YtgjkoegpdfcadaaDoorSaMail
import Derived.Test.YtgjkoegpdfcadaaDoorCliRes
namespace Go.Proofs.YtgjkoegpdfcadaaDoor
open Go Go.RowKit

theorem saIntsEq (ao bo : Option Addr) (c1 c2 : Nat) (xs : List Int) (w : World) (ha : IntRow w ao xs) (hb : IntRow w bo xs) (hl : xs.length ≤ 1048576) :
    Calls Tryd.prog 30 #[.slice ao xs.length c1, .slice bo xs.length c2] w fun e w' => e = .returned (.bool true) ∧ Below w.heap.size w w' := by
  have HA := Lib.hid ha
  have HB := Lib.hid hb
  clear ha hb
  go_enter Tryd.func30, Tryd.ntmps30
  go_wp2
  go_loopw [5] (fun i wr => ∃ k n : Nat, k ≤ xs.length ∧ i = .int .i64 k ∧ wr = w.drewN n) (fun i _ => xs.length - (intOf i).toNat)
  case atStart => exact ⟨0, 0, Nat.zero_le _, rfl, rfl⟩
  case round =>
    obtain ⟨k, n, hk, rfl, rfl⟩ := hrel
    by_cases hlt : k < xs.length
    · obtain ⟨x, hx⟩ : ∃ x, xs[k]? = some x := ⟨_, List.getElem?_eq_getElem hlt⟩
      obtain ⟨b, off, rfl, hcell⟩ := HA.out k x hx
      obtain ⟨b', off', rfl, hcell'⟩ := HB.out k x hx
      clear hx
      go_wp2
      go_quiet (fail)
      go_wp2
      exact ⟨⟨k + 1, n + nq, by omega, by go_num, rfl⟩, by simp [intOf]; omega⟩
    · go_wp2
      go_ret
      exact ⟨rfl, below_drewN _ w n⟩

set_option maxHeartbeats 1600000 in
set_option maxRecDepth 100000 in
theorem saCliEq (x : CliD) (a1 : Option Addr) (c1 : Nat) (a2 : Option Addr) (c2 : Nat) (a3 : Option Addr) (c3 : Nat) (b1 : Option Addr) (d1 : Nat) (b2 : Option Addr) (d2 : Nat) (b3 : Option Addr) (d3 : Nat) (w : World) (ha : CliAt w x a1 a2 a3) (hb : CliAt w x b1 b2 b3) (h1 : x.m.rc.length ≤ 1048576) (h2 : x.m.body.length ≤ 1048576) (h3 : x.outs.length ≤ 1048576) :
    Calls Tryd.prog 25 #[.agg (cliV x a1 c1 a2 c2 a3 c3), .agg (cliV x b1 d1 b2 d2 b3 d3)] w fun e w' => e = .returned (.bool true) ∧ Below w.heap.size w w' := by
  have HA : Seal _ := ⟨ha⟩
  have HB : Seal _ := ⟨hb⟩
  have S0 : Seal (St w _ [_, _]) := ⟨((St.start w).alloc (cliV x a1 c1 a2 c2 a3 c3) 46).alloc (cliV x b1 d1 b2 d2 b3 d3) 46⟩
  clear ha hb
  go_enter Tryd.func25, Tryd.ntmps25
  go_wp2_with fail
  refine (saIntsEq a3 b3 c3 d3 x.outs _ (HA.out.outs.below S0.out.below (Nat.le_refl _)) (HB.out.outs.below S0.out.below (Nat.le_refl _)) h3).mono ?_
  rintro e w1 ⟨rfl, hb1⟩
  have S1 : Seal _ := ⟨S0.out.later hb1⟩
  obtain ⟨p0, p1, p2, p3, p4, p5, p6, p7⟩ := cells_cli S1.out.head
  obtain ⟨q0, q1, q2, q3, q4, q5, q6, q7⟩ := cells_cli S1.out.two.head
  simp only [World.size_alloc] at p0 p1 p2 p3 p4 p5 p6 p7
  clear hb1 S0
  go_wp2_with fail
  refine (saMailEq x.m a1 c1 a2 c2 b1 d1 b2 d2 _ (HA.out.m.below S1.out.below (Nat.le_refl _)) (HB.out.m.below S1.out.below (Nat.le_refl _)) h1 h2).mono ?_
  rintro e w2 ⟨rfl, hb2⟩
  have S2 : Seal _ := ⟨S1.out.later hb2⟩
  clear hb2
  go_wp2
  go_ret
  exact ⟨rfl, S2.out.below⟩
end Go.Proofs.YtgjkoegpdfcadaaDoor
