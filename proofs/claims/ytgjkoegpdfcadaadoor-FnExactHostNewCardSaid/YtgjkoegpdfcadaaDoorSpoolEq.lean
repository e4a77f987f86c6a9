/- Contracts: the laws' comparisons of spools that read the same. -/
import Derived.Test.YtgjkoegpdfcadaaDoorSpoolD
import Derived.Deep.RegionHeld3
namespace Go.Proofs.YtgjkoegpdfcadaaDoor
open Go Go.RowKit

set_option maxRecDepth 100000 in
theorem eqRcpt_same (x : RcptD) (w : World) :
    Calls Tryd.prog 265 #[.agg (rcptV x), .agg (rcptV x)] w fun e w' => e = .returned (.bool true) ∧ Below w.heap.size w w' := by
  have s0 := ((St.start w).alloc (rcptV x) 66).alloc (rcptV x) 66
  simp only [World.size_alloc] at s0
  have S0 : Seal _ := ⟨s0⟩
  have q1 : (x.tries != x.tries) = false := by simp
  have q2 : (x.next != x.next) = false := by simp
  clear s0
  go_enter Tryd.func265, Tryd.ntmps265
  go_wp2_with fail
  refine (eqAddr_same x.u x.d _).mono ?_
  rintro e w1 ⟨rfl, hb1⟩
  have S1 : Seal _ := ⟨S0.out.later hb1⟩
  have A1 := S1.out.head
  have B1 := S1.out.two.head
  have a2 := A1.c 2 _ rfl
  have a3 := A1.c 3 _ rfl
  have b2 := B1.c 2 _ rfl
  have b3 := B1.c 3 _ rfl
  clear A1 B1 hb1 S0
  go_wp2
  go_ret
  exact ⟨rfl, S1.out.below⟩

set_option maxHeartbeats 3200000 in
set_option maxRecDepth 100000 in
theorem eqRcptS_same (ao bo : Option Addr) (c1 c2 : Nat) (xs : List RcptD) (w : World) (ha : RcptRow w ao xs) (hb : RcptRow w bo xs) (hl : xs.length ≤ 1048576) :
    Calls Tryd.prog 248 #[.slice ao xs.length c1, .slice bo xs.length c2] w fun e w' => e = .returned (.bool true) ∧ Below w.heap.size w w' := by
  have HA : Seal _ := ⟨ha⟩
  have HB : Seal _ := ⟨hb⟩
  clear ha hb
  go_enter Tryd.func248, Tryd.ntmps248
  go_wp2
  go_loopw [5] (fun i wr => ∃ k : Nat, k ≤ xs.length ∧ i = .int .i64 k ∧ Seal (Below w.heap.size w wr)) (fun i _ => xs.length - (intOf i).toNat)
  case atStart => exact ⟨0, Nat.zero_le _, rfl, ⟨Below.refl _ _⟩⟩
  case round =>
    obtain ⟨k, hk, rfl, hbe⟩ := hrel
    by_cases hlt : k < xs.length
    · obtain ⟨x, hx⟩ : ∃ x, xs[k]? = some x := ⟨_, List.getElem?_eq_getElem hlt⟩
      obtain ⟨b, off, rfl, c0, c1, c2, c3⟩ := rcptAt (HA.out.below rcptP_stays hbe.out (Nat.le_refl _)) hx
      obtain ⟨b', off', rfl, d0, d1, d2, d3⟩ := rcptAt (HB.out.below rcptP_stays hbe.out (Nat.le_refl _)) hx
      clear hx
      go_wp2_with fail
      go_region_held3 (fun w' => w'.cell? ⟨b, off + k * 4, none⟩ = some (.string x.u) ∧ w'.cell? ⟨b, off + k * 4 + 1, none⟩ = some (.string x.d) ∧ w'.cell? ⟨b, off + k * 4 + 2, none⟩ = some (.int .i64 x.tries) ∧ w'.cell? ⟨b, off + k * 4 + 3, none⟩ = some (.int .i64 x.next) ∧ w'.cell? ⟨b', off' + k * 4, none⟩ = some (.string x.u) ∧ w'.cell? ⟨b', off' + k * 4 + 1, none⟩ = some (.string x.d) ∧ w'.cell? ⟨b', off' + k * 4 + 2, none⟩ = some (.int .i64 x.tries) ∧ w'.cell? ⟨b', off' + k * 4 + 3, none⟩ = some (.int .i64 x.next) ∧ Below wr.heap.size wr w') (first | exact ⟨c0, c1, c2, c3, d0, d1, d2, d3, (Below.refl _ _).drew⟩ | (go_split_ands; exact ⟨heldc (by assumption) hb1, heldc (by assumption) hb1, heldc (by assumption) hb1, heldc (by assumption) hb1, heldc (by assumption) hb1, heldc (by assumption) hb1, heldc (by assumption) hb1, heldc (by assumption) hb1, (by assumption : Below wr.heap.size wr _).trans (hb1.mono (by assumption : Below wr.heap.size wr _).size)⟩) | (go_split_ands; exact ⟨by assumption, by assumption, by assumption, by assumption, by assumption, by assumption, by assumption, by assumption, Below.drew (by assumption)⟩) | (go_split_ands; exact ⟨by assumption, by assumption, by assumption, by assumption, by assumption, by assumption, by assumption, by assumption, by assumption⟩)) (first | (go_at_call 265; refine (eqRcpt_same x _).mono ?_; rintro e w1 ⟨rfl, hb1⟩))
      go_split_ands
      have hbx := (by assumption : Below wr.heap.size wr _)
      go_wp2
      go_roundw
      case rel => exact ⟨k + 1, by omega, by go_num, ⟨hbe.out.trans (hbx.mono hbe.out.size)⟩⟩
      case measure => simp [intOf]; omega
    · go_wp2
      go_ret
      exact ⟨rfl, hbe.out⟩

set_option maxHeartbeats 1600000 in
set_option maxRecDepth 100000 in
theorem eqItem_same (x : ItemD) (p q : ItemV) (w : World) (ha : ItemAt w x p) (hb : ItemAt w x q) (h1 : x.rc.length ≤ 1048576) (h2 : x.body.length ≤ 1048576) :
    Calls Tryd.prog 197 #[.agg (itemV x p), .agg (itemV x q)] w fun e w' => e = .returned (.bool true) ∧ Below w.heap.size w w' := by
  have HA : Seal _ := ⟨ha⟩
  have HB : Seal _ := ⟨hb⟩
  have s0 := ((St.start w).alloc (itemV x p) 64).alloc (itemV x q) 64
  simp only [World.size_alloc] at s0
  have S0 : Seal _ := ⟨s0⟩
  have q1 : (x.id != x.id) = false := by simp
  clear s0 ha hb
  go_enter Tryd.func197, Tryd.ntmps197
  go_wp2_with fail
  refine (eqAddr_same x.fu x.fd _).mono ?_
  rintro e w1 ⟨rfl, hb1⟩
  have S1 : Seal _ := ⟨S0.out.later hb1⟩
  have b3 := S1.out.head.c 3 _ rfl
  have a3 := S1.out.two.head.c 3 _ rfl
  clear hb1 S0
  go_wp2_with fail
  refine (eqRcptS_same p.a1 q.a1 p.c1 q.c1 x.rc _ (HA.out.rc.below rcptP_stays S1.out.below (Nat.le_refl _)) (HB.out.rc.below rcptP_stays S1.out.below (Nat.le_refl _)) h1).mono ?_
  rintro e w2 ⟨rfl, hb2⟩
  have S2 : Seal _ := ⟨S1.out.later hb2⟩
  have b4 := S2.out.head.c 4 _ rfl
  have a4 := S2.out.two.head.c 4 _ rfl
  clear hb2 S1 a3 b3
  go_wp2_with fail
  refine (eqStringS_same p.a2 q.a2 p.c2 q.c2 x.body _ (HA.out.body.below S2.out.below (Nat.le_refl _)) (HB.out.body.below S2.out.below (Nat.le_refl _)) h2).mono ?_
  rintro e w3 ⟨rfl, n, rfl⟩
  go_wp2
  go_ret
  exact ⟨rfl, drewN_below S2.out.below n⟩

set_option maxHeartbeats 3200000 in
set_option maxRecDepth 100000 in
theorem eqItemS_same (ao bo : Option Addr) (c1 c2 : Nat) (xs : List ItemD) (w : World) (ha : ItemRow w ao xs) (hb : ItemRow w bo xs) (hl : xs.length ≤ 1048576) (hz : ∀ x ∈ xs, itemN x ≤ 1048576) :
    Calls Tryd.prog 123 #[.slice ao xs.length c1, .slice bo xs.length c2] w fun e w' => e = .returned (.bool true) ∧ Below w.heap.size w w' := by
  have HA : Seal _ := ⟨ha⟩
  have HB : Seal _ := ⟨hb⟩
  have HZ : Seal _ := ⟨hz⟩
  clear ha hb hz
  go_enter Tryd.func123, Tryd.ntmps123
  go_wp2
  go_loopw [5] (fun i wr => ∃ k : Nat, k ≤ xs.length ∧ i = .int .i64 k ∧ Seal (Below w.heap.size w wr)) (fun i _ => xs.length - (intOf i).toNat)
  case atStart => exact ⟨0, Nat.zero_le _, rfl, ⟨Below.refl _ _⟩⟩
  case round =>
    obtain ⟨k, hk, rfl, hbe⟩ := hrel
    by_cases hlt : k < xs.length
    · obtain ⟨x, hx⟩ : ∃ x, xs[k]? = some x := ⟨_, List.getElem?_eq_getElem hlt⟩
      obtain ⟨b, off, p, rfl, c0, c1, c2, c3, c4, ia⟩ := itemAt (HA.out.below itemP_stays hbe.out (Nat.le_refl _)) hx
      obtain ⟨b', off', q, rfl, d0, d1, d2, d3, d4, ib⟩ := itemAt (HB.out.below itemP_stays hbe.out (Nat.le_refl _)) hx
      obtain ⟨_, _, z3, _, z5, _⟩ := itemN_parts (HZ.out x (List.mem_of_getElem? hx))
      have IA : Seal _ := ⟨ia⟩
      have IB : Seal _ := ⟨ib⟩
      clear hx ia ib
      go_wp2_with fail
      go_region_held3 (fun w' => w'.cell? ⟨b, off + k * 5, none⟩ = some (.int .i64 x.id) ∧ w'.cell? ⟨b, off + k * 5 + 1, none⟩ = some (.string x.fu) ∧ w'.cell? ⟨b, off + k * 5 + 2, none⟩ = some (.string x.fd) ∧ w'.cell? ⟨b, off + k * 5 + 3, none⟩ = some (.slice p.a1 x.rc.length p.c1) ∧ w'.cell? ⟨b, off + k * 5 + 4, none⟩ = some (.slice p.a2 x.body.length p.c2) ∧ w'.cell? ⟨b', off' + k * 5, none⟩ = some (.int .i64 x.id) ∧ w'.cell? ⟨b', off' + k * 5 + 1, none⟩ = some (.string x.fu) ∧ w'.cell? ⟨b', off' + k * 5 + 2, none⟩ = some (.string x.fd) ∧ w'.cell? ⟨b', off' + k * 5 + 3, none⟩ = some (.slice q.a1 x.rc.length q.c1) ∧ w'.cell? ⟨b', off' + k * 5 + 4, none⟩ = some (.slice q.a2 x.body.length q.c2) ∧ Below wr.heap.size wr w') (first | exact ⟨c0, c1, c2, c3, c4, d0, d1, d2, d3, d4, (Below.refl _ _).drew⟩ | (go_split_ands; exact ⟨heldc (by assumption) hb1, heldc (by assumption) hb1, heldc (by assumption) hb1, heldc (by assumption) hb1, heldc (by assumption) hb1, heldc (by assumption) hb1, heldc (by assumption) hb1, heldc (by assumption) hb1, heldc (by assumption) hb1, heldc (by assumption) hb1, (by assumption : Below wr.heap.size wr _).trans (hb1.mono (by assumption : Below wr.heap.size wr _).size)⟩) | (go_split_ands; exact ⟨by assumption, by assumption, by assumption, by assumption, by assumption, by assumption, by assumption, by assumption, by assumption, by assumption, Below.drew (by assumption)⟩) | (go_split_ands; exact ⟨by assumption, by assumption, by assumption, by assumption, by assumption, by assumption, by assumption, by assumption, by assumption, by assumption, by assumption⟩)) (first | (go_at_call 197; go_split_ands; refine (eqItem_same x p q _ (IA.out.later (by assumption : Below wr.heap.size wr _)) (IB.out.later (by assumption : Below wr.heap.size wr _)) z3 z5).mono ?_; rintro e w1 ⟨rfl, hb1⟩))
      go_split_ands
      have hbx := (by assumption : Below wr.heap.size wr _)
      go_wp2
      go_roundw
      case rel => exact ⟨k + 1, by omega, by go_num, ⟨hbe.out.trans (hbx.mono hbe.out.size)⟩⟩
      case measure => simp [intOf]; omega
    · go_wp2
      go_ret
      exact ⟨rfl, hbe.out⟩

set_option maxRecDepth 100000 in
theorem eqSpool_same (s : SpoolD) (ao bo : Option Addr) (c1 c2 : Nat) (w : World) (ha : ItemRow w ao s.items) (hb : ItemRow w bo s.items) (hz : spoolN s ≤ 1048576) :
    Calls Tryd.prog 51 #[.agg (spoolV s ao c1), .agg (spoolV s bo c2)] w fun e w' => e = .returned (.bool true) ∧ Below w.heap.size w w' := by
  obtain ⟨z1, z2⟩ := spoolN_parts hz
  have HZ : Seal _ := ⟨z2⟩
  have HA : Seal _ := ⟨ha⟩
  have HB : Seal _ := ⟨hb⟩
  have s0 := ((St.start w).alloc (spoolV s ao c1) 55).alloc (spoolV s bo c2) 55
  simp only [World.size_alloc] at s0
  have S0 : Seal _ := ⟨s0⟩
  have q1 : (s.last != s.last) = false := by simp
  clear s0 ha hb hz z2
  go_enter Tryd.func51, Tryd.ntmps51
  go_wp2_with fail
  refine (eqItemS_same ao bo c1 c2 s.items _ (HA.out.below itemP_stays S0.out.below (Nat.le_refl _)) (HB.out.below itemP_stays S0.out.below (Nat.le_refl _)) z1 HZ.out).mono ?_
  rintro e w1 ⟨rfl, hb1⟩
  have S1 : Seal _ := ⟨S0.out.later hb1⟩
  clear hb1 S0
  go_wp2
  go_ret
  exact ⟨rfl, S1.out.below⟩
end Go.Proofs.YtgjkoegpdfcadaaDoor
