/- Contracts: marks written into a new host that a call owns, and found there. -/
import Derived.Test.YtgjkoegpdfcadaaDoorHostMark
namespace Go.Proofs.YtgjkoegpdfcadaaDoor
open Go Go.RowKit

theorem confOwn_st {w w' : World} {c : ConfD} {b1 : Option Addr} {d1 : Nat} {b2 : Option Addr} {d2 : Nat} (hb : Below w.heap.size w w') (o : ConfOwn w' w.heap.size c b1 d1 b2 d2) : St w w' (confR b1 d1 b2 d2 c) := by
  refine ⟨(Only.of_below hb), fun r hr => ?_, ?_⟩
  · rcases List.mem_cons.1 hr with rfl | hr
    · exact ⟨row_zero o.own, fun i hi => World.ownsRow.lt o.own i hi⟩
    · rcases List.mem_cons.1 hr with rfl | hr
      · exact ⟨row_zero o.ways, fun i hi => World.ownsRow.lt o.ways i hi⟩
      · exact (List.not_mem_nil hr).elim
  · refine .cons (fun b hb' i hi hj => ?_) (.cons (fun b hb' => (List.not_mem_nil hb').elim) .nil)
    rcases List.mem_cons.1 hb' with rfl | hb'
    · have e1 : blockOf b1 = some i := (own_block b1 c.own.length d1) ▸ hi
      have e2 : blockOf b2 = some i := (own_block b2 c.ways.length d2) ▸ hj
      rcases o.ne.2 with h | h
      · rw [h] at e1; cases e1
      · exact h (e1.trans e2.symm)
    · exact (List.not_mem_nil hb').elim
/-- The rows of settings that are marked. -/
abbrev confM (k : Nat) (a1 : Option Addr) (c1 : Nat) (a2 : Option Addr) (c2 : Nat) (n m : Nat) : List Res :=
  [Res.row 9 1 (.slice a1 n c1) n ((markRow k n).map Value.string), Res.row 34 2 (.slice a2 m c2) m (pairCells (markP (k + n) m))]

set_option maxHeartbeats 1600000 in
set_option maxRecDepth 100000 in
theorem markConf_any {X : Nat → Prop} (l : List Res) (k : Nat) (c : ConfD) (a1 : Option Addr) (c1 : Nat) (a2 : Option Addr) (c2 : Nat) (w0 w : World) (h : StX X w0 w (confR a1 c1 a2 c2 c ++ l)) (hl : k + c.own.length + c.ways.length * 2 ≤ 16777216) :
    Calls Tryd.prog 68 #[.agg (confV c a1 c1 a2 c2), .int .i64 k] w fun e w' => e = .returned (.int .i64 ((k + c.own.length + c.ways.length * 2 : Nat) : Int)) ∧ StX X w0 w' (confM k a1 c1 a2 c2 c.own.length c.ways.length ++ l) := by
  have S0 : Seal _ := ⟨(h.alloc (confV c a1 c1 a2 c2) 26).two⟩
  clear h
  go_enter Tryd.func68, Tryd.ntmps68
  go_wp2_with fail
  refine (markStringS_row 0 c1 k a1 c.own _ S0.out.head (Nat.zero_le _) (by omega)).mono ?_
  rintro e w1 ⟨rfl, o1, g1⟩
  have S1 : Seal _ := ⟨S0.out.write o1 g1⟩
  have x2 := S1.out.two.head.c 2 _ rfl
  obtain ⟨N, hN⟩ : ∃ N, k + c.own.length = N := ⟨_, rfl⟩
  rw [hN] at hl ⊢
  clear o1 g1 S0
  go_wp2_with fail
  refine (markWayS_any 0 N a2 c2 c.ways _ S1.out.three.head hl).mono ?_
  rintro e w2 ⟨rfl, o2, g2⟩
  have S2 : Seal _ := ⟨S1.out.three.write o2 (by rw [own_block]; exact g2)⟩
  clear o2 g2 S1 x2
  go_wp2
  go_ret
  subst hN
  exact ⟨rfl, S2.out.two.three.tail⟩

set_option maxHeartbeats 1600000 in
set_option maxRecDepth 100000 in
theorem heldConf_any (k n m : Nat) (nm : ByteArray) (a1 : Option Addr) (c1 : Nat) (a2 : Option Addr) (c2 : Nat) (w : World) (h1 : StrRow w a1 (markRow k n)) (h2 : PairRow w a2 (markP (k + n) m)) (hl : k + n + m * 2 ≤ 16777216) :
    Calls Tryd.prog 146 #[.agg #[.string nm, .slice a1 n c1, .slice a2 m c2], .int .i64 k] w fun e w' => e = .returned (.int .i64 ((k + n + m * 2 : Nat) : Int)) ∧ Below w.heap.size w w' := by
  have S0 : Seal _ := ⟨(St.start w).alloc #[.string nm, .slice a1 n c1, .slice a2 m c2] 26⟩
  have C1 : Seal _ := ⟨heldStringS_own a1 c1 k n _ (h1.below S0.out.below (Nat.le_refl _)) (by omega)⟩
  have H2 : Seal _ := ⟨h2⟩
  obtain ⟨N, hN⟩ : ∃ N, k + n = N := ⟨_, rfl⟩
  obtain ⟨M, hM⟩ : ∃ M, N + m * 2 = M := ⟨_, rfl⟩
  rw [hN] at hl C1 H2 ⊢
  rw [hM] at hl ⊢
  have hn1 : ¬ ((N : Int) < 0) := by omega
  have hn2 : ¬ ((M : Int) < 0) := by omega
  clear h1 h2
  go_enter Tryd.func146, Tryd.ntmps146
  go_wp2_with fail
  refine C1.out.mono ?_
  rintro e w1 ⟨rfl, hb1⟩
  have S1 : Seal _ := ⟨S0.out.later hb1⟩
  have x2 := S1.out.head.c 2 _ rfl
  clear hb1 S0 C1
  go_wp2_with fail
  refine (heldWayS_any a2 c2 N m _ (H2.out.later S1.out.below) (by omega)).mono ?_
  rintro e w2 ⟨rfl, hb2⟩
  rw [hM]
  have S2 : Seal _ := ⟨S1.out.later hb2⟩
  clear hb2 S1 x2
  go_wp2
  go_ret
  exact ⟨rfl, S2.out.below⟩

theorem markBoxS_none (q : Int) (W : World) : Calls Tryd.prog 144 #[.slice none 0 0, .int .i64 q] W fun e w' => e = .returned (.int .i64 q) ∧ w' = W := by
  go_enter Tryd.func144, Tryd.ntmps144
  go_wp2
  go_loop [1, 5] (fun c i => c = .int .i64 q ∧ i = .int .i64 0) (fun _ _ => 0)
  case atStart => exact ⟨rfl, rfl⟩
  case round =>
    obtain ⟨rfl, rfl⟩ := hrel
    go_wp2
    go_ret
    exact ⟨rfl, rfl⟩

theorem markLossS_none (q : Int) (W : World) : Calls Tryd.prog 145 #[.slice none 0 0, .int .i64 q] W fun e w' => e = .returned (.int .i64 q) ∧ w' = W := by
  go_enter Tryd.func145, Tryd.ntmps145
  go_wp2
  go_loop [1, 5] (fun c i => c = .int .i64 q ∧ i = .int .i64 0) (fun _ _ => 0)
  case atStart => exact ⟨rfl, rfl⟩
  case round =>
    obtain ⟨rfl, rfl⟩ := hrel
    go_wp2
    go_ret
    exact ⟨rfl, rfl⟩

theorem heldBoxS_none (q : Int) (W : World) : Calls Tryd.prog 148 #[.slice none 0 0, .int .i64 q] W fun e w' => e = .returned (.int .i64 q) ∧ w' = W := by
  go_enter Tryd.func148, Tryd.ntmps148
  go_wp2
  go_loop [1, 5] (fun c i => c = .int .i64 q ∧ i = .int .i64 0) (fun _ _ => 0)
  case atStart => exact ⟨rfl, rfl⟩
  case round =>
    obtain ⟨rfl, rfl⟩ := hrel
    go_wp2
    go_ret
    exact ⟨rfl, rfl⟩

theorem heldLossS_none (q : Int) (W : World) : Calls Tryd.prog 149 #[.slice none 0 0, .int .i64 q] W fun e w' => e = .returned (.int .i64 q) ∧ w' = W := by
  go_enter Tryd.func149, Tryd.ntmps149
  go_wp2
  go_loop [1, 5] (fun c i => c = .int .i64 q ∧ i = .int .i64 0) (fun _ _ => 0)
  case atStart => exact ⟨rfl, rfl⟩
  case round =>
    obtain ⟨rfl, rfl⟩ := hrel
    go_wp2
    go_ret
    exact ⟨rfl, rfl⟩

set_option maxHeartbeats 1600000 in
set_option maxRecDepth 100000 in
theorem markHost_new {X : Nat → Prop} (l : List Res) (k : Nat) (c : ConfD) (a1 : Option Addr) (c1 : Nat) (a2 : Option Addr) (c2 : Nat) (w0 w : World) (h : StX X w0 w (confR a1 c1 a2 c2 c ++ l)) (hl : k + c.own.length + c.ways.length * 2 ≤ 16777216) :
    Calls Tryd.prog 69 #[.agg (newHostV c a1 c1 a2 c2), .int .i64 k] w fun e w' => e = .returned (.int .i64 ((k + c.own.length + c.ways.length * 2 : Nat) : Int)) ∧ StX X w0 w' (confM k a1 c1 a2 c2 c.own.length c.ways.length ++ l) := by
  have S0 : Seal _ := ⟨(h.alloc (newHostV c a1 c1 a2 c2) 76).three.three⟩
  have C : Seal _ := ⟨markConf_any _ k c a1 c1 a2 c2 w0 _ S0.out hl⟩
  obtain ⟨N, hN⟩ : ∃ N, k + c.own.length + c.ways.length * 2 = N := ⟨_, rfl⟩
  rw [hN] at hl C ⊢
  clear h S0
  go_enter Tryd.func69, Tryd.ntmps69
  go_wp2_with fail
  refine C.out.mono ?_
  rintro e w1 ⟨rfl, s1⟩
  have S1 : Seal _ := ⟨s1⟩
  have K1 := s1.three.head
  have x3 := K1.c 3 _ rfl
  have x4 := K1.c 4 _ rfl
  have s2 := s1.nothing 64 5
  have D : Seal _ := ⟨markSpool_any _ N ⟨0, []⟩ none 0 [] rfl w0 _ s2 hl (by decide)⟩
  clear s1 s2 K1 C S1
  go_wp2_with fail
  refine D.out.mono ?_
  rintro e w2 ⟨rfl, s2⟩
  have S2 : Seal _ := ⟨s2.tail⟩
  have K2 := s2.tail.three.head
  have x5 := K2.c 5 _ rfl
  have x6 := K2.c 6 _ rfl
  clear s2 K2 D x3 x4
  rw [show N + sumN itemMarks ([] : List ItemD) = N from rfl]
  go_wp2_with fail
  refine (markBoxS_none _ _).mono ?_
  rintro e w3 ⟨rfl, rfl⟩
  go_wp2_with fail
  refine (markLossS_none _ _).mono ?_
  rintro e w4 ⟨rfl, rfl⟩
  go_wp2
  go_ret
  exact ⟨rfl, S2.out.three.tail⟩

set_option maxHeartbeats 1600000 in
set_option maxRecDepth 100000 in
theorem heldHost_new (k n m : Nat) (nm : ByteArray) (a1 : Option Addr) (c1 : Nat) (a2 : Option Addr) (c2 : Nat) (w : World) (h1 : StrRow w a1 (markRow k n)) (h2 : PairRow w a2 (markP (k + n) m)) (hl : k + n + m * 2 ≤ 16777216) :
    Calls Tryd.prog 70 #[.agg #[.string nm, .slice a1 n c1, .slice a2 m c2, .int .i64 0, .slice none 0 0, .slice none 0 0, .slice none 0 0], .int .i64 k] w fun e w' => e = .returned (.int .i64 ((k + n + m * 2 : Nat) : Int)) ∧ Below w.heap.size w w' := by
  have S0 : Seal _ := ⟨(St.start w).alloc #[.string nm, .slice a1 n c1, .slice a2 m c2, .int .i64 0, .slice none 0 0, .slice none 0 0, .slice none 0 0] 76⟩
  have C : Seal _ := ⟨heldConf_any k n m nm a1 c1 a2 c2 _ (h1.below S0.out.below (Nat.le_refl _)) (h2.later S0.out.below) hl⟩
  obtain ⟨N, hN⟩ : ∃ N, k + n + m * 2 = N := ⟨_, rfl⟩
  rw [hN] at hl C ⊢
  have hn1 : ¬ ((N : Int) < 0) := by omega
  clear h1 h2
  go_enter Tryd.func70, Tryd.ntmps70
  go_wp2_with fail
  refine C.out.mono ?_
  rintro e w1 ⟨rfl, hb1⟩
  have S1 : Seal _ := ⟨S0.out.later hb1⟩
  have K1 := S1.out.head
  have x3 := K1.c 3 _ rfl
  have x4 := K1.c 4 _ rfl
  clear hb1 S0 C K1
  have D : Seal _ := ⟨heldSpool_any N ⟨0, []⟩ 0 rfl none 0 0 w1 (itemRow_none _) hl (by decide)⟩
  go_wp2_with fail
  refine D.out.mono ?_
  rintro e w2 ⟨rfl, hb2⟩
  have S2 : Seal _ := ⟨S1.out.later hb2⟩
  have K2 := S2.out.head
  have x5 := K2.c 5 _ rfl
  have x6 := K2.c 6 _ rfl
  clear hb2 S1 D K2 x3 x4
  rw [show N + sumN itemMarks ([] : List ItemD) = N from rfl]
  go_wp2_with fail
  refine (heldBoxS_none _ _).mono ?_
  rintro e w3 ⟨rfl, rfl⟩
  go_wp2_with fail
  refine (heldLossS_none _ _).mono ?_
  rintro e w4 ⟨rfl, rfl⟩
  go_wp2
  go_ret
  exact ⟨rfl, S2.out.below⟩
end Go.Proofs.YtgjkoegpdfcadaaDoor
