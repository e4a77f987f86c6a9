/- The walk of FnExactHostNew. -/
import Derived.Test.YtgjkoegpdfcadaaDoorHostHeld
import Derived.Deep.RegionWith
namespace Go.Proofs.YtgjkoegpdfcadaaDoor
open Go Go.RowKit

theorem confR_at {w : World} {c : ConfD} {a1 : Option Addr} {c1 : Nat} {a2 : Option Addr} {c2 : Nat} {l : List Res} (h : ∀ r ∈ l, r.P w) (hr : ∀ r ∈ confR a1 c1 a2 c2 c, r ∈ l) : ConfAt w c a1 a2 :=
  ⟨Row.strs (B := 0) (cap := c1) (h _ (hr _ List.mem_cons_self)), PRow.pairs (B := 0) (cap := c2) (h _ (hr _ (List.mem_cons_of_mem _ List.mem_cons_self)))⟩
theorem StX.confAt {X : Nat → Prop} {w0 w : World} {l : List Res} (h : StX X w0 w l) {c : ConfD} {a1 : Option Addr} {c1 : Nat} {a2 : Option Addr} {c2 : Nat} (hr : ∀ r ∈ confR a1 c1 a2 c2 c, r ∈ l) : ConfAt w c a1 a2 :=
  confR_at (fun _ hr' => h.get hr') hr
theorem StX.pick {X : Nat → Prop} {w0 w : World} {l1 l2 : List Res} {a b : Res} (h : StX X w0 w (l1 ++ (a :: b :: l2))) : StX X w0 w (a :: b :: (l1 ++ l2)) :=
  (h.perm List.perm_middle).perm (List.Perm.cons _ List.perm_middle)
theorem mem_two {a b r : Res} {l : List Res} (h : r ∈ [a, b]) : r ∈ a :: b :: l := by
  rcases List.mem_cons.1 h with rfl | h
  · exact List.mem_cons_self
  · rcases List.mem_cons.1 h with rfl | h
    · exact List.mem_cons_of_mem _ List.mem_cons_self
    · exact (List.not_mem_nil h).elim
def ConfMarks (W : World) (x : ConfD) (a1 a2 : Option Addr) : Prop := StrRow W a1 (markRow 1 x.own.length) ∧ PairRow W a2 (markP (1 + x.own.length) x.ways.length)
theorem ConfMarks.later {W W' : World} {x : ConfD} {a1 a2 : Option Addr} (h : ConfMarks W x a1 a2) (hb : Below W.heap.size W W') : ConfMarks W' x a1 a2 := ⟨h.1.below hb (Nat.le_refl _), h.2.later hb⟩
theorem StX.confMarks {X : Nat → Prop} {w0 w : World} {l : List Res} {x : ConfD} {a1 : Option Addr} {c1 : Nat} {a2 : Option Addr} {c2 : Nat} (h : StX X w0 w (confM 1 a1 c1 a2 c2 x.own.length x.ways.length ++ l)) : ConfMarks w x a1 a2 := by
  refine ⟨Row.strs (B := 0) (cap := c1) ?_, PRow.pairs (B := 0) (cap := c2) (t := 34) ?_⟩
  · unfold Row; rw [markRow_length]; exact h.head
  · unfold PRow; rw [markP_length]; exact h.tail.head
theorem cells_conf {w : World} {k : Nat} {c : ConfD} {a1 : Option Addr} {c1 : Nat} {a2 : Option Addr} {c2 : Nat} (h : CellsM w k (confV c a1 c1 a2 c2).toList) : w.cell? ⟨k, 0, none⟩ = some (.string c.name) ∧ w.cell? ⟨k, 1, none⟩ = some (.slice a1 c.own.length c1) ∧ w.cell? ⟨k, 2, none⟩ = some (.slice a2 c.ways.length c2) :=
  ⟨h.c 0 _ rfl, h.c 1 _ rfl, h.c 2 _ rfl⟩
theorem cells_host {w : World} {k : Nat} {c : ConfD} {a1 : Option Addr} {c1 : Nat} {a2 : Option Addr} {c2 : Nat} (h : CellsM w k (newHostV c a1 c1 a2 c2).toList) : w.cell? ⟨k, 0, none⟩ = some (.string c.name) ∧ w.cell? ⟨k, 1, none⟩ = some (.slice a1 c.own.length c1) ∧ w.cell? ⟨k, 2, none⟩ = some (.slice a2 c.ways.length c2) ∧ w.cell? ⟨k, 3, none⟩ = some (.int .i64 0) ∧ w.cell? ⟨k, 4, none⟩ = some (.slice none 0 0) ∧ w.cell? ⟨k, 5, none⟩ = some (.slice none 0 0) ∧ w.cell? ⟨k, 6, none⟩ = some (.slice none 0 0) :=
  ⟨h.c 0 _ rfl, h.c 1 _ rfl, h.c 2 _ rfl, h.c 3 _ rfl, h.c 4 _ rfl, h.c 5 _ rfl, h.c 6 _ rfl⟩
theorem okC_lens {c : ConfD} (z1 : c.own.length ≤ 1048576) (z2 : c.ways.length ≤ 1048576) : (okC c).own.length ≤ 1048576 ∧ (okC c).ways.length ≤ 1048576 := by
  unfold okC
  split
  · exact ⟨z1, z2⟩
  · exact ⟨Nat.zero_le _, Nat.zero_le _⟩

set_option maxHeartbeats 6400000 in
set_option maxRecDepth 100000 in
theorem wFnExactHostNew.walk (c : ConfD) (a1 : Option Addr) (c1 : Nat) (a2 : Option Addr) (c2 : Nat) (w : World) (hat : ConfAt w c a1 a2) (hsz : ConfSz maxLen c) (hm : HasMax w) :
    Calls Tryd.prog 14 #[.agg (confV c a1 c1 a2 c2)] w fun e w' => e = .returned (.bool true) ∧ Below w.heap.size w w' := by
  have HM : Seal _ := ⟨hm⟩
  have HA : Seal _ := ⟨hat⟩
  have HS : Seal _ := ⟨hsz⟩
  have S0 : Seal (St w _ [_]) := ⟨(St.start w).alloc (confV c a1 c1 a2 c2) 106⟩
  clear hm hat hsz
  obtain ⟨l, hl⟩ : ∃ l, leftC c 1048576 = l := ⟨_, rfl⟩
  by_cases hneg : l < 0
  · have HL : Seal _ := ⟨hl⟩
    clear hl
    go_enter Tryd.func14, Tryd.ntmps14
    go_wp2_with fail
    refine (szConf_any c a1 c1 a2 c2 1048576 _ (HA.out.below S0.out.below (Nat.le_refl _)) HS.out (by omega) (by omega)).mono ?_
    rintro e w1 ⟨rfl, hb1⟩
    rw [HL.out]
    have S1 : Seal _ := ⟨S0.out.later hb1⟩
    clear hb1
    go_wp2
    go_ret
    exact ⟨rfl, S1.out.below⟩
  have HZ : Seal (ConfSz 1048576 c) := ⟨leftC_small (left := 1048576) (by rw [hl]; exact hneg) (by omega) (by omega)⟩
  have v1 := HZ.out.owl
  have v2 := HZ.out.wal
  have zx := okC_lens v1 v2
  have CS : Seal (∀ L w0 W b1 d1 b2 d2, St w0 W L → (∀ r ∈ confR b1 d1 b2 d2 c, r ∈ L) → Calls Tryd.prog 45 #[.agg (confV c b1 d1 b2 d2)] W fun e w' => ∃ eA dA eB dB, e = .returned (.agg (newHostV (okC c) eA dA eB dB)) ∧ St W w' (confR eA dA eB dB (okC c))) := ⟨fun L w0 W b1 d1 b2 d2 h hr => specHostNew_any L c b1 d1 b2 d2 w0 W h hr (h.confAt hr) HZ.out⟩
  have CI : Seal (∀ L w0 W b1 d1 b2 d2, HasMax W → St w0 W L → (∀ r ∈ confR b1 d1 b2 d2 c, r ∈ L) → Calls Tryd.prog 43 #[.agg (confV c b1 d1 b2 d2)] W fun e w' => ∃ eA dA eB dB, e = .returned (.agg (newHostV (okC c) eA dA eB dB)) ∧ St W w' (confR eA dA eB dB (okC c))) := ⟨fun L w0 W b1 d1 b2 d2 hW h hr => implHostNew_any L c b1 d1 b2 d2 w0 W hW h hr (h.confAt hr) HZ.out⟩
  obtain ⟨x, hx⟩ : ∃ x, okC c = x := ⟨_, rfl⟩
  rw [hx] at zx CS CI
  obtain ⟨z1, z2⟩ := zx
  have HL : Seal _ := ⟨hl⟩
  clear hl hx
  obtain ⟨N, hN⟩ : ∃ N, 1 + x.own.length + x.ways.length * 2 = N := ⟨_, rfl⟩
  have HN : Seal _ := ⟨hN⟩
  obtain ⟨N0, hN0⟩ : ∃ N, 1 + c.own.length + c.ways.length * 2 = N := ⟨_, rfl⟩
  have HN0 : Seal _ := ⟨hN0⟩
  have hp : ¬ ((N : Int) < 0) := by omega
  have hp0 : ¬ ((N0 : Int) < 0) := by omega
  clear hN hN0
  go_enter Tryd.func14, Tryd.ntmps14
  go_wp2_with fail
  refine (szConf_any c a1 c1 a2 c2 1048576 _ (HA.out.below S0.out.below (Nat.le_refl _)) HS.out (by omega) (by omega)).mono ?_
  rintro e w1 ⟨rfl, hb1⟩
  rw [HL.out]
  have S1 : Seal _ := ⟨S0.out.later hb1⟩
  clear hb1 S0 HS HL
  obtain ⟨g0, g1, g2⟩ := cells_conf S1.out.head
  -- what the model answers
  go_wp2_with fail
  refine (toConf_any c a1 c1 a2 c2 _ (HA.out.below S1.out.below (Nat.le_refl _)) HZ.out).mono ?_
  rintro e w2 ⟨e1, d1, e2, d2, rfl, o2, b2⟩
  have S2 : Seal _ := ⟨S1.out.join (confOwn_st b2 o2)⟩
  clear b2 o2 S1 g0 g1 g2
  go_wp2_with fail
  refine (CS.out _ _ _ e1 d1 e2 d2 S2.out (fun r hr => List.mem_append_left _ hr)).mono ?_
  rintro e w3 ⟨p1, k1, p2, k2, rfl, t3⟩
  have S3' := S2.out.tail.tail.join (t3)
  have S3 : Seal _ := ⟨S3'.alloc (newHostV x p1 k1 p2 k2) 76⟩
  obtain ⟨g0, g1, g2⟩ := cells_conf S3'.tail.tail.head
  have l1 := S3'.tail.tail.head.lt
  clear t3 S2 S3' CS
  -- what the program answers
  go_wp2_with fail
  refine (toConf_any c a1 c1 a2 c2 _ (HA.out.below S3.out.below (Nat.le_refl _)) HZ.out).mono ?_
  rintro e w4 ⟨e3, d3, e4, d4, rfl, o4, b4⟩
  have S4' := S3.out.join (confOwn_st b4 o4)
  have S4 : Seal _ := ⟨S4'.alloc (confV c e3 d3 e4 d4) 26⟩
  clear b4 o4 S3 S4' g0 g1 g2 l1
  go_wp2_with fail
  refine (CI.out _ _ _ e3 d3 e4 d4 (HM.out.below S4.out.below (Nat.le_refl _)) S4.out (fun r hr => List.mem_cons_of_mem _ (List.mem_append_left _ hr))).mono ?_
  rintro e w5 ⟨q1, j1, q2, j2, rfl, t5⟩
  have S5' := S4.out.join t5
  have S5 : Seal _ := ⟨S5'.alloc (newHostV x q1 j1 q2 j2) 76⟩
  have l1 := S5'.tail.tail.tail.tail.tail.head.lt
  obtain ⟨g0, g1, g2, g3, g4, g5, g6⟩ := cells_host S5'.tail.tail.tail.tail.tail.head
  have MA : Seal (ConfAt _ x q1 q2) := ⟨S5.out.confAt (c1 := j1) (c2 := j2) (fun r hr => List.mem_cons_of_mem _ (List.mem_append_left _ hr))⟩
  have MB : Seal (ConfAt _ x p1 p2) := ⟨S5.out.tail.tail.tail.tail.tail.tail.tail.confAt (c1 := k1) (c2 := k2) (fun r hr => List.mem_append_left _ hr)⟩
  clear t5 S4 S5'
  go_wp2_with fail
  refine (eqHost_new x q1 j1 q2 j2 p1 k1 p2 k2 _ MA.out MB.out z1 z2).mono ?_
  rintro e w6 ⟨rfl, b6⟩
  have S6 : Seal _ := ⟨S5.out.later b6⟩
  clear b6 S5 MA MB l1 g0 g1 g2 g3 g4 g5 g6
  -- the argument reads as it did
  have KA := S6.out.tail.tail.tail.tail.tail.tail.tail.tail.tail.head
  have KX := S6.out.tail.tail.tail.head
  obtain ⟨g0, g1, g2⟩ := cells_conf KA
  obtain ⟨x0, x1, x2⟩ := cells_conf KX
  have lt1 := KA.lt
  have lt2 := KX.lt
  have S6d : Seal _ := ⟨S6.out.drew⟩
  clear KA KX
  go_wp2_with fail
  go_region_with (first | (go_at_call 65; refine (toConf_any c a1 c1 a2 c2 _ (HA.out.below S6d.out.below (Nat.le_refl _)) HZ.out).mono ?_; rintro e w7 ⟨e5, d5, e6, d6, rfl, o7, b7⟩; have S7 : Seal _ := ⟨S6d.out.join (confOwn_st b7 o7)⟩; obtain ⟨y0, y1, y2⟩ := cells_conf S7.out.tail.tail.tail.tail.tail.head; clear o7 b7) | (go_at_call 67; refine (eqConf_same c e3 d3 e4 d4 e5 d5 e6 d6 _ (S7.out.tail.tail.tail.tail.tail.tail.confAt (c1 := d3) (c2 := d4) (fun r hr => List.mem_append_left _ hr)) (S7.out.confAt (c1 := d5) (c2 := d6) (fun r hr => List.mem_append_left _ hr)) v1 v2).mono ?_; rintro e w8 ⟨rfl, b8⟩))
  all_goals
    have S8 : Seal _ := ⟨S7.out.tail.tail.later b8⟩
    clear b8 S7 S6 S6d y0 y1 y2 g0 g1 g2 x0 x1 x2 lt1 lt2
    obtain ⟨x0, x1, x2⟩ := cells_conf S8.out.tail.tail.tail.head
    -- the argument is marked: the answer stays
    go_wp2_with fail
    refine (markConf_any _ 1 c e3 d3 e4 d4 w _ (StX.pick (l1 := [_, _, _, _]) S8.out) (by omega)).mono ?_
    rw [HN0.out]
    rintro e w9 ⟨rfl, t9⟩
    have S9 : Seal _ := ⟨t9.tail.tail⟩
    clear t9 S8 x0 x1 x2
    obtain ⟨x0, x1, x2, x3, x4, x5, x6⟩ := cells_host S9.out.head
    obtain ⟨g0, g1, g2, g3, g4, g5, g6⟩ := cells_host S9.out.tail.tail.tail.tail.head
    have MA : Seal (ConfAt _ x q1 q2) := ⟨S9.out.tail.confAt (c1 := j1) (c2 := j2) (fun _ hr => mem_two hr)⟩
    have MB : Seal (ConfAt _ x p1 p2) := ⟨S9.out.tail.tail.tail.tail.tail.confAt (c1 := k1) (c2 := k2) (fun r hr => List.mem_append_left _ hr)⟩
    go_wp2_with fail
    refine (eqHost_new x q1 j1 q2 j2 p1 k1 p2 k2 _ MA.out MB.out z1 z2).mono ?_
    rintro e w10 ⟨rfl, b10⟩
    have S10 : Seal _ := ⟨S9.out.later b10⟩
    clear b10 S9 MA MB x0 x1 x2 x3 x4 x5 x6 g0 g1 g2 g3 g4 g5 g6
    obtain ⟨x0, x1, x2, x3, x4, x5, x6⟩ := cells_host S10.out.head
    -- the answer is marked, and holds its marks
    go_wp2_with fail
    refine (markHost_new _ 1 x q1 j1 q2 j2 w _ (StX.pick (l1 := [_]) S10.out) (by omega)).mono ?_
    rw [HN.out]
    rintro e w11 ⟨rfl, t11⟩
    have R11 : Seal (ConfMarks w11 x q1 q2) := ⟨t11.confMarks⟩
    have S11 : Seal _ := ⟨t11.tail.tail⟩
    clear t11 S10 x0 x1 x2 x3 x4 x5 x6
    have CH : Seal (∀ W, ConfMarks W x q1 q2 → Calls Tryd.prog 70 #[.agg #[.string x.name, .slice q1 x.own.length j1, .slice q2 x.ways.length j2, .int .i64 0, .slice none 0 0, .slice none 0 0, .slice none 0 0], .int .i64 1] W fun e w' => e = .returned (.int .i64 (N : Int)) ∧ Below W.heap.size W w') := ⟨fun W h => HN.out ▸ heldHost_new 1 x.own.length x.ways.length x.name q1 j1 q2 j2 W h.1 h.2 (by omega)⟩
    obtain ⟨x0, x1, x2, x3, x4, x5, x6⟩ := cells_host S11.out.head
    go_wp2_with fail
    refine (CH.out _ R11.out).mono ?_
    rintro e w12 ⟨rfl, b12⟩
    have S12 : Seal _ := ⟨S11.out.later b12⟩
    have R12 : Seal _ := ⟨R11.out.later b12⟩
    clear b12 S11 R11 x0 x1 x2 x3 x4 x5 x6
    obtain ⟨g0, g1, g2⟩ := cells_conf S12.out.tail.tail.tail.tail.tail.head
    -- another call's answer shares nothing with it
    go_wp2_with fail
    refine (toConf_any c a1 c1 a2 c2 _ (HA.out.below S12.out.below (Nat.le_refl _)) HZ.out).mono ?_
    rintro e w13 ⟨e7, d7, e8, d8, rfl, o13, b13⟩
    have S13 : Seal _ := ⟨S12.out.join (confOwn_st b13 o13)⟩
    have R13 : Seal _ := ⟨R12.out.later b13⟩
    clear b13 o13 S12 R12 g0 g1 g2
    go_wp2_with fail
    refine (CI.out _ _ _ e7 d7 e8 d8 (HM.out.below S13.out.below (Nat.le_refl _)) S13.out (fun r hr => List.mem_append_left _ hr)).mono ?_
    rintro e w14 ⟨u1, v1', u2, v2', rfl, t14⟩
    have S14' := S13.out.tail.tail.join t14
    have R14 : Seal _ := ⟨(R13.out.later t14.below).later ((Below.refl w14.heap.size w14).alloc (Nat.le_refl _) (.cells (newHostV x u1 v1' u2 v2') 76))⟩
    have S14 : Seal _ := ⟨S14'.alloc (newHostV x u1 v1' u2 v2') 76⟩
    have KG := S14'.tail.tail.head
    have KW := S14'.tail.tail.tail.tail.head
    have l1 := KW.lt
    have l2 := KG.lt
    obtain ⟨g0, g1, g2, g3, g4, g5, g6⟩ := cells_host KW
    have MA : Seal (ConfAt _ x u1 u2) := ⟨S14.out.tail.confAt (c1 := v1') (c2 := v2') (fun r hr => List.mem_append_left _ hr)⟩
    have MB : Seal (ConfAt _ x p1 p2) := ⟨S14.out.tail.tail.tail.tail.tail.tail.confAt (c1 := k1) (c2 := k2) (fun r hr => List.mem_append_left _ hr)⟩
    clear t14 S13 R13 S14' KG KW
    go_wp2_with fail
    refine (eqHost_new x u1 v1' u2 v2' p1 k1 p2 k2 _ MA.out MB.out z1 z2).mono ?_
    rintro e w15 ⟨rfl, b15⟩
    have S15 : Seal _ := ⟨S14.out.later b15⟩
    have R15 : Seal _ := ⟨R14.out.later b15⟩
    clear b15 S14 R14 MA MB l1 l2 g0 g1 g2 g3 g4 g5 g6
    obtain ⟨x0, x1, x2, x3, x4, x5, x6⟩ := cells_host S15.out.tail.tail.tail.head
    go_wp2_with fail
    refine (CH.out _ R15.out).mono ?_
    rintro e w16 ⟨rfl, b16⟩
    have S16 : Seal _ := ⟨S15.out.later b16⟩
    clear b16 S15 R15 x0 x1 x2 x3 x4 x5 x6
    go_wp2
    go_ret
    exact ⟨rfl, S16.out.below⟩
end Go.Proofs.YtgjkoegpdfcadaaDoor
