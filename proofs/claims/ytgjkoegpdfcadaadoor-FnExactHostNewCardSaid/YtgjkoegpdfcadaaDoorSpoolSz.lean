/- Contracts: the laws' sizes of spools. -/
import Derived.Test.YtgjkoegpdfcadaaDoorSpoolD
namespace Go.Proofs.YtgjkoegpdfcadaaDoor
open Go Go.RowKit

set_option maxRecDepth 100000 in
theorem szRcpt_any (x : RcptD) (left : Int) (w : World) (h0 : 0 ≤ left) (h1 : left ≤ 1048576) (hf : RcptF x) :
    Calls Tryd.prog 263 #[.agg (rcptV x), .int .i64 left] w fun e w' => e = .returned (.int .i64 (leftN (rcptN x) left)) ∧ Below w.heap.size w w' := by
  have b0 : Seal (Below w.heap.size w (w.alloc (.cells (rcptV x) 265))) := ⟨(Below.refl _ _).alloc (Nat.le_refl _) _⟩
  obtain ⟨z1, z2⟩ := hf
  unfold maxLen at z1 z2
  obtain ⟨l, hl⟩ : ∃ l, leftA x.u x.d left = l := ⟨_, rfl⟩
  have HL : Seal _ := ⟨hl⟩
  have HQ : Seal (leftN (rcptN x) left = l) := ⟨by rw [← hl, leftA_N]; rfl⟩
  have hm : l < 0 → l = -1 := fun h => by rw [← HQ.out] at h ⊢; exact leftN_neg h
  clear hl
  go_enter Tryd.func263, Tryd.ntmps263
  go_wp2_with fail
  refine (szAddr_any x.u x.d left _ h0 h1 (by omega) (by omega)).mono ?_
  rintro e w1 ⟨rfl, hb1⟩
  rw [HL.out]
  have B1 : Seal _ := ⟨b0.out.trans (hb1.mono b0.out.size)⟩
  clear hb1 b0
  by_cases hn : l < 0
  · have HN : Seal _ := ⟨hm hn⟩
    clear hm
    go_wp2
    go_ret
    exact ⟨ret_i (HN.out.symm.trans HQ.out.symm), B1.out⟩
  · clear hm
    go_wp2
    go_ret
    exact ⟨ret_i HQ.out.symm, B1.out⟩

set_option maxHeartbeats 800000 in
set_option maxRecDepth 100000 in
theorem szRcptS_any (ao : Option Addr) (cap : Nat) (xs : List RcptD) (left : Int) (w : World) (hr : RcptRow w ao xs) (hl : xs.length ≤ maxLen) (h0 : 0 ≤ left) (h1 : left ≤ 1048576) (hs : ∀ x ∈ xs, RcptF x) :
    Calls Tryd.prog 246 #[.slice ao xs.length cap, .int .i64 left] w fun e w' => e = .returned (.int .i64 (leftN (rowN rcptN xs) left)) ∧ Below w.heap.size w w' := by
  have HR : Seal _ := ⟨hr⟩
  have HS : Seal _ := ⟨hs⟩
  unfold maxLen at hl
  clear hr hs
  by_cases hlen : left < xs.length
  · have hm : Seal (leftN (rowN rcptN xs) left = -1) := ⟨by unfold leftN rowN; rw [if_neg (by omega)]⟩
    go_enter Tryd.func246, Tryd.ntmps246
    go_wp2
    go_ret
    exact ⟨ret_i hm.out.symm, Below.refl _ _⟩
  · have HI : Seal (leftN (xs.length + sumN rcptN (xs.take 0)) left = left - xs.length) := ⟨by unfold leftN sumN; rw [if_pos (by simp; omega)]; simp⟩
    go_enter Tryd.func246, Tryd.ntmps246
    go_wp2
    go_loopw [1, 5] (fun l i wr => ∃ (k : Nat) (r : Int), k ≤ xs.length ∧ i = .int .i64 k ∧ l = .int .i64 r ∧ 0 ≤ r ∧ r ≤ 1048576 ∧ Seal (leftN (xs.length + sumN rcptN (xs.take k)) left = r) ∧ Seal (Below w.heap.size w wr)) (fun _ i _ => xs.length - (intOf i).toNat)
    case atStart => exact ⟨0, left - xs.length, Nat.zero_le _, rfl, rfl, by omega, by omega, HI, ⟨Below.refl _ _⟩⟩
    case round =>
      obtain ⟨k, r, hk, rfl, rfl, hr0, hr1, H, hb⟩ := hrel
      clear HI
      by_cases hlt : k < xs.length
      · obtain ⟨x, hx⟩ : ∃ x, xs[k]? = some x := ⟨_, List.getElem?_eq_getElem hlt⟩
        obtain ⟨b, off, rfl, c0, c1, c2, c3⟩ := rcptAt (HR.out.below rcptP_stays hb.out (Nat.le_refl _)) hx
        have HF : Seal _ := ⟨HS.out x (List.mem_of_getElem? hx)⟩
        have HN : Seal _ := ⟨leftN_row_next rcptN hx H.out (by omega)⟩
        clear hx
        obtain ⟨l2, h2⟩ : ∃ l2, leftN (rcptN x) r = l2 := ⟨_, rfl⟩
        have hle := leftN_le (rcptN x) hr0
        rw [h2] at hle
        have HL : Seal _ := ⟨h2⟩
        clear h2
        go_wp2_with fail
        refine (szRcpt_any x r _ hr0 hr1 HF.out).mono ?_
        rintro e w1 ⟨rfl, hb1⟩
        rw [HL.out]
        have B1 : Seal _ := ⟨hb.out.trans (hb1.mono hb.out.size)⟩
        clear hb1 hb
        by_cases hneg : l2 < 0
        · have hm : Seal (leftN (rowN rcptN xs) left = -1) := ⟨leftN_row_bad rcptN xs (k + 1) (by rw [HN.out]; exact HL.out) hneg⟩
          go_wp2
          go_ret
          exact ⟨ret_i hm.out.symm, B1.out⟩
        · go_wp2
          go_roundw
          case rel => exact ⟨k + 1, l2, by omega, by go_num, rfl, by omega, by omega, ⟨by rw [HN.out]; exact HL.out⟩, B1⟩
          case measure => simp [intOf]; omega
      · have hm : Seal (leftN (rowN rcptN xs) left = r) := ⟨by
          have e1 := H.out
          rw [List.take_of_length_le (by omega)] at e1
          exact e1⟩
        go_wp2
        go_ret
        exact ⟨ret_i hm.out.symm, hb.out⟩

set_option maxHeartbeats 1600000 in
set_option maxRecDepth 100000 in
theorem szItem_any (x : ItemD) (p : ItemV) (left : Int) (w : World) (hat : ItemAt w x p) (h0 : 0 ≤ left) (h1 : left ≤ 1048576) (hf : ItemF x) :
    Calls Tryd.prog 195 #[.agg (itemV x p), .int .i64 left] w fun e w' => e = .returned (.int .i64 (leftN (itemN x) left)) ∧ Below w.heap.size w w' := by
  have S0 : Seal _ := ⟨(St.start w).alloc (itemV x p) 213⟩
  have HA : Seal _ := ⟨hat⟩
  obtain ⟨z1, z2, z3, z4, z5, z6⟩ := hf
  have Z4 : Seal _ := ⟨z4⟩
  have Z6 : Seal (∀ y ∈ x.body, y.size ≤ 9223372036854775807) := ⟨fun y hy => by have := z6 y hy; unfold maxLen at this; omega⟩
  have Z3 := z3
  unfold maxLen at z1 z2 z3 z5
  clear hat z4 z6
  obtain ⟨l1, e1⟩ : ∃ l, leftA x.fu x.fd left = l := ⟨_, rfl⟩
  have E1 : Seal (leftA x.fu x.fd left = l1) := ⟨e1⟩
  have Q1 : Seal (leftN (x.fu.size + x.fd.size) left = l1) := ⟨by rw [← e1, leftA_N]⟩
  have L1 := leftN_le (x.fu.size + x.fd.size) h0
  rw [Q1.out] at L1
  clear e1
  go_enter Tryd.func195, Tryd.ntmps195
  go_wp2_with fail
  refine (szAddr_any x.fu x.fd left _ h0 h1 (by omega) (by omega)).mono ?_
  rintro e w1 ⟨rfl, hb1⟩
  rw [E1.out]
  have S1 : Seal _ := ⟨S0.out.later hb1⟩
  have P1 := S1.out.head
  have g3 := P1.c 3 _ rfl
  clear hb1 S0 P1
  by_cases n1 : l1 < 0
  · have hm : Seal (leftN (itemN x) left = -1) := ⟨by unfold itemN; rw [Nat.add_assoc]; exact leftN_more _ (by rw [Q1.out]; exact n1)⟩
    go_wp2
    go_ret
    exact ⟨ret_i hm.out.symm, S1.out.below⟩
  obtain ⟨l2, e2⟩ : ∃ l, leftN (rowN rcptN x.rc) l1 = l := ⟨_, rfl⟩
  have Q2 : Seal (leftN (x.fu.size + x.fd.size + rowN rcptN x.rc) left = l2) := ⟨by rw [leftN_step n1 Q1.out]; exact e2⟩
  have L2 := leftN_le (rowN rcptN x.rc) (left := l1) (by omega)
  rw [e2] at L2
  have E2 : Seal _ := ⟨e2⟩
  clear e2
  go_wp2_with fail
  refine (szRcptS_any p.a1 p.c1 x.rc l1 _ (HA.out.rc.below rcptP_stays S1.out.below (Nat.le_refl _)) Z3 (by omega) (by omega) Z4.out).mono ?_
  rintro e w2 ⟨rfl, hb2⟩
  rw [E2.out]
  have S2 : Seal _ := ⟨S1.out.later hb2⟩
  have P2 := S2.out.head
  have g4 := P2.c 4 _ rfl
  clear hb2 S1 P2 g3
  by_cases n2 : l2 < 0
  · have hm : Seal (leftN (itemN x) left = -1) := ⟨leftN_more _ (by rw [Q2.out]; exact n2)⟩
    go_wp2
    go_ret
    exact ⟨ret_i hm.out.symm, S2.out.below⟩
  obtain ⟨l3, e3⟩ : ∃ l, leftB x.body l2 = l := ⟨_, rfl⟩
  have Q3 : Seal (leftN (itemN x) left = l3) := ⟨by unfold itemN; rw [leftN_step n2 Q2.out, ← leftB_N]; exact e3⟩
  have E3 : Seal _ := ⟨e3⟩
  have hm3 : l3 < 0 → l3 = -1 := fun h => by rw [← Q3.out] at h ⊢; exact leftN_neg h
  clear e3
  go_wp2_with fail
  refine (szStringS_any p.a2 p.c2 x.body l2 _ (HA.out.body.below S2.out.below (Nat.le_refl _)) (by omega) (by omega) (by omega) Z6.out).mono ?_
  rintro e w3 ⟨rfl, rfl⟩
  rw [E3.out]
  by_cases n3 : l3 < 0
  · have hm : Seal _ := ⟨hm3 n3⟩
    clear hm3
    go_wp2
    go_ret
    exact ⟨ret_i (hm.out.symm.trans Q3.out.symm), S2.out.below⟩
  · clear hm3
    go_wp2
    go_ret
    exact ⟨ret_i Q3.out.symm, S2.out.below⟩

set_option maxHeartbeats 800000 in
set_option maxRecDepth 100000 in
theorem szItemS_any (ao : Option Addr) (cap : Nat) (xs : List ItemD) (left : Int) (w : World) (hr : ItemRow w ao xs) (hl : xs.length ≤ maxLen) (h0 : 0 ≤ left) (h1 : left ≤ 1048576) (hs : ∀ x ∈ xs, ItemF x) :
    Calls Tryd.prog 121 #[.slice ao xs.length cap, .int .i64 left] w fun e w' => e = .returned (.int .i64 (leftN (rowN itemN xs) left)) ∧ Below w.heap.size w w' := by
  have HR : Seal _ := ⟨hr⟩
  have HS : Seal _ := ⟨hs⟩
  unfold maxLen at hl
  clear hr hs
  by_cases hlen : left < xs.length
  · have hm : Seal (leftN (rowN itemN xs) left = -1) := ⟨by unfold leftN rowN; rw [if_neg (by omega)]⟩
    go_enter Tryd.func121, Tryd.ntmps121
    go_wp2
    go_ret
    exact ⟨ret_i hm.out.symm, Below.refl _ _⟩
  · have HI : Seal (leftN (xs.length + sumN itemN (xs.take 0)) left = left - xs.length) := ⟨by unfold leftN sumN; rw [if_pos (by simp; omega)]; simp⟩
    go_enter Tryd.func121, Tryd.ntmps121
    go_wp2
    go_loopw [1, 5] (fun l i wr => ∃ (k : Nat) (r : Int), k ≤ xs.length ∧ i = .int .i64 k ∧ l = .int .i64 r ∧ 0 ≤ r ∧ r ≤ 1048576 ∧ Seal (leftN (xs.length + sumN itemN (xs.take k)) left = r) ∧ Seal (Below w.heap.size w wr)) (fun _ i _ => xs.length - (intOf i).toNat)
    case atStart => exact ⟨0, left - xs.length, Nat.zero_le _, rfl, rfl, by omega, by omega, HI, ⟨Below.refl _ _⟩⟩
    case round =>
      obtain ⟨k, r, hk, rfl, rfl, hr0, hr1, H, hb⟩ := hrel
      clear HI
      by_cases hlt : k < xs.length
      · obtain ⟨x, hx⟩ : ∃ x, xs[k]? = some x := ⟨_, List.getElem?_eq_getElem hlt⟩
        obtain ⟨b, off, p, rfl, c0, c1, c2, c3, c4, ha⟩ := itemAt (HR.out.below itemP_stays hb.out (Nat.le_refl _)) hx
        have HF : Seal _ := ⟨HS.out x (List.mem_of_getElem? hx)⟩
        have HN : Seal _ := ⟨leftN_row_next itemN hx H.out (by omega)⟩
        have HA : Seal _ := ⟨ha⟩
        clear hx ha
        obtain ⟨l2, h2⟩ : ∃ l2, leftN (itemN x) r = l2 := ⟨_, rfl⟩
        have hle := leftN_le (itemN x) hr0
        rw [h2] at hle
        have HL : Seal _ := ⟨h2⟩
        clear h2
        go_wp2_with fail
        refine (szItem_any x p r _ HA.out hr0 hr1 HF.out).mono ?_
        rintro e w1 ⟨rfl, hb1⟩
        rw [HL.out]
        have B1 : Seal _ := ⟨hb.out.trans (hb1.mono hb.out.size)⟩
        clear hb1 hb
        by_cases hneg : l2 < 0
        · have hm : Seal (leftN (rowN itemN xs) left = -1) := ⟨leftN_row_bad itemN xs (k + 1) (by rw [HN.out]; exact HL.out) hneg⟩
          go_wp2
          go_ret
          exact ⟨ret_i hm.out.symm, B1.out⟩
        · go_wp2
          go_roundw
          case rel => exact ⟨k + 1, l2, by omega, by go_num, rfl, by omega, by omega, ⟨by rw [HN.out]; exact HL.out⟩, B1⟩
          case measure => simp [intOf]; omega
      · have hm : Seal (leftN (rowN itemN xs) left = r) := ⟨by
          have e1 := H.out
          rw [List.take_of_length_le (by omega)] at e1
          exact e1⟩
        go_wp2
        go_ret
        exact ⟨ret_i hm.out.symm, hb.out⟩

set_option maxRecDepth 100000 in
theorem szSpool_any (s : SpoolD) (ao : Option Addr) (cap : Nat) (left : Int) (w : World) (hat : ItemRow w ao s.items) (h0 : 0 ≤ left) (h1 : left ≤ 1048576) (hf : SpoolF s) :
    Calls Tryd.prog 48 #[.agg (spoolV s ao cap), .int .i64 left] w fun e w' => e = .returned (.int .i64 (leftN (spoolN s) left)) ∧ Below w.heap.size w w' := by
  have S0 : Seal _ := ⟨(St.start w).alloc (spoolV s ao cap) 83⟩
  have HA : Seal _ := ⟨hat⟩
  have HF : Seal _ := ⟨hf⟩
  obtain ⟨l, hl⟩ : ∃ l, leftN (rowN itemN s.items) left = l := ⟨_, rfl⟩
  have HL : Seal _ := ⟨hl⟩
  have hm : l < 0 → l = -1 := fun h => by rw [← HL.out] at h ⊢; exact leftN_neg h
  clear hat hf hl
  go_enter Tryd.func48, Tryd.ntmps48
  go_wp2_with fail
  refine (szItemS_any ao cap s.items left _ (HA.out.below itemP_stays S0.out.below (Nat.le_refl _)) HF.out.il h0 h1 HF.out.is).mono ?_
  rintro e w1 ⟨rfl, hb1⟩
  rw [HL.out]
  have S1 : Seal _ := ⟨S0.out.later hb1⟩
  clear hb1 S0
  by_cases hn : l < 0
  · have HN : Seal _ := ⟨hm hn⟩
    clear hm
    go_wp2
    go_ret
    exact ⟨ret_i (HN.out.symm.trans HL.out.symm), S1.out.below⟩
  · clear hm
    go_wp2
    go_ret
    exact ⟨ret_i HL.out.symm, S1.out.below⟩
end Go.Proofs.YtgjkoegpdfcadaaDoor
