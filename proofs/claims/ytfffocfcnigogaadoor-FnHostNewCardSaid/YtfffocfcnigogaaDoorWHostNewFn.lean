/- The walk of FnHostNew. -/
import Derived.Test.YtfffocfcnigogaaDoorHostSa
import Derived.Test.YtfffocfcnigogaaDoorKinds
import Derived.Deep.RegionHeld3
namespace Go.Proofs.YtfffocfcnigogaaDoor
open Go Go.RowKit

theorem Pt.conf {w0 W : World} {Ls : List (List Res)} (h : Pt w0 W Ls) (i : Nat) {c : ConfD} {a1 a2 : Option Addr} {c1 c2 : Nat} (hi : Ls[i]? = some (confR a1 c1 a2 c2 c)) : ConfAt W c a1 a2 :=
  ⟨Row.strs (h.nth i hi _ List.mem_cons_self), PRow.pairs (h.nth i hi _ (List.mem_cons_of_mem _ List.mem_cons_self))⟩
theorem okC_sz {c : ConfD} (h : ConfSz 40 c) : (okC c).own.length ≤ 1048576 ∧ (okC c).ways.length ≤ 1048576 := by
  unfold okC
  split
  · exact ⟨Nat.le_trans h.owl (by omega), Nat.le_trans h.wal (by omega)⟩
  · exact ⟨Nat.zero_le _, Nat.zero_le _⟩

set_option maxHeartbeats 12800000 in
set_option maxRecDepth 100000 in
theorem wFnHostNew.walk (ao : Option Addr) (len cap : Nat) (w : World) (hr : ByteRow w ao len) (hl : len ≤ cap) (hc : cap ≤ maxLen) (hm : HasMax w) :
    Calls Tryd.prog 6 #[.slice ao len cap] w fun e w' => e = .returned (.bool true) ∧ Below w.heap.size w w' := by
  have HM : Seal _ := ⟨hm⟩
  have C : Seal _ := ⟨drawHostNew_any ao len cap w hr hl hc⟩
  clear hm hr
  go_enter Tryd.func6, Tryd.ntmps6
  by_cases hlen : len > 1048576
  · go_wp2
    go_ret
    exact ⟨rfl, Below.refl _ _⟩
  go_wp2_with fail
  refine C.out.mono ?_
  rintro e w1 ⟨c, g1, c1, g2, c2, rfl, hsz, hk⟩
  have HZ : Seal _ := ⟨hsz⟩
  have HZW : Seal (ConfSz 1048576 c) := ⟨confSz_wide hsz (by omega)⟩
  have S1 : Seal (Pt w (w1.alloc (.cells #[.string c.name, .slice (some ⟨g1, 0, none⟩) c.own.length c1, .slice (some ⟨g2, 0, none⟩) c.ways.length c2] 53)) [[Res.cells w1.heap.size [.string c.name, .slice (some ⟨g1, 0, none⟩) c.own.length c1, .slice (some ⟨g2, 0, none⟩) c.ways.length c2]], confR (some ⟨g1, 0, none⟩) c1 (some ⟨g2, 0, none⟩) c2 c]) := ⟨Pt.alloc (Ls := [confR (some ⟨g1, 0, none⟩) c1 (some ⟨g2, 0, none⟩) c2 c]) (by show St _ _ _; simpa using hk) #[.string c.name, .slice (some ⟨g1, 0, none⟩) c.own.length c1, .slice (some ⟨g2, 0, none⟩) c.ways.length c2] 53⟩
  clear hsz hk C hl hc
  have g0 := (S1.out.cellsM 0 rfl).c 0 _ rfl
  have g1' := (S1.out.cellsM 0 rfl).c 1 _ rfl
  have g2' := (S1.out.cellsM 0 rfl).c 2 _ rfl
  have gl := (S1.out.cellsM 0 rfl).lt
  go_wp2_with fail
  refine (implHostNew_any _ c _ c1 _ c2 w _ (HM.out.below S1.out.below (Nat.le_refl _)) (S1.out.bring 1 rfl) (fun r hr => List.mem_append_left _ hr) (S1.out.conf 1 rfl) HZW.out).mono ?_
  rintro e w2 ⟨eA, dA, eB, dB, rfl, hk⟩
  obtain ⟨D, hD⟩ : ∃ D, okC c = D := ⟨_, rfl⟩
  have HD : Seal _ := ⟨hD⟩
  obtain ⟨zo, zw⟩ := okC_sz HZ.out
  rw [hD] at hk zo zw ⊢
  clear hD
  have S2 : Seal (Pt w (w2.alloc (.cells #[.string D.name, .slice eA D.own.length dA, .slice eB D.ways.length dB, .int .i64 0, .slice none 0 0, .slice none 0 0, .slice none 0 0] 58)) [[Res.cells w2.heap.size [.string D.name, .slice eA D.own.length dA, .slice eB D.ways.length dB, .int .i64 0, .slice none 0 0, .slice none 0 0, .slice none 0 0]], confR eA dA eB dB D, [Res.cells w1.heap.size [.string c.name, .slice (some ⟨g1, 0, none⟩) c.own.length c1, .slice (some ⟨g2, 0, none⟩) c.ways.length c2]], confR (some ⟨g1, 0, none⟩) c1 (some ⟨g2, 0, none⟩) c2 c]) := ⟨(Pt.join S1.out hk).alloc #[.string D.name, .slice eA D.own.length dA, .slice eB D.ways.length dB, .int .i64 0, .slice none 0 0, .slice none 0 0, .slice none 0 0] 58⟩
  clear hk S1 g0 g1' g2' gl
  cases hv : confB c
  · skip
    go_upto_region 5 with fail
    have S3 : Seal (Pt w (w2.alloc (.cells #[.string D.name, .slice eA D.own.length dA, .slice eB D.ways.length dB, .int .i64 0, .slice none 0 0, .slice none 0 0, .slice none 0 0] 58)).drew [[Res.cells (w2.heap.size) [.string D.name, .slice eA D.own.length dA, .slice eB D.ways.length dB, .int .i64 0, .slice none 0 0, .slice none 0 0, .slice none 0 0]], confR eA dA eB dB D, [Res.cells (w1.heap.size) [.string c.name, .slice (some ⟨g1, 0, none⟩) c.own.length c1, .slice (some ⟨g2, 0, none⟩) c.ways.length c2]], confR (some ⟨g1, 0, none⟩) c1 (some ⟨g2, 0, none⟩) c2 c]) := ⟨S2.out.drew⟩
    refine wp_region_held_drew (S := (fun w' => w'.cell? ⟨w2.heap.size, 0, none⟩ = some (.string D.name) ∧ w'.cell? ⟨w2.heap.size, 1, none⟩ = some (.slice eA D.own.length dA) ∧ w'.cell? ⟨w2.heap.size, 2, none⟩ = some (.slice eB D.ways.length dB) ∧ w'.cell? ⟨w2.heap.size, 3, none⟩ = some (.int .i64 0) ∧ w'.cell? ⟨w2.heap.size, 4, none⟩ = some (.slice none 0 0) ∧ w'.cell? ⟨w2.heap.size, 5, none⟩ = some (.slice none 0 0) ∧ w'.cell? ⟨w2.heap.size, 6, none⟩ = some (.slice none 0 0) ∧ w'.cell? ⟨w1.heap.size, 0, none⟩ = some (.string c.name) ∧ w'.cell? ⟨w1.heap.size, 1, none⟩ = some (.slice (some ⟨g1, 0, none⟩) c.own.length c1) ∧ w'.cell? ⟨w1.heap.size, 2, none⟩ = some (.slice (some ⟨g2, 0, none⟩) c.ways.length c2))) (by kernel_rfl) ⟨(S3.out.cellsM 0 rfl).c 0 _ rfl, (S3.out.cellsM 0 rfl).c 1 _ rfl, (S3.out.cellsM 0 rfl).c 2 _ rfl, (S3.out.cellsM 0 rfl).c 3 _ rfl, (S3.out.cellsM 0 rfl).c 4 _ rfl, (S3.out.cellsM 0 rfl).c 5 _ rfl, (S3.out.cellsM 0 rfl).c 6 _ rfl, (S3.out.cellsM 2 rfl).c 0 _ rfl, (S3.out.cellsM 2 rfl).c 1 _ rfl, (S3.out.cellsM 2 rfl).c 2 _ rfl⟩ (fun hHeld => ?_)
    (refine wpAnyH_take (i := 0) (v := ?_) rfl (by kernel_rfl) (by kernel_rfl) (by kernel_rfl) (fun _ _ _ h => h) (Or.inl ⟨by rfl, ?_⟩) (by assumption) ?_; rotate_left; (intro w hSw; (try dsimp only at hSw); go_split_ands; go_simp; first | done | with_reducible rfl); rotate_left; simp only [Act.put, List.getElem_toArray, List.getElem_cons_zero, List.setIfInBounds_toArray, List.set_cons_succ, List.set_cons_zero])
    (refine wpAnyH_take (i := 1) (v := ?_) rfl (by kernel_rfl) (by kernel_rfl) (by kernel_rfl) (fun _ _ _ h => h) (Or.inl ⟨by rfl, ?_⟩) (by assumption) ?_; rotate_left; (intro w hSw; (try dsimp only at hSw); go_split_ands; go_simp; first | done | with_reducible rfl); rotate_left; simp only [Act.put, List.getElem_toArray, List.getElem_cons_succ, List.getElem_cons_zero, List.setIfInBounds_toArray, List.set_cons_succ, List.set_cons_zero])
    refine wpAnyH_ready (rs := [2]) (by kernel_rfl) (by simp) ?_
    refine AllReadyH.cons rfl (fun K hK => ?_) AllReadyH.nil
    try dsimp only at hHeld
    go_split_ands
    go_simp
    refine (specHostNew_any _ c _ c1 _ c2 w _ (S3.out.bring 3 rfl) (fun r hr => List.mem_append_left _ hr) (S3.out.conf 3 rfl) HZW.out).mono ?_
    rintro e u1 ⟨fA1, jA1, fB1, jB1, rfl, hk⟩
    rw [HD.out] at hk ⊢
    have S4 : Seal (Pt w u1 [confR fA1 jA1 fB1 jB1 D, [Res.cells (w2.heap.size) [.string D.name, .slice eA D.own.length dA, .slice eB D.ways.length dB, .int .i64 0, .slice none 0 0, .slice none 0 0, .slice none 0 0]], confR eA dA eB dB D, [Res.cells (w1.heap.size) [.string c.name, .slice (some ⟨g1, 0, none⟩) c.own.length c1, .slice (some ⟨g2, 0, none⟩) c.ways.length c2]], confR (some ⟨g1, 0, none⟩) c1 (some ⟨g2, 0, none⟩) c2 c]) := ⟨Pt.join S3.out hk⟩
    clear hk
    refine hK.out _ _ ⟨(S4.out.cellsM 1 rfl).c 0 _ rfl, (S4.out.cellsM 1 rfl).c 1 _ rfl, (S4.out.cellsM 1 rfl).c 2 _ rfl, (S4.out.cellsM 1 rfl).c 3 _ rfl, (S4.out.cellsM 1 rfl).c 4 _ rfl, (S4.out.cellsM 1 rfl).c 5 _ rfl, (S4.out.cellsM 1 rfl).c 6 _ rfl, (S4.out.cellsM 3 rfl).c 0 _ rfl, (S4.out.cellsM 3 rfl).c 1 _ rfl, (S4.out.cellsM 3 rfl).c 2 _ rfl⟩ (fun hHeld => ?_)
    clear hK K
    try simp only [Act.put, List.getElem_toArray, List.getElem_cons_succ, List.getElem_cons_zero, List.setIfInBounds_toArray, List.set_cons_zero, List.set_cons_succ]
    refine wpAnyH_ready (rs := [3]) (by kernel_rfl) (by simp) ?_
    refine AllReadyH.cons rfl (fun K hK => ?_) AllReadyH.nil
    try dsimp only at hHeld
    go_split_ands
    go_simp
    refine (saHostEq D eA dA eB dB fA1 jA1 fB1 jB1 _ (S4.out.conf 2 rfl) (S4.out.conf 0 rfl) zo zw).mono ?_
    rintro e v1 ⟨rfl, hb⟩
    have S5 : Seal (Pt w v1 [confR fA1 jA1 fB1 jB1 D, [Res.cells (w2.heap.size) [.string D.name, .slice eA D.own.length dA, .slice eB D.ways.length dB, .int .i64 0, .slice none 0 0, .slice none 0 0, .slice none 0 0]], confR eA dA eB dB D, [Res.cells (w1.heap.size) [.string c.name, .slice (some ⟨g1, 0, none⟩) c.own.length c1, .slice (some ⟨g2, 0, none⟩) c.ways.length c2]], confR (some ⟨g1, 0, none⟩) c1 (some ⟨g2, 0, none⟩) c2 c]) := ⟨S4.out.later hb⟩
    clear hb
    refine hK.out _ _ ⟨(S5.out.cellsM 1 rfl).c 0 _ rfl, (S5.out.cellsM 1 rfl).c 1 _ rfl, (S5.out.cellsM 1 rfl).c 2 _ rfl, (S5.out.cellsM 1 rfl).c 3 _ rfl, (S5.out.cellsM 1 rfl).c 4 _ rfl, (S5.out.cellsM 1 rfl).c 5 _ rfl, (S5.out.cellsM 1 rfl).c 6 _ rfl, (S5.out.cellsM 3 rfl).c 0 _ rfl, (S5.out.cellsM 3 rfl).c 1 _ rfl, (S5.out.cellsM 3 rfl).c 2 _ rfl⟩ (fun hHeld => ?_)
    clear hK K
    try simp only [Act.put, List.getElem_toArray, List.getElem_cons_succ, List.getElem_cons_zero, List.setIfInBounds_toArray, List.set_cons_zero, List.set_cons_succ]
    (refine wpAnyH_take (i := 4) (v := ?_) rfl (by kernel_rfl) (by kernel_rfl) (by kernel_rfl) (fun _ _ _ h => h) (Or.inl ⟨by rfl, ?_⟩) (by assumption) ?_; rotate_left; (intro w hSw; (try dsimp only at hSw); go_split_ands; go_simp; first | done | with_reducible rfl); rotate_left; simp only [Act.put, List.getElem_toArray, List.getElem_cons_succ, List.getElem_cons_zero, List.setIfInBounds_toArray, List.set_cons_succ, List.set_cons_zero])
    (refine wpAnyH_take (i := 5) (v := ?_) rfl (by kernel_rfl) (by kernel_rfl) (by kernel_rfl) (fun _ _ _ h => h) (Or.inl ⟨by rfl, ?_⟩) (by assumption) ?_; rotate_left; (intro w hSw; (try dsimp only at hSw); go_split_ands; go_simp; first | done | with_reducible rfl); rotate_left; simp only [Act.put, List.getElem_toArray, List.getElem_cons_succ, List.getElem_cons_zero, List.setIfInBounds_toArray, List.set_cons_succ, List.set_cons_zero])
    (refine wpAnyH_take (i := 6) (v := ?_) rfl (by kernel_rfl) (by kernel_rfl) (by kernel_rfl) (fun _ _ _ h => h) (Or.inl ⟨by rfl, ?_⟩) (by assumption) ?_; rotate_left; (intro w hSw; (try dsimp only at hSw); go_split_ands; go_simp; first | done | with_reducible rfl); rotate_left; simp only [Act.put, List.getElem_toArray, List.getElem_cons_succ, List.getElem_cons_zero, List.setIfInBounds_toArray, List.set_cons_succ, List.set_cons_zero])
    refine wpAnyH_ready (rs := [7]) (by kernel_rfl) (by simp) ?_
    refine AllReadyH.cons rfl (fun K hK => ?_) AllReadyH.nil
    try dsimp only at hHeld
    go_split_ands
    go_simp
    refine (implConfOk_any c _ c1 _ c2 _ (HM.out.below S5.out.below (Nat.le_refl _)) (S5.out.conf 4 rfl) HZW.out).mono ?_
    rintro e x1 ⟨rfl, hb⟩
    rw [hv]
    have S6 : Seal (Pt w x1 [confR fA1 jA1 fB1 jB1 D, [Res.cells (w2.heap.size) [.string D.name, .slice eA D.own.length dA, .slice eB D.ways.length dB, .int .i64 0, .slice none 0 0, .slice none 0 0, .slice none 0 0]], confR eA dA eB dB D, [Res.cells (w1.heap.size) [.string c.name, .slice (some ⟨g1, 0, none⟩) c.own.length c1, .slice (some ⟨g2, 0, none⟩) c.ways.length c2]], confR (some ⟨g1, 0, none⟩) c1 (some ⟨g2, 0, none⟩) c2 c]) := ⟨S5.out.later hb⟩
    clear hb
    refine hK.out _ _ ⟨(S6.out.cellsM 1 rfl).c 0 _ rfl, (S6.out.cellsM 1 rfl).c 1 _ rfl, (S6.out.cellsM 1 rfl).c 2 _ rfl, (S6.out.cellsM 1 rfl).c 3 _ rfl, (S6.out.cellsM 1 rfl).c 4 _ rfl, (S6.out.cellsM 1 rfl).c 5 _ rfl, (S6.out.cellsM 1 rfl).c 6 _ rfl, (S6.out.cellsM 3 rfl).c 0 _ rfl, (S6.out.cellsM 3 rfl).c 1 _ rfl, (S6.out.cellsM 3 rfl).c 2 _ rfl⟩ (fun hHeld => ?_)
    clear hK K
    try simp only [Act.put, List.getElem_toArray, List.getElem_cons_succ, List.getElem_cons_zero, List.setIfInBounds_toArray, List.set_cons_zero, List.set_cons_succ]
    (refine wpAnyH_take (i := 8) (v := ?_) rfl (by kernel_rfl) (by kernel_rfl) (by kernel_rfl) (fun _ _ _ h => h) (Or.inl ⟨by rfl, ?_⟩) (by assumption) ?_; rotate_left; (intro w hSw; (try dsimp only at hSw); go_split_ands; go_simp; first | done | with_reducible rfl); rotate_left; simp only [Act.put, List.getElem_toArray, List.getElem_cons_succ, List.getElem_cons_zero, List.setIfInBounds_toArray, List.set_cons_succ, List.set_cons_zero])
    (refine wpAnyH_take (i := 9) (v := ?_) rfl (by kernel_rfl) (by kernel_rfl) (by kernel_rfl) (fun _ _ _ h => h) (Or.inl ⟨by rfl, ?_⟩) (by assumption) ?_; rotate_left; (intro w hSw; (try dsimp only at hSw); go_split_ands; go_simp; first | done | with_reducible rfl); rotate_left; simp only [Act.put, List.getElem_toArray, List.getElem_cons_succ, List.getElem_cons_zero, List.setIfInBounds_toArray, List.set_cons_succ, List.set_cons_zero])
    refine wpAnyH_done (by kernel_rfl) ?_ _
    go_upto_region 6 with fail
    have S7 : Seal (Pt w x1.drew [confR fA1 jA1 fB1 jB1 D, [Res.cells (w2.heap.size) [.string D.name, .slice eA D.own.length dA, .slice eB D.ways.length dB, .int .i64 0, .slice none 0 0, .slice none 0 0, .slice none 0 0]], confR eA dA eB dB D, [Res.cells (w1.heap.size) [.string c.name, .slice (some ⟨g1, 0, none⟩) c.own.length c1, .slice (some ⟨g2, 0, none⟩) c.ways.length c2]], confR (some ⟨g1, 0, none⟩) c1 (some ⟨g2, 0, none⟩) c2 c]) := ⟨S6.out.drew⟩
    refine wp_region_held_drew (S := (fun w' => w'.cell? ⟨w2.heap.size, 0, none⟩ = some (.string D.name) ∧ w'.cell? ⟨w2.heap.size, 1, none⟩ = some (.slice eA D.own.length dA) ∧ w'.cell? ⟨w2.heap.size, 2, none⟩ = some (.slice eB D.ways.length dB) ∧ w'.cell? ⟨w2.heap.size, 3, none⟩ = some (.int .i64 0) ∧ w'.cell? ⟨w2.heap.size, 4, none⟩ = some (.slice none 0 0) ∧ w'.cell? ⟨w2.heap.size, 5, none⟩ = some (.slice none 0 0) ∧ w'.cell? ⟨w2.heap.size, 6, none⟩ = some (.slice none 0 0) ∧ w'.cell? ⟨w1.heap.size, 0, none⟩ = some (.string c.name) ∧ w'.cell? ⟨w1.heap.size, 1, none⟩ = some (.slice (some ⟨g1, 0, none⟩) c.own.length c1) ∧ w'.cell? ⟨w1.heap.size, 2, none⟩ = some (.slice (some ⟨g2, 0, none⟩) c.ways.length c2))) (by kernel_rfl) ⟨(S7.out.cellsM 1 rfl).c 0 _ rfl, (S7.out.cellsM 1 rfl).c 1 _ rfl, (S7.out.cellsM 1 rfl).c 2 _ rfl, (S7.out.cellsM 1 rfl).c 3 _ rfl, (S7.out.cellsM 1 rfl).c 4 _ rfl, (S7.out.cellsM 1 rfl).c 5 _ rfl, (S7.out.cellsM 1 rfl).c 6 _ rfl, (S7.out.cellsM 3 rfl).c 0 _ rfl, (S7.out.cellsM 3 rfl).c 1 _ rfl, (S7.out.cellsM 3 rfl).c 2 _ rfl⟩ (fun hHeld => ?_)
    (refine wpAnyH_take (i := 0) (v := ?_) rfl (by kernel_rfl) (by kernel_rfl) (by kernel_rfl) (fun _ _ _ h => h) (Or.inl ⟨by rfl, ?_⟩) (by assumption) ?_; rotate_left; (intro w hSw; (try dsimp only at hSw); go_split_ands; go_simp; first | done | with_reducible rfl); rotate_left; simp only [Act.put, List.getElem_toArray, List.getElem_cons_zero, List.setIfInBounds_toArray, List.set_cons_succ, List.set_cons_zero])
    (refine wpAnyH_take (i := 1) (v := ?_) rfl (by kernel_rfl) (by kernel_rfl) (by kernel_rfl) (fun _ _ _ h => h) (Or.inl ⟨by rfl, ?_⟩) (by assumption) ?_; rotate_left; (intro w hSw; (try dsimp only at hSw); go_split_ands; go_simp; first | done | with_reducible rfl); rotate_left; simp only [Act.put, List.getElem_toArray, List.getElem_cons_succ, List.getElem_cons_zero, List.setIfInBounds_toArray, List.set_cons_succ, List.set_cons_zero])
    refine wpAnyH_ready (rs := [2]) (by kernel_rfl) (by simp) ?_
    refine AllReadyH.cons rfl (fun K hK => ?_) AllReadyH.nil
    try dsimp only at hHeld
    go_split_ands
    go_simp
    refine (specHostNew_any _ c _ c1 _ c2 w _ (S7.out.bring 4 rfl) (fun r hr => List.mem_append_left _ hr) (S7.out.conf 4 rfl) HZW.out).mono ?_
    rintro e u2 ⟨fA2, jA2, fB2, jB2, rfl, hk⟩
    rw [HD.out] at hk ⊢
    have S8 : Seal (Pt w u2 [confR fA2 jA2 fB2 jB2 D, confR fA1 jA1 fB1 jB1 D, [Res.cells (w2.heap.size) [.string D.name, .slice eA D.own.length dA, .slice eB D.ways.length dB, .int .i64 0, .slice none 0 0, .slice none 0 0, .slice none 0 0]], confR eA dA eB dB D, [Res.cells (w1.heap.size) [.string c.name, .slice (some ⟨g1, 0, none⟩) c.own.length c1, .slice (some ⟨g2, 0, none⟩) c.ways.length c2]], confR (some ⟨g1, 0, none⟩) c1 (some ⟨g2, 0, none⟩) c2 c]) := ⟨Pt.join S7.out hk⟩
    clear hk
    refine hK.out _ _ ⟨(S8.out.cellsM 2 rfl).c 0 _ rfl, (S8.out.cellsM 2 rfl).c 1 _ rfl, (S8.out.cellsM 2 rfl).c 2 _ rfl, (S8.out.cellsM 2 rfl).c 3 _ rfl, (S8.out.cellsM 2 rfl).c 4 _ rfl, (S8.out.cellsM 2 rfl).c 5 _ rfl, (S8.out.cellsM 2 rfl).c 6 _ rfl, (S8.out.cellsM 4 rfl).c 0 _ rfl, (S8.out.cellsM 4 rfl).c 1 _ rfl, (S8.out.cellsM 4 rfl).c 2 _ rfl⟩ (fun hHeld => ?_)
    clear hK K
    try simp only [Act.put, List.getElem_toArray, List.getElem_cons_succ, List.getElem_cons_zero, List.setIfInBounds_toArray, List.set_cons_zero, List.set_cons_succ]
    refine wpAnyH_ready (rs := [3]) (by kernel_rfl) (by simp) ?_
    refine AllReadyH.cons rfl (fun K hK => ?_) AllReadyH.nil
    try dsimp only at hHeld
    go_split_ands
    go_simp
    refine (saHostEq D eA dA eB dB fA2 jA2 fB2 jB2 _ (S8.out.conf 3 rfl) (S8.out.conf 0 rfl) zo zw).mono ?_
    rintro e v2 ⟨rfl, hb⟩
    have S9 : Seal (Pt w v2 [confR fA2 jA2 fB2 jB2 D, confR fA1 jA1 fB1 jB1 D, [Res.cells (w2.heap.size) [.string D.name, .slice eA D.own.length dA, .slice eB D.ways.length dB, .int .i64 0, .slice none 0 0, .slice none 0 0, .slice none 0 0]], confR eA dA eB dB D, [Res.cells (w1.heap.size) [.string c.name, .slice (some ⟨g1, 0, none⟩) c.own.length c1, .slice (some ⟨g2, 0, none⟩) c.ways.length c2]], confR (some ⟨g1, 0, none⟩) c1 (some ⟨g2, 0, none⟩) c2 c]) := ⟨S8.out.later hb⟩
    clear hb
    refine hK.out _ _ ⟨(S9.out.cellsM 2 rfl).c 0 _ rfl, (S9.out.cellsM 2 rfl).c 1 _ rfl, (S9.out.cellsM 2 rfl).c 2 _ rfl, (S9.out.cellsM 2 rfl).c 3 _ rfl, (S9.out.cellsM 2 rfl).c 4 _ rfl, (S9.out.cellsM 2 rfl).c 5 _ rfl, (S9.out.cellsM 2 rfl).c 6 _ rfl, (S9.out.cellsM 4 rfl).c 0 _ rfl, (S9.out.cellsM 4 rfl).c 1 _ rfl, (S9.out.cellsM 4 rfl).c 2 _ rfl⟩ (fun hHeld => ?_)
    clear hK K
    try simp only [Act.put, List.getElem_toArray, List.getElem_cons_succ, List.getElem_cons_zero, List.setIfInBounds_toArray, List.set_cons_zero, List.set_cons_succ]
    refine wpAnyH_ready (rs := [4]) (by kernel_rfl) (by simp) ?_
    refine AllReadyH.cons rfl (fun K hK => ?_) AllReadyH.nil
    go_simp
    refine hK.out _ _ (by assumption) (fun hHeld => ?_)
    clear hK K
    try simp only [Act.put, List.getElem_toArray, List.getElem_cons_succ, List.getElem_cons_zero, List.setIfInBounds_toArray, List.set_cons_zero, List.set_cons_succ]
    refine wpAnyH_done (by kernel_rfl) ?_ _
    go_wp2
    go_ret
    exact ⟨rfl, S9.out.below⟩
  have hDc : Seal (D = c) := ⟨by rw [← HD.out]; exact okC_yes hv⟩
  go_upto_region 5 with fail
  have S3 : Seal (Pt w (w2.alloc (.cells #[.string D.name, .slice eA D.own.length dA, .slice eB D.ways.length dB, .int .i64 0, .slice none 0 0, .slice none 0 0, .slice none 0 0] 58)).drew [[Res.cells (w2.heap.size) [.string D.name, .slice eA D.own.length dA, .slice eB D.ways.length dB, .int .i64 0, .slice none 0 0, .slice none 0 0, .slice none 0 0]], confR eA dA eB dB D, [Res.cells (w1.heap.size) [.string c.name, .slice (some ⟨g1, 0, none⟩) c.own.length c1, .slice (some ⟨g2, 0, none⟩) c.ways.length c2]], confR (some ⟨g1, 0, none⟩) c1 (some ⟨g2, 0, none⟩) c2 c]) := ⟨S2.out.drew⟩
  refine wp_region_held_drew (S := (fun w' => w'.cell? ⟨w2.heap.size, 0, none⟩ = some (.string D.name) ∧ w'.cell? ⟨w2.heap.size, 1, none⟩ = some (.slice eA D.own.length dA) ∧ w'.cell? ⟨w2.heap.size, 2, none⟩ = some (.slice eB D.ways.length dB) ∧ w'.cell? ⟨w2.heap.size, 3, none⟩ = some (.int .i64 0) ∧ w'.cell? ⟨w2.heap.size, 4, none⟩ = some (.slice none 0 0) ∧ w'.cell? ⟨w2.heap.size, 5, none⟩ = some (.slice none 0 0) ∧ w'.cell? ⟨w2.heap.size, 6, none⟩ = some (.slice none 0 0) ∧ w'.cell? ⟨w1.heap.size, 0, none⟩ = some (.string c.name) ∧ w'.cell? ⟨w1.heap.size, 1, none⟩ = some (.slice (some ⟨g1, 0, none⟩) c.own.length c1) ∧ w'.cell? ⟨w1.heap.size, 2, none⟩ = some (.slice (some ⟨g2, 0, none⟩) c.ways.length c2))) (by kernel_rfl) ⟨(S3.out.cellsM 0 rfl).c 0 _ rfl, (S3.out.cellsM 0 rfl).c 1 _ rfl, (S3.out.cellsM 0 rfl).c 2 _ rfl, (S3.out.cellsM 0 rfl).c 3 _ rfl, (S3.out.cellsM 0 rfl).c 4 _ rfl, (S3.out.cellsM 0 rfl).c 5 _ rfl, (S3.out.cellsM 0 rfl).c 6 _ rfl, (S3.out.cellsM 2 rfl).c 0 _ rfl, (S3.out.cellsM 2 rfl).c 1 _ rfl, (S3.out.cellsM 2 rfl).c 2 _ rfl⟩ (fun hHeld => ?_)
  (refine wpAnyH_take (i := 0) (v := ?_) rfl (by kernel_rfl) (by kernel_rfl) (by kernel_rfl) (fun _ _ _ h => h) (Or.inl ⟨by rfl, ?_⟩) (by assumption) ?_; rotate_left; (intro w hSw; (try dsimp only at hSw); go_split_ands; go_simp; first | done | with_reducible rfl); rotate_left; simp only [Act.put, List.getElem_toArray, List.getElem_cons_zero, List.setIfInBounds_toArray, List.set_cons_succ, List.set_cons_zero])
  (refine wpAnyH_take (i := 1) (v := ?_) rfl (by kernel_rfl) (by kernel_rfl) (by kernel_rfl) (fun _ _ _ h => h) (Or.inl ⟨by rfl, ?_⟩) (by assumption) ?_; rotate_left; (intro w hSw; (try dsimp only at hSw); go_split_ands; go_simp; first | done | with_reducible rfl); rotate_left; simp only [Act.put, List.getElem_toArray, List.getElem_cons_succ, List.getElem_cons_zero, List.setIfInBounds_toArray, List.set_cons_succ, List.set_cons_zero])
  refine wpAnyH_ready (rs := [2]) (by kernel_rfl) (by simp) ?_
  refine AllReadyH.cons rfl (fun K hK => ?_) AllReadyH.nil
  try dsimp only at hHeld
  go_split_ands
  go_simp
  refine (specHostNew_any _ c _ c1 _ c2 w _ (S3.out.bring 3 rfl) (fun r hr => List.mem_append_left _ hr) (S3.out.conf 3 rfl) HZW.out).mono ?_
  rintro e u3 ⟨fA3, jA3, fB3, jB3, rfl, hk⟩
  rw [HD.out] at hk ⊢
  have S4 : Seal (Pt w u3 [confR fA3 jA3 fB3 jB3 D, [Res.cells (w2.heap.size) [.string D.name, .slice eA D.own.length dA, .slice eB D.ways.length dB, .int .i64 0, .slice none 0 0, .slice none 0 0, .slice none 0 0]], confR eA dA eB dB D, [Res.cells (w1.heap.size) [.string c.name, .slice (some ⟨g1, 0, none⟩) c.own.length c1, .slice (some ⟨g2, 0, none⟩) c.ways.length c2]], confR (some ⟨g1, 0, none⟩) c1 (some ⟨g2, 0, none⟩) c2 c]) := ⟨Pt.join S3.out hk⟩
  clear hk
  refine hK.out _ _ ⟨(S4.out.cellsM 1 rfl).c 0 _ rfl, (S4.out.cellsM 1 rfl).c 1 _ rfl, (S4.out.cellsM 1 rfl).c 2 _ rfl, (S4.out.cellsM 1 rfl).c 3 _ rfl, (S4.out.cellsM 1 rfl).c 4 _ rfl, (S4.out.cellsM 1 rfl).c 5 _ rfl, (S4.out.cellsM 1 rfl).c 6 _ rfl, (S4.out.cellsM 3 rfl).c 0 _ rfl, (S4.out.cellsM 3 rfl).c 1 _ rfl, (S4.out.cellsM 3 rfl).c 2 _ rfl⟩ (fun hHeld => ?_)
  clear hK K
  try simp only [Act.put, List.getElem_toArray, List.getElem_cons_succ, List.getElem_cons_zero, List.setIfInBounds_toArray, List.set_cons_zero, List.set_cons_succ]
  refine wpAnyH_ready (rs := [3]) (by kernel_rfl) (by simp) ?_
  refine AllReadyH.cons rfl (fun K hK => ?_) AllReadyH.nil
  try dsimp only at hHeld
  go_split_ands
  go_simp
  refine (saHostEq D eA dA eB dB fA3 jA3 fB3 jB3 _ (S4.out.conf 2 rfl) (S4.out.conf 0 rfl) zo zw).mono ?_
  rintro e v3 ⟨rfl, hb⟩
  have S5 : Seal (Pt w v3 [confR fA3 jA3 fB3 jB3 D, [Res.cells (w2.heap.size) [.string D.name, .slice eA D.own.length dA, .slice eB D.ways.length dB, .int .i64 0, .slice none 0 0, .slice none 0 0, .slice none 0 0]], confR eA dA eB dB D, [Res.cells (w1.heap.size) [.string c.name, .slice (some ⟨g1, 0, none⟩) c.own.length c1, .slice (some ⟨g2, 0, none⟩) c.ways.length c2]], confR (some ⟨g1, 0, none⟩) c1 (some ⟨g2, 0, none⟩) c2 c]) := ⟨S4.out.later hb⟩
  clear hb
  refine hK.out _ _ ⟨(S5.out.cellsM 1 rfl).c 0 _ rfl, (S5.out.cellsM 1 rfl).c 1 _ rfl, (S5.out.cellsM 1 rfl).c 2 _ rfl, (S5.out.cellsM 1 rfl).c 3 _ rfl, (S5.out.cellsM 1 rfl).c 4 _ rfl, (S5.out.cellsM 1 rfl).c 5 _ rfl, (S5.out.cellsM 1 rfl).c 6 _ rfl, (S5.out.cellsM 3 rfl).c 0 _ rfl, (S5.out.cellsM 3 rfl).c 1 _ rfl, (S5.out.cellsM 3 rfl).c 2 _ rfl⟩ (fun hHeld => ?_)
  clear hK K
  try simp only [Act.put, List.getElem_toArray, List.getElem_cons_succ, List.getElem_cons_zero, List.setIfInBounds_toArray, List.set_cons_zero, List.set_cons_succ]
  (refine wpAnyH_take (i := 4) (v := ?_) rfl (by kernel_rfl) (by kernel_rfl) (by kernel_rfl) (fun _ _ _ h => h) (Or.inl ⟨by rfl, ?_⟩) (by assumption) ?_; rotate_left; (intro w hSw; (try dsimp only at hSw); go_split_ands; go_simp; first | done | with_reducible rfl); rotate_left; simp only [Act.put, List.getElem_toArray, List.getElem_cons_succ, List.getElem_cons_zero, List.setIfInBounds_toArray, List.set_cons_succ, List.set_cons_zero])
  (refine wpAnyH_take (i := 5) (v := ?_) rfl (by kernel_rfl) (by kernel_rfl) (by kernel_rfl) (fun _ _ _ h => h) (Or.inl ⟨by rfl, ?_⟩) (by assumption) ?_; rotate_left; (intro w hSw; (try dsimp only at hSw); go_split_ands; go_simp; first | done | with_reducible rfl); rotate_left; simp only [Act.put, List.getElem_toArray, List.getElem_cons_succ, List.getElem_cons_zero, List.setIfInBounds_toArray, List.set_cons_succ, List.set_cons_zero])
  (refine wpAnyH_take (i := 6) (v := ?_) rfl (by kernel_rfl) (by kernel_rfl) (by kernel_rfl) (fun _ _ _ h => h) (Or.inl ⟨by rfl, ?_⟩) (by assumption) ?_; rotate_left; (intro w hSw; (try dsimp only at hSw); go_split_ands; go_simp; first | done | with_reducible rfl); rotate_left; simp only [Act.put, List.getElem_toArray, List.getElem_cons_succ, List.getElem_cons_zero, List.setIfInBounds_toArray, List.set_cons_succ, List.set_cons_zero])
  refine wpAnyH_ready (rs := [7]) (by kernel_rfl) (by simp) ?_
  refine AllReadyH.cons rfl (fun K hK => ?_) AllReadyH.nil
  try dsimp only at hHeld
  go_split_ands
  go_simp
  refine (implConfOk_any c _ c1 _ c2 _ (HM.out.below S5.out.below (Nat.le_refl _)) (S5.out.conf 4 rfl) HZW.out).mono ?_
  rintro e x3 ⟨rfl, hb⟩
  rw [hv]
  have S6 : Seal (Pt w x3 [confR fA3 jA3 fB3 jB3 D, [Res.cells (w2.heap.size) [.string D.name, .slice eA D.own.length dA, .slice eB D.ways.length dB, .int .i64 0, .slice none 0 0, .slice none 0 0, .slice none 0 0]], confR eA dA eB dB D, [Res.cells (w1.heap.size) [.string c.name, .slice (some ⟨g1, 0, none⟩) c.own.length c1, .slice (some ⟨g2, 0, none⟩) c.ways.length c2]], confR (some ⟨g1, 0, none⟩) c1 (some ⟨g2, 0, none⟩) c2 c]) := ⟨S5.out.later hb⟩
  clear hb
  refine hK.out _ _ ⟨(S6.out.cellsM 1 rfl).c 0 _ rfl, (S6.out.cellsM 1 rfl).c 1 _ rfl, (S6.out.cellsM 1 rfl).c 2 _ rfl, (S6.out.cellsM 1 rfl).c 3 _ rfl, (S6.out.cellsM 1 rfl).c 4 _ rfl, (S6.out.cellsM 1 rfl).c 5 _ rfl, (S6.out.cellsM 1 rfl).c 6 _ rfl, (S6.out.cellsM 3 rfl).c 0 _ rfl, (S6.out.cellsM 3 rfl).c 1 _ rfl, (S6.out.cellsM 3 rfl).c 2 _ rfl⟩ (fun hHeld => ?_)
  clear hK K
  try simp only [Act.put, List.getElem_toArray, List.getElem_cons_succ, List.getElem_cons_zero, List.setIfInBounds_toArray, List.set_cons_zero, List.set_cons_succ]
  (refine wpAnyH_take (i := 8) (v := ?_) rfl (by kernel_rfl) (by kernel_rfl) (by kernel_rfl) (fun _ _ _ h => h) (Or.inl ⟨by rfl, ?_⟩) (by assumption) ?_; rotate_left; (intro w hSw; (try dsimp only at hSw); go_split_ands; go_simp; first | done | with_reducible rfl); rotate_left; simp only [Act.put, List.getElem_toArray, List.getElem_cons_succ, List.getElem_cons_zero, List.setIfInBounds_toArray, List.set_cons_succ, List.set_cons_zero])
  (refine wpAnyH_take (i := 9) (v := ?_) rfl (by kernel_rfl) (by kernel_rfl) (by kernel_rfl) (fun _ _ _ h => h) (Or.inl ⟨by rfl, ?_⟩) (by assumption) ?_; rotate_left; (intro w hSw; (try dsimp only at hSw); go_split_ands; go_simp; first | done | with_reducible rfl); rotate_left; simp only [Act.put, List.getElem_toArray, List.getElem_cons_succ, List.getElem_cons_zero, List.setIfInBounds_toArray, List.set_cons_succ, List.set_cons_zero])
  refine wpAnyH_done (by kernel_rfl) ?_ _
  go_upto_region 7 with fail
  skip
  have h0 := (S6.out.cellsM 1 rfl).c 0 _ rfl
  have h1 := (S6.out.cellsM 1 rfl).c 1 _ rfl
  have h2 := (S6.out.cellsM 1 rfl).c 2 _ rfl
  have h3 := (S6.out.cellsM 1 rfl).c 3 _ rfl
  have h4 := (S6.out.cellsM 1 rfl).c 4 _ rfl
  have h5 := (S6.out.cellsM 1 rfl).c 5 _ rfl
  have h6 := (S6.out.cellsM 1 rfl).c 6 _ rfl
  go_wp2_with fail
  refine (hostOk_new D eA dA eB dB _ (HM.out.below S6.out.below (Nat.le_refl _)) (S6.out.conf 2 rfl) (hDc.out ▸ HZW.out) (hDc.out ▸ hv)).mono ?_
  rintro e y1 ⟨rfl, hb⟩
  have S7 : Seal (Pt w y1 [confR fA3 jA3 fB3 jB3 D, [Res.cells (w2.heap.size) [.string D.name, .slice eA D.own.length dA, .slice eB D.ways.length dB, .int .i64 0, .slice none 0 0, .slice none 0 0, .slice none 0 0]], confR eA dA eB dB D, [Res.cells (w1.heap.size) [.string c.name, .slice (some ⟨g1, 0, none⟩) c.own.length c1, .slice (some ⟨g2, 0, none⟩) c.ways.length c2]], confR (some ⟨g1, 0, none⟩) c1 (some ⟨g2, 0, none⟩) c2 c]) := ⟨S6.out.later hb⟩
  clear hb h0 h1 h2 h3 h4 h5 h6
  have h3 := (S7.out.cellsM 1 rfl).c 3 _ rfl
  have h4 := (S7.out.cellsM 1 rfl).c 4 _ rfl
  go_wp2_with fail
  refine (implSpoolMany_any ⟨0, []⟩ none 0 _ (HM.out.below S7.out.below (Nat.le_refl _)) (rowNone _) (by decide)).mono ?_
  rintro e y2 ⟨rfl, hb⟩
  rw [show manyR ⟨0, []⟩ = 0 from rfl]
  have S8 : Seal (Pt w y2 [confR fA3 jA3 fB3 jB3 D, [Res.cells (w2.heap.size) [.string D.name, .slice eA D.own.length dA, .slice eB D.ways.length dB, .int .i64 0, .slice none 0 0, .slice none 0 0, .slice none 0 0]], confR eA dA eB dB D, [Res.cells (w1.heap.size) [.string c.name, .slice (some ⟨g1, 0, none⟩) c.own.length c1, .slice (some ⟨g2, 0, none⟩) c.ways.length c2]], confR (some ⟨g1, 0, none⟩) c1 (some ⟨g2, 0, none⟩) c2 c]) := ⟨S7.out.later hb⟩
  clear hb h3 h4
  have h0 := (S8.out.cellsM 1 rfl).c 0 _ rfl
  have h1 := (S8.out.cellsM 1 rfl).c 1 _ rfl
  have h2 := (S8.out.cellsM 1 rfl).c 2 _ rfl
  have h5 := (S8.out.cellsM 1 rfl).c 5 _ rfl
  have k0 := (S8.out.cellsM 3 rfl).c 0 _ rfl
  have k1 := (S8.out.cellsM 3 rfl).c 1 _ rfl
  have k2 := (S8.out.cellsM 3 rfl).c 2 _ rfl
  go_wp2_with fail
  have zo' := zo
  skip
  have hDe := hDc.out
  clear hDc
  subst hDe
  refine (saConfEq D eA dA eB dB _ c1 _ c2 _ (S8.out.conf 2 rfl) (S8.out.conf 4 rfl) zo zw).mono ?_
  rintro e y3 ⟨rfl, hb⟩
  go_wp2
  go_ret
  exact ⟨rfl, (S8.out.later hb).below⟩
end Go.Proofs.YtfffocfcnigogaaDoor
