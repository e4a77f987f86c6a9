/- Contract: the draw of DrawSpoolAdd. -/
import Derived.Test.YtcaknjdolfheaaaGreatDoorTk
import Derived.Test.YtcaknjdolfheaaaGreatDoorDrawSpools
import Derived.Test.YtcaknjdolfheaaaGreatDoorKinds
namespace Go.Proofs.YtcaknjdolfheaaaGreatDoor
open Go Go.RowKit

set_option maxHeartbeats 12800000 in
set_option maxRecDepth 100000 in
theorem drawAdd_any (ao : Option Addr) (len cap : Nat) (w : World) (hr : ByteRow w ao len) (hl : len ≤ cap) (hc : cap ≤ maxLen) :
    Calls Tryz.prog 15 #[.slice ao len cap] w fun e w' => ∃ s bo d ps m a1 c1 a2 c2 t, e = .returned (.tuple #[.agg (spoolV s bo d), .agg (mailV m a1 c1 a2 c2), .int .i64 t]) ∧ SplA s ∧ ps.length = s.items.length ∧ Drawn m ∧ (t : Int) ∈ ([0, 5, 9999, 10000] : List Int) ∧ St w w' (Res.mail m a1 c1 a2 c2 :: itemsR bo d s.items ps) := by
  have S0 : Seal _ := ⟨by
    have h := (((St.start w).alloc #[.int .i64 0, .slice none 0 0] 25).alloc #[.string { data := #[] }, .string { data := #[] }, .slice none 0 0, .slice none 0 0] 31)
    simp only [World.size_alloc] at h
    exact h⟩
  have C : Seal _ := ⟨l20Open_any ao len cap _ (hr.below S0.out.below (Nat.le_refl _)) hl hc⟩
  clear hr hl hc
  go_enter Tryz.func15, Tryz.ntmps15
  go_wp2_with fail
  refine C.out.mono ?_
  rintro e w1 ⟨b, rfl, h1, b1⟩
  have S1 : Seal _ := ⟨S0.out.later b1⟩
  have hbl := h1.lt.1
  have D1 : Seal _ := ⟨Dw.start h1⟩
  clear h1 b1 S0 C
  go_wp2_with fail
  refine (l20AnySpool_any _ b 0 w1 D1.out.rd (by omega)).mono ?_
  rintro e w2 ⟨s, bo, d, ps, rfl, hs, hl, k2⟩
  have HS : Seal _ := ⟨hs⟩
  have HL : Seal _ := ⟨hl⟩
  have D2 : Seal (Dw _ b _ w1 (w2.alloc (.cells #[.int .i64 s.last, .slice bo s.items.length d] 25)) (Res.cells w2.heap.size (spoolL s bo d) :: itemsR bo d s.items ps)) := ⟨k2.alloc #[.int .i64 s.last, .slice bo s.items.length d] 25⟩
  clear hs hl k2 D1
  go_upto_region 3 with fail
  generalize w2.alloc (.cells #[.int .i64 s.last, .slice bo s.items.length d] 25) = wd at *
  have E0 : Seal _ := ⟨D2.out.later (Below.refl _ _).drew⟩
  clear D2
  refine wp_region_held_drew (S := (fun w' => w'.cell? ⟨w2.heap.size, 0, none⟩ = some (.int .i64 s.last) ∧ w'.cell? ⟨w2.heap.size, 1, none⟩ = some (.slice bo s.items.length d))) (by kernel_rfl) ⟨(E0.out).st.head.c 0 _ rfl, (E0.out).st.head.c 1 _ rfl⟩ (fun hHeld => ?_)
  refine tkH 0 (by assumption) (h := ?_)
  refine tkH 1 (by assumption) (h := ?_)
  refine tkH 3 (by assumption) (h := ?_)
  refine wpAnyH_ready (rs := [2, 4]) (by kernel_rfl) (by simp) ?_
  refine AllReadyH.cons rfl (fun K hK => ?_) (AllReadyH.cons rfl (fun K hK => ?_) AllReadyH.nil)
  · try dsimp only at hHeld
    go_split_ands
    go_simp
    refine (l20AnyMail_any _ b _ _ E0.out.rd (by omega)).mono ?_
    rintro e w7 ⟨m, a1, c1, a2, c2, rfl, o7, hdr, h7, g7⟩
    have E1 : Seal _ := ⟨E0.out.mail h7 g7 o7⟩
    have HD : Seal _ := ⟨hdr⟩
    clear o7 hdr h7 g7 E0
    refine hK.out _ _ ⟨(E1.out.tail).st.head.c 0 _ rfl, (E1.out.tail).st.head.c 1 _ rfl⟩ (fun hHeld => ?_)
    clear hK K
    try simp only [Act.put, List.getElem_toArray, List.getElem_cons_succ, List.getElem_cons_zero, List.setIfInBounds_toArray, List.set_cons_zero, List.set_cons_succ]
    refine wpAnyH_ready (rs := [4]) (by kernel_rfl) (by simp) ?_
    refine AllReadyH.cons rfl (fun K hK => ?_) AllReadyH.nil
    have E2 : Seal _ := ⟨E1.out.alloc #[.int .i64 0, .int .i64 5, .int .i64 9999, .int .i64 10000] 3⟩
    clear E1
    go_simp
    refine hK.out _ _ ⟨(E2.out.tail.tail).st.head.c 0 _ rfl, (E2.out.tail.tail).st.head.c 1 _ rfl⟩ (fun hHeld => ?_)
    clear hK K
    try simp only [Act.put, List.getElem_toArray, List.getElem_cons_succ, List.getElem_cons_zero, List.setIfInBounds_toArray, List.set_cons_zero, List.set_cons_succ]
    refine wpAnyH_ready (rs := [5]) (by kernel_rfl) (by simp) ?_
    refine AllReadyH.cons rfl (fun K hK => ?_) AllReadyH.nil
    try dsimp only at hHeld
    go_split_ands
    go_simp
    refine (one_any [0, 5, 9999, 10000] E2.out.rd (E2.out).st.head (E2.out).ne (by omega) rfl (by decide) (by decide)).mono ?_
    rintro e w8 ⟨t, ht, rfl, h8, g8⟩
    have E3 : Seal _ := ⟨E2.out.draw h8 g8⟩
    have HT : Seal _ := ⟨ht⟩
    clear h8 g8 E2 ht
    refine hK.out _ _ ⟨(E3.out.tail.tail).st.head.c 0 _ rfl, (E3.out.tail.tail).st.head.c 1 _ rfl⟩ (fun hHeld => ?_)
    clear hK K
    try simp only [Act.put, List.getElem_toArray, List.getElem_cons_succ, List.getElem_cons_zero, List.setIfInBounds_toArray, List.set_cons_zero, List.set_cons_succ]
    have S3 : Seal _ := ⟨S1.out.drawn2 (E3.out.tail) (by simp at hbl; omega) fun r hr => by
      simp only [List.mem_cons, List.not_mem_nil, or_false] at hr
      simp only [World.size_alloc] at hbl
      rcases hr with rfl | rfl <;> (intro e; first | (have e' : b = w.heap.size := e; omega) | (have e' : b = w.heap.size + 1 := e; omega) | (have e' : b = w.heap.size + 1 + 1 := e; omega))⟩
    clear E3 S1 hbl
    refine wpAnyH_ready (rs := [6]) (by kernel_rfl) (by simp) ?_
    refine AllReadyH.cons rfl (fun K hK => ?_) AllReadyH.nil
    have KB := (S3.out.get (by simp : Res.cells (w.heap.size) [.int .i64 0, .slice none 0 0] ∈ _) : CellsM _ (w.heap.size) [.int .i64 0, .slice none 0 0])
    have oc0 := KB.c 0 _ rfl
    have of0 := KB.f 0 (by simp)
    have oc1 := KB.c 1 _ rfl
    have of1 := KB.f 1 (by simp)
    have S4 : Seal _ := ⟨(((S3.out.perm (perm_at1of2 _ _ _ )).set 0 (.int .i64 s.last) (by simp)).set 1 (.slice bo s.items.length d) (by simp)).perm (perm_at1of2 _ _ _ ).symm⟩
    clear KB S3
    go_simp
    refine hK.out _ _ ⟨(S4.out.get (List.mem_append_left _ (List.mem_cons_of_mem _ List.mem_cons_self)) : CellsM _ w2.heap.size (spoolL s bo d)).c 0 _ rfl, (S4.out.get (List.mem_append_left _ (List.mem_cons_of_mem _ List.mem_cons_self)) : CellsM _ w2.heap.size (spoolL s bo d)).c 1 _ rfl⟩ (fun hHeld => ?_)
    clear hK K
    try simp only [Act.put, List.getElem_toArray, List.getElem_cons_succ, List.getElem_cons_zero, List.setIfInBounds_toArray, List.set_cons_zero, List.set_cons_succ]
    clear oc0 of0 oc1 of1
    refine wpAnyH_ready (rs := [7]) (by kernel_rfl) (by simp) ?_
    refine AllReadyH.cons rfl (fun K hK => ?_) AllReadyH.nil
    have KB := (S4.out.get (by simp : Res.cells (w.heap.size + 1) [.string { data := #[] }, .string { data := #[] }, .slice none 0 0, .slice none 0 0] ∈ _) : CellsM _ (w.heap.size + 1) [.string { data := #[] }, .string { data := #[] }, .slice none 0 0, .slice none 0 0])
    have oc0 := KB.c 0 _ rfl
    have of0 := KB.f 0 (by simp)
    have oc1 := KB.c 1 _ rfl
    have of1 := KB.f 1 (by simp)
    have oc2 := KB.c 2 _ rfl
    have of2 := KB.f 2 (by simp)
    have oc3 := KB.c 3 _ rfl
    have of3 := KB.f 3 (by simp)
    have S5 : Seal _ := ⟨(((((S4.out.perm (perm_at0of2 _ _ _ )).set 0 (.string m.fu) (by simp)).set 1 (.string m.fd) (by simp)).set 2 (.slice a1 m.rc.length c1) (by simp)).set 3 (.slice a2 m.body.length c2) (by simp)).perm (perm_at0of2 _ _ _ ).symm⟩
    clear KB S4
    go_simp
    refine hK.out _ _ ⟨(S5.out.get (List.mem_append_left _ (List.mem_cons_of_mem _ List.mem_cons_self)) : CellsM _ w2.heap.size (spoolL s bo d)).c 0 _ rfl, (S5.out.get (List.mem_append_left _ (List.mem_cons_of_mem _ List.mem_cons_self)) : CellsM _ w2.heap.size (spoolL s bo d)).c 1 _ rfl⟩ (fun hHeld => ?_)
    clear hK K
    try simp only [Act.put, List.getElem_toArray, List.getElem_cons_succ, List.getElem_cons_zero, List.setIfInBounds_toArray, List.set_cons_zero, List.set_cons_succ]
    clear oc0 of0 oc1 of1 oc2 of2 oc3 of3
    refine wpAnyH_ready (rs := [8]) (by kernel_rfl) (by simp) ?_
    refine AllReadyH.cons rfl (fun K hK => ?_) AllReadyH.nil
    go_simp
    refine hK.out _ _ (by assumption) (fun hHeld => ?_)
    clear hK K
    try simp only [Act.put, List.getElem_toArray, List.getElem_cons_succ, List.getElem_cons_zero, List.setIfInBounds_toArray, List.set_cons_zero, List.set_cons_succ]
    refine wpAnyH_done (by kernel_rfl) ?_ _
    have KB := (S5.out.get (by simp : Res.cells (w.heap.size) [.int .i64 s.last, .slice bo s.items.length d] ∈ _) : CellsM _ (w.heap.size) [.int .i64 s.last, .slice bo s.items.length d])
    have r00 := KB.c 0 _ rfl
    have r01 := KB.c 1 _ rfl
    clear KB
    have KB := (S5.out.get (by simp : Res.cells (w.heap.size + 1) [.string m.fu, .string m.fd, .slice a1 m.rc.length c1, .slice a2 m.body.length c2] ∈ _) : CellsM _ (w.heap.size + 1) [.string m.fu, .string m.fd, .slice a1 m.rc.length c1, .slice a2 m.body.length c2])
    have r10 := KB.c 0 _ rfl
    have r11 := KB.c 1 _ rfl
    have r12 := KB.c 2 _ rfl
    have r13 := KB.c 3 _ rfl
    clear KB
    generalize hwz : World.setCell _ _ _ = wz at r00 r01 r10 r11 r12 r13 S5 ⊢
    go_wp2
    refine bodyPost_ret (v := .tuple #[.agg (spoolV s bo d), .agg (mailV m a1 c1 a2 c2), .int .i64 t]) (by simp [results, Tryz.results15, go_sem, r00, r01, r10, r11, r12, r13]) rfl ⟨s, bo, d, ps, m, a1, c1, a2, c2, t, rfl, HS.out, HL.out, HD.out, HT.out, ?_⟩
    exact own_partsM S5.out
  · have E1 : Seal _ := ⟨E0.out.alloc #[.int .i64 0, .int .i64 5, .int .i64 9999, .int .i64 10000] 3⟩
    clear E0
    go_simp
    refine hK.out _ _ ⟨(E1.out.tail).st.head.c 0 _ rfl, (E1.out.tail).st.head.c 1 _ rfl⟩ (fun hHeld => ?_)
    clear hK K
    try simp only [Act.put, List.getElem_toArray, List.getElem_cons_succ, List.getElem_cons_zero, List.setIfInBounds_toArray, List.set_cons_zero, List.set_cons_succ]
    refine wpAnyH_ready (rs := [2]) (by kernel_rfl) (by simp) ?_
    refine AllReadyH.cons rfl (fun K hK => ?_) AllReadyH.nil
    try dsimp only at hHeld
    go_split_ands
    go_simp
    refine (l20AnyMail_any _ b _ _ E1.out.rd (by omega)).mono ?_
    rintro e w7 ⟨m, a1, c1, a2, c2, rfl, o7, hdr, h7, g7⟩
    have E2 : Seal _ := ⟨E1.out.mail h7 g7 o7⟩
    have HD : Seal _ := ⟨hdr⟩
    clear o7 hdr h7 g7 E1
    refine hK.out _ _ ⟨(E2.out.tail.tail).st.head.c 0 _ rfl, (E2.out.tail.tail).st.head.c 1 _ rfl⟩ (fun hHeld => ?_)
    clear hK K
    try simp only [Act.put, List.getElem_toArray, List.getElem_cons_succ, List.getElem_cons_zero, List.setIfInBounds_toArray, List.set_cons_zero, List.set_cons_succ]
    refine wpAnyH_ready (rs := [5]) (by kernel_rfl) (by simp) ?_
    refine AllReadyH.cons rfl (fun K hK => ?_) AllReadyH.nil
    try dsimp only at hHeld
    go_split_ands
    go_simp
    refine (one_any [0, 5, 9999, 10000] E2.out.rd (E2.out.tail).st.head (E2.out.tail).ne (by omega) rfl (by decide) (by decide)).mono ?_
    rintro e w8 ⟨t, ht, rfl, h8, g8⟩
    have E3 : Seal _ := ⟨E2.out.draw h8 g8⟩
    have HT : Seal _ := ⟨ht⟩
    clear h8 g8 E2 ht
    refine hK.out _ _ ⟨(E3.out.tail.tail).st.head.c 0 _ rfl, (E3.out.tail.tail).st.head.c 1 _ rfl⟩ (fun hHeld => ?_)
    clear hK K
    try simp only [Act.put, List.getElem_toArray, List.getElem_cons_succ, List.getElem_cons_zero, List.setIfInBounds_toArray, List.set_cons_zero, List.set_cons_succ]
    have E4 : Seal _ := ⟨E3.out.two.tail⟩
    clear E3
    have S3 : Seal _ := ⟨S1.out.drawn2 (E4.out) (by simp at hbl; omega) fun r hr => by
      simp only [List.mem_cons, List.not_mem_nil, or_false] at hr
      simp only [World.size_alloc] at hbl
      rcases hr with rfl | rfl <;> (intro e; first | (have e' : b = w.heap.size := e; omega) | (have e' : b = w.heap.size + 1 := e; omega) | (have e' : b = w.heap.size + 1 + 1 := e; omega))⟩
    clear E4 S1 hbl
    refine wpAnyH_ready (rs := [6]) (by kernel_rfl) (by simp) ?_
    refine AllReadyH.cons rfl (fun K hK => ?_) AllReadyH.nil
    have KB := (S3.out.get (by simp : Res.cells (w.heap.size) [.int .i64 0, .slice none 0 0] ∈ _) : CellsM _ (w.heap.size) [.int .i64 0, .slice none 0 0])
    have oc0 := KB.c 0 _ rfl
    have of0 := KB.f 0 (by simp)
    have oc1 := KB.c 1 _ rfl
    have of1 := KB.f 1 (by simp)
    have S4 : Seal _ := ⟨(((S3.out.perm (perm_at1of2 _ _ _ )).set 0 (.int .i64 s.last) (by simp)).set 1 (.slice bo s.items.length d) (by simp)).perm (perm_at1of2 _ _ _ ).symm⟩
    clear KB S3
    go_simp
    refine hK.out _ _ ⟨(S4.out.get (List.mem_append_left _ (List.mem_cons_of_mem _ List.mem_cons_self)) : CellsM _ w2.heap.size (spoolL s bo d)).c 0 _ rfl, (S4.out.get (List.mem_append_left _ (List.mem_cons_of_mem _ List.mem_cons_self)) : CellsM _ w2.heap.size (spoolL s bo d)).c 1 _ rfl⟩ (fun hHeld => ?_)
    clear hK K
    try simp only [Act.put, List.getElem_toArray, List.getElem_cons_succ, List.getElem_cons_zero, List.setIfInBounds_toArray, List.set_cons_zero, List.set_cons_succ]
    clear oc0 of0 oc1 of1
    refine wpAnyH_ready (rs := [7]) (by kernel_rfl) (by simp) ?_
    refine AllReadyH.cons rfl (fun K hK => ?_) AllReadyH.nil
    have KB := (S4.out.get (by simp : Res.cells (w.heap.size + 1) [.string { data := #[] }, .string { data := #[] }, .slice none 0 0, .slice none 0 0] ∈ _) : CellsM _ (w.heap.size + 1) [.string { data := #[] }, .string { data := #[] }, .slice none 0 0, .slice none 0 0])
    have oc0 := KB.c 0 _ rfl
    have of0 := KB.f 0 (by simp)
    have oc1 := KB.c 1 _ rfl
    have of1 := KB.f 1 (by simp)
    have oc2 := KB.c 2 _ rfl
    have of2 := KB.f 2 (by simp)
    have oc3 := KB.c 3 _ rfl
    have of3 := KB.f 3 (by simp)
    have S5 : Seal _ := ⟨(((((S4.out.perm (perm_at0of2 _ _ _ )).set 0 (.string m.fu) (by simp)).set 1 (.string m.fd) (by simp)).set 2 (.slice a1 m.rc.length c1) (by simp)).set 3 (.slice a2 m.body.length c2) (by simp)).perm (perm_at0of2 _ _ _ ).symm⟩
    clear KB S4
    go_simp
    refine hK.out _ _ ⟨(S5.out.get (List.mem_append_left _ (List.mem_cons_of_mem _ List.mem_cons_self)) : CellsM _ w2.heap.size (spoolL s bo d)).c 0 _ rfl, (S5.out.get (List.mem_append_left _ (List.mem_cons_of_mem _ List.mem_cons_self)) : CellsM _ w2.heap.size (spoolL s bo d)).c 1 _ rfl⟩ (fun hHeld => ?_)
    clear hK K
    try simp only [Act.put, List.getElem_toArray, List.getElem_cons_succ, List.getElem_cons_zero, List.setIfInBounds_toArray, List.set_cons_zero, List.set_cons_succ]
    clear oc0 of0 oc1 of1 oc2 of2 oc3 of3
    refine wpAnyH_ready (rs := [8]) (by kernel_rfl) (by simp) ?_
    refine AllReadyH.cons rfl (fun K hK => ?_) AllReadyH.nil
    go_simp
    refine hK.out _ _ (by assumption) (fun hHeld => ?_)
    clear hK K
    try simp only [Act.put, List.getElem_toArray, List.getElem_cons_succ, List.getElem_cons_zero, List.setIfInBounds_toArray, List.set_cons_zero, List.set_cons_succ]
    refine wpAnyH_done (by kernel_rfl) ?_ _
    have KB := (S5.out.get (by simp : Res.cells (w.heap.size) [.int .i64 s.last, .slice bo s.items.length d] ∈ _) : CellsM _ (w.heap.size) [.int .i64 s.last, .slice bo s.items.length d])
    have r00 := KB.c 0 _ rfl
    have r01 := KB.c 1 _ rfl
    clear KB
    have KB := (S5.out.get (by simp : Res.cells (w.heap.size + 1) [.string m.fu, .string m.fd, .slice a1 m.rc.length c1, .slice a2 m.body.length c2] ∈ _) : CellsM _ (w.heap.size + 1) [.string m.fu, .string m.fd, .slice a1 m.rc.length c1, .slice a2 m.body.length c2])
    have r10 := KB.c 0 _ rfl
    have r11 := KB.c 1 _ rfl
    have r12 := KB.c 2 _ rfl
    have r13 := KB.c 3 _ rfl
    clear KB
    generalize hwz : World.setCell _ _ _ = wz at r00 r01 r10 r11 r12 r13 S5 ⊢
    go_wp2
    refine bodyPost_ret (v := .tuple #[.agg (spoolV s bo d), .agg (mailV m a1 c1 a2 c2), .int .i64 t]) (by simp [results, Tryz.results15, go_sem, r00, r01, r10, r11, r12, r13]) rfl ⟨s, bo, d, ps, m, a1, c1, a2, c2, t, rfl, HS.out, HL.out, HD.out, HT.out, ?_⟩
    exact own_partsM S5.out
end Go.Proofs.YtcaknjdolfheaaaGreatDoor
