/- Contract: the draw of DrawSpoolDue. -/
import Derived.Test.YtcaknjdolfheaaaDoorDrawSpools
import Derived.Test.YtcaknjdolfheaaaDoorKinds
namespace Go.Proofs.YtcaknjdolfheaaaDoor
open Go Go.RowKit

set_option maxHeartbeats 12800000 in
set_option maxRecDepth 100000 in
theorem drawDue_any (ao : Option Addr) (len cap : Nat) (w : World) (hr : ByteRow w ao len) (hl : len ≤ cap) (hc : cap ≤ maxLen) :
    Calls Tryd.prog 17 #[.slice ao len cap] w fun e w' => ∃ s bo d ps t, e = .returned (.tuple #[.agg (spoolV s bo d), .int .i64 t]) ∧ SplA s ∧ ps.length = s.items.length ∧ (t : Int) ∈ ([0, 5, 10, 100] : List Int) ∧ St w w' (itemsR bo d s.items ps) := by
  have S0 : Seal _ := ⟨by
    have h := ((St.start w).alloc #[.int .i64 0, .slice none 0 0] 25)
    exact h⟩
  have C : Seal _ := ⟨l20Open_any ao len cap _ (hr.below S0.out.below (Nat.le_refl _)) hl hc⟩
  clear hr hl hc
  go_enter Tryd.func17, Tryd.ntmps17
  go_wp2_with fail
  refine C.out.mono ?_
  rintro e w1 ⟨b, rfl, h1, b1⟩
  have S1 : Seal _ := ⟨S0.out.later b1⟩
  have hbl := h1.lt.1
  have D1 : Seal _ := ⟨Dw.start h1⟩
  clear h1 b1 S0 C
  go_wp2_with fail
  refine (l20AnySpool_any _ b 0 w1 D1.out.rd (by omega)).mono ?_
  rintro e w2 ⟨s, bo, d, ps, rfl, hs, hl, k2⟩
  have HS : Seal _ := ⟨hs⟩
  have HL : Seal _ := ⟨hl⟩
  have D2 : Seal (Dw _ b _ w1 (w2.alloc (.cells #[.int .i64 s.last, .slice bo s.items.length d] 25)) (Res.cells w2.heap.size (spoolL s bo d) :: itemsR bo d s.items ps)) := ⟨k2.alloc #[.int .i64 s.last, .slice bo s.items.length d] 25⟩
  clear hs hl k2 D1
  go_upto_region 3 with fail
  generalize w2.alloc (.cells #[.int .i64 s.last, .slice bo s.items.length d] 25) = wd at *
  have E0 : Seal _ := ⟨D2.out.later (Below.refl _ _).drew⟩
  clear D2
  refine wp_region_held_drew (S := (fun w' => w'.cell? ⟨w2.heap.size, 0, none⟩ = some (.int .i64 s.last) ∧ w'.cell? ⟨w2.heap.size, 1, none⟩ = some (.slice bo s.items.length d))) (by kernel_rfl) ⟨(E0.out).st.head.c 0 _ rfl, (E0.out).st.head.c 1 _ rfl⟩ (fun hHeld => ?_)
  (refine wpAnyH_take (i := 0) (v := ?_) rfl (by kernel_rfl) (by kernel_rfl) (by kernel_rfl) (fun _ _ _ h => h) (Or.inl ⟨by rfl, ?_⟩) (by assumption) ?_; rotate_left; (intro w hSw; (try dsimp only at hSw); go_split_ands; go_simp; first | done | with_reducible rfl); rotate_left; simp only [Act.put, List.getElem_toArray, List.getElem_cons_zero, List.setIfInBounds_toArray, List.set_cons_succ, List.set_cons_zero])
  (refine wpAnyH_take (i := 1) (v := ?_) rfl (by kernel_rfl) (by kernel_rfl) (by kernel_rfl) (fun _ _ _ h => h) (Or.inl ⟨by rfl, ?_⟩) (by assumption) ?_; rotate_left; (intro w hSw; (try dsimp only at hSw); go_split_ands; go_simp; first | done | with_reducible rfl); rotate_left; simp only [Act.put, List.getElem_toArray, List.getElem_cons_succ, List.getElem_cons_zero, List.setIfInBounds_toArray, List.set_cons_succ, List.set_cons_zero])
  refine wpAnyH_ready (rs := [2]) (by kernel_rfl) (by simp) ?_
  refine AllReadyH.cons rfl (fun K hK => ?_) AllReadyH.nil
  have E1 : Seal _ := ⟨E0.out.alloc #[.int .i64 0, .int .i64 5, .int .i64 10, .int .i64 100] 3⟩
  clear E0
  go_simp
  refine hK.out _ _ ⟨(E1.out.tail).st.head.c 0 _ rfl, (E1.out.tail).st.head.c 1 _ rfl⟩ (fun hHeld => ?_)
  clear hK K
  try simp only [Act.put, List.getElem_toArray, List.getElem_cons_succ, List.getElem_cons_zero, List.setIfInBounds_toArray, List.set_cons_zero, List.set_cons_succ]
  refine wpAnyH_ready (rs := [3]) (by kernel_rfl) (by simp) ?_
  refine AllReadyH.cons rfl (fun K hK => ?_) AllReadyH.nil
  try dsimp only at hHeld
  go_split_ands
  go_simp
  refine (one_any [0, 5, 10, 100] E1.out.rd (E1.out).st.head (E1.out).ne (by omega) rfl (by decide) (by decide)).mono ?_
  rintro e w8 ⟨t, ht, rfl, h8, g8⟩
  have E2 : Seal _ := ⟨E1.out.draw h8 g8⟩
  have HT : Seal _ := ⟨ht⟩
  clear h8 g8 E1 ht
  refine hK.out _ _ ⟨(E2.out.tail).st.head.c 0 _ rfl, (E2.out.tail).st.head.c 1 _ rfl⟩ (fun hHeld => ?_)
  clear hK K
  try simp only [Act.put, List.getElem_toArray, List.getElem_cons_succ, List.getElem_cons_zero, List.setIfInBounds_toArray, List.set_cons_zero, List.set_cons_succ]
  have S3 : Seal _ := ⟨S1.out.drawn2 (E2.out.tail) (by simp at hbl; omega) fun r hr => by
    simp only [List.mem_cons, List.not_mem_nil, or_false] at hr
    simp only [World.size_alloc] at hbl
    rcases hr with rfl <;> (intro e; first | (have e' : b = w.heap.size := e; omega) | (have e' : b = w.heap.size + 1 := e; omega) | (have e' : b = w.heap.size + 1 + 1 := e; omega))⟩
  clear E2 S1 hbl
  refine wpAnyH_ready (rs := [4]) (by kernel_rfl) (by simp) ?_
  refine AllReadyH.cons rfl (fun K hK => ?_) AllReadyH.nil
  have KB := (S3.out.get (by simp : Res.cells (w.heap.size) [.int .i64 0, .slice none 0 0] ∈ _) : CellsM _ (w.heap.size) [.int .i64 0, .slice none 0 0])
  have oc0 := KB.c 0 _ rfl
  have of0 := KB.f 0 (by simp)
  have oc1 := KB.c 1 _ rfl
  have of1 := KB.f 1 (by simp)
  have S4 : Seal _ := ⟨(((S3.out.perm (perm_at0of1 _ _ )).set 0 (.int .i64 s.last) (by simp)).set 1 (.slice bo s.items.length d) (by simp)).perm (perm_at0of1 _ _ ).symm⟩
  clear KB S3
  go_simp
  refine hK.out _ _ ⟨(S4.out.get (List.mem_append_left _ List.mem_cons_self) : CellsM _ w2.heap.size (spoolL s bo d)).c 0 _ rfl, (S4.out.get (List.mem_append_left _ List.mem_cons_self) : CellsM _ w2.heap.size (spoolL s bo d)).c 1 _ rfl⟩ (fun hHeld => ?_)
  clear hK K
  try simp only [Act.put, List.getElem_toArray, List.getElem_cons_succ, List.getElem_cons_zero, List.setIfInBounds_toArray, List.set_cons_zero, List.set_cons_succ]
  clear oc0 of0 oc1 of1
  refine wpAnyH_ready (rs := [5]) (by kernel_rfl) (by simp) ?_
  refine AllReadyH.cons rfl (fun K hK => ?_) AllReadyH.nil
  go_simp
  refine hK.out _ _ (by assumption) (fun hHeld => ?_)
  clear hK K
  try simp only [Act.put, List.getElem_toArray, List.getElem_cons_succ, List.getElem_cons_zero, List.setIfInBounds_toArray, List.set_cons_zero, List.set_cons_succ]
  refine wpAnyH_done (by kernel_rfl) ?_ _
  have KB := (S4.out.get (by simp : Res.cells (w.heap.size) [.int .i64 s.last, .slice bo s.items.length d] ∈ _) : CellsM _ (w.heap.size) [.int .i64 s.last, .slice bo s.items.length d])
  have r00 := KB.c 0 _ rfl
  have r01 := KB.c 1 _ rfl
  clear KB
  generalize hwz : World.setCell _ _ _ = wz at r00 r01 S4 ⊢
  go_wp2
  refine bodyPost_ret (v := .tuple #[.agg (spoolV s bo d), .int .i64 t]) (by simp [results, Tryd.results17, go_sem, r00, r01]) rfl ⟨s, bo, d, ps, t, rfl, HS.out, HL.out, HT.out, ?_⟩
  exact own_parts S4.out
end Go.Proofs.YtcaknjdolfheaaaDoor
