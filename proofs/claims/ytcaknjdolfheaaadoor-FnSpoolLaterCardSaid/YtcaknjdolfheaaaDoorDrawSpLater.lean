/- Contract: the draw of DrawSpoolLater. -/
import Derived.Test.YtcaknjdolfheaaaDoorTk
import Derived.Test.YtcaknjdolfheaaaDoorDrawSpools
import Derived.Test.YtcaknjdolfheaaaDoorKinds
namespace Go.Proofs.YtcaknjdolfheaaaDoor
open Go Go.RowKit

set_option maxHeartbeats 12800000 in
set_option maxRecDepth 100000 in
theorem drawLater_any (ao : Option Addr) (len cap : Nat) (w : World) (hr : ByteRow w ao len) (hl : len ≤ cap) (hc : cap ≤ maxLen) :
    Calls Tryd.prog 13 #[.slice ao len cap] w fun e w' => ∃ s bo d ps i u v t, e = .returned (.tuple #[.agg (spoolV s bo d), .int .i64 i, .agg #[.string u, .string v], .int .i64 t]) ∧ SplA s ∧ ps.length = s.items.length ∧ u.size ≤ 1000 ∧ v.size ≤ 1000 ∧ (t : Int) ∈ ([0, 7, 50, 9995, 9999, (-1)] : List Int) ∧ St w w' (itemsR bo d s.items ps) := by
  have S0 : Seal _ := ⟨by
    have h := (((St.start w).alloc #[.int .i64 0, .slice none 0 0] 25).alloc #[.string { data := #[] }, .string { data := #[] }] 27)
    simp only [World.size_alloc] at h
    exact h⟩
  have C : Seal _ := ⟨l20Open_any ao len cap _ (hr.below S0.out.below (Nat.le_refl _)) hl hc⟩
  clear hr hl hc
  go_enter Tryd.func13, Tryd.ntmps13
  go_wp2_with fail
  refine C.out.mono ?_
  rintro e w1 ⟨b, rfl, h1, b1⟩
  have S1 : Seal _ := ⟨S0.out.later b1⟩
  have hbl := h1.lt.1
  have D1 : Seal _ := ⟨Dw.start h1⟩
  clear h1 b1 S0 C
  go_wp2_with fail
  refine (l20AnySpool_any _ b 0 w1 D1.out.rd (by omega)).mono ?_
  rintro e w2 ⟨s, bo, d, ps, rfl, hs, hl, k2⟩
  have HS : Seal _ := ⟨hs⟩
  have HL : Seal _ := ⟨hl⟩
  have D2 : Seal (Dw _ b _ w1 (w2.alloc (.cells #[.int .i64 s.last, .slice bo s.items.length d] 25)) (Res.cells w2.heap.size (spoolL s bo d) :: itemsR bo d s.items ps)) := ⟨k2.alloc #[.int .i64 s.last, .slice bo s.items.length d] 25⟩
  clear hs hl k2 D1
  have K6 := D2.out.st.head
  have j0 := K6.c 0 _ rfl
  have j1 := K6.c 1 _ rfl
  clear K6
  go_wp2_with fail
  refine (l20Of_any _ b _ s bo d ps HL.out HS.out [Res.cells w2.heap.size (spoolL s bo d)] w1 _ (D2.out.perm (List.perm_append_comm (l₁ := [Res.cells w2.heap.size (spoolL s bo d)]))) (by omega)).mono ?_
  rintro e w3 ⟨i, u, v, rfl, zu, zv, k3⟩
  have D3 : Seal (Dw _ b _ w1 (w3.alloc (.cells #[.string u, .string v] 27)) (Res.cells w3.heap.size [.string u, .string v] :: Res.cells w2.heap.size (spoolL s bo d) :: itemsR bo d s.items ps)) := ⟨(k3.perm (List.perm_append_comm (l₂ := [Res.cells w2.heap.size (spoolL s bo d)]))).alloc #[.string u, .string v] 27⟩
  have ZU : Seal (u.size ≤ 1000 ∧ v.size ≤ 1000) := ⟨⟨zu, zv⟩⟩
  clear k3 zu zv D2 j0 j1
  go_upto_region 4 with fail
  generalize w3.alloc (.cells #[.string u, .string v] 27) = wd at *
  have E0 : Seal _ := ⟨D3.out.later (Below.refl _ _).drew⟩
  clear D3
  refine wp_region_held_drew (S := (fun w' => w'.cell? ⟨w2.heap.size, 0, none⟩ = some (.int .i64 s.last) ∧ w'.cell? ⟨w2.heap.size, 1, none⟩ = some (.slice bo s.items.length d) ∧ w'.cell? ⟨w3.heap.size, 0, none⟩ = some (.string u) ∧ w'.cell? ⟨w3.heap.size, 1, none⟩ = some (.string v))) (by kernel_rfl) ⟨(E0.out).tail.st.head.c 0 _ rfl, (E0.out).tail.st.head.c 1 _ rfl, (E0.out).st.head.c 0 _ rfl, (E0.out).st.head.c 1 _ rfl⟩ (fun hHeld => ?_)
  refine tkH 0 (by assumption) (h := ?_)
  refine tkH 1 (by assumption) (h := ?_)
  refine tkH 2 (by assumption) (h := ?_)
  refine tkH 3 (by assumption) (h := ?_)
  refine wpAnyH_ready (rs := [4]) (by kernel_rfl) (by simp) ?_
  refine AllReadyH.cons rfl (fun K hK => ?_) AllReadyH.nil
  have E1 : Seal _ := ⟨E0.out.alloc #[.int .i64 0, .int .i64 7, .int .i64 50, .int .i64 9995, .int .i64 9999, .int .i64 (-1)] 3⟩
  clear E0
  go_simp
  refine hK.out _ _ ⟨(E1.out.tail).tail.st.head.c 0 _ rfl, (E1.out.tail).tail.st.head.c 1 _ rfl, (E1.out.tail).st.head.c 0 _ rfl, (E1.out.tail).st.head.c 1 _ rfl⟩ (fun hHeld => ?_)
  clear hK K
  try simp only [Act.put, List.getElem_toArray, List.getElem_cons_succ, List.getElem_cons_zero, List.setIfInBounds_toArray, List.set_cons_zero, List.set_cons_succ]
  refine wpAnyH_ready (rs := [5]) (by kernel_rfl) (by simp) ?_
  refine AllReadyH.cons rfl (fun K hK => ?_) AllReadyH.nil
  try dsimp only at hHeld
  go_split_ands
  go_simp
  refine (one_any [0, 7, 50, 9995, 9999, (-1)] E1.out.rd (E1.out).st.head (E1.out).ne (by omega) rfl (by decide) (by decide)).mono ?_
  rintro e w8 ⟨t, ht, rfl, h8, g8⟩
  have E2 : Seal _ := ⟨E1.out.draw h8 g8⟩
  have HT : Seal _ := ⟨ht⟩
  clear h8 g8 E1 ht
  refine hK.out _ _ ⟨(E2.out.tail).tail.st.head.c 0 _ rfl, (E2.out.tail).tail.st.head.c 1 _ rfl, (E2.out.tail).st.head.c 0 _ rfl, (E2.out.tail).st.head.c 1 _ rfl⟩ (fun hHeld => ?_)
  clear hK K
  try simp only [Act.put, List.getElem_toArray, List.getElem_cons_succ, List.getElem_cons_zero, List.setIfInBounds_toArray, List.set_cons_zero, List.set_cons_succ]
  have S3 : Seal _ := ⟨S1.out.drawn2 (E2.out.tail) (by simp at hbl; omega) fun r hr => by
    simp only [List.mem_cons, List.not_mem_nil, or_false] at hr
    simp only [World.size_alloc] at hbl
    rcases hr with rfl | rfl <;> (intro e; first | (have e' : b = w.heap.size := e; omega) | (have e' : b = w.heap.size + 1 := e; omega) | (have e' : b = w.heap.size + 1 + 1 := e; omega))⟩
  clear E2 S1 hbl
  refine wpAnyH_ready (rs := [6]) (by kernel_rfl) (by simp) ?_
  refine AllReadyH.cons rfl (fun K hK => ?_) AllReadyH.nil
  have KB := (S3.out.get (by simp : Res.cells (w.heap.size) [.int .i64 0, .slice none 0 0] ∈ _) : CellsM _ (w.heap.size) [.int .i64 0, .slice none 0 0])
  have oc0 := KB.c 0 _ rfl
  have of0 := KB.f 0 (by simp)
  have oc1 := KB.c 1 _ rfl
  have of1 := KB.f 1 (by simp)
  have S4 : Seal _ := ⟨(((S3.out.perm (perm_at1of2 _ _ _ )).set 0 (.int .i64 s.last) (by simp)).set 1 (.slice bo s.items.length d) (by simp)).perm (perm_at1of2 _ _ _ ).symm⟩
  clear KB S3
  go_simp
  refine hK.out _ _ ⟨(S4.out.get (List.mem_append_left _ (List.mem_cons_of_mem _ List.mem_cons_self)) : CellsM _ w2.heap.size (spoolL s bo d)).c 0 _ rfl, (S4.out.get (List.mem_append_left _ (List.mem_cons_of_mem _ List.mem_cons_self)) : CellsM _ w2.heap.size (spoolL s bo d)).c 1 _ rfl, (S4.out.get (List.mem_append_left _ List.mem_cons_self) : CellsM _ w3.heap.size [.string u, .string v]).c 0 _ rfl, (S4.out.get (List.mem_append_left _ List.mem_cons_self) : CellsM _ w3.heap.size [.string u, .string v]).c 1 _ rfl⟩ (fun hHeld => ?_)
  clear hK K
  try simp only [Act.put, List.getElem_toArray, List.getElem_cons_succ, List.getElem_cons_zero, List.setIfInBounds_toArray, List.set_cons_zero, List.set_cons_succ]
  clear oc0 of0 oc1 of1
  refine wpAnyH_ready (rs := [7]) (by kernel_rfl) (by simp) ?_
  refine AllReadyH.cons rfl (fun K hK => ?_) AllReadyH.nil
  go_simp
  refine hK.out _ _ (by assumption) (fun hHeld => ?_)
  clear hK K
  try simp only [Act.put, List.getElem_toArray, List.getElem_cons_succ, List.getElem_cons_zero, List.setIfInBounds_toArray, List.set_cons_zero, List.set_cons_succ]
  refine wpAnyH_ready (rs := [8]) (by kernel_rfl) (by simp) ?_
  refine AllReadyH.cons rfl (fun K hK => ?_) AllReadyH.nil
  have KB := (S4.out.get (by simp : Res.cells (w.heap.size + 1) [.string { data := #[] }, .string { data := #[] }] ∈ _) : CellsM _ (w.heap.size + 1) [.string { data := #[] }, .string { data := #[] }])
  have oc0 := KB.c 0 _ rfl
  have of0 := KB.f 0 (by simp)
  have oc1 := KB.c 1 _ rfl
  have of1 := KB.f 1 (by simp)
  have S5 : Seal _ := ⟨(((S4.out.perm (perm_at0of2 _ _ _ )).set 0 (.string u) (by simp)).set 1 (.string v) (by simp)).perm (perm_at0of2 _ _ _ ).symm⟩
  clear KB S4
  go_simp
  refine hK.out _ _ ⟨(S5.out.get (List.mem_append_left _ (List.mem_cons_of_mem _ List.mem_cons_self)) : CellsM _ w2.heap.size (spoolL s bo d)).c 0 _ rfl, (S5.out.get (List.mem_append_left _ (List.mem_cons_of_mem _ List.mem_cons_self)) : CellsM _ w2.heap.size (spoolL s bo d)).c 1 _ rfl, (S5.out.get (List.mem_append_left _ List.mem_cons_self) : CellsM _ w3.heap.size [.string u, .string v]).c 0 _ rfl, (S5.out.get (List.mem_append_left _ List.mem_cons_self) : CellsM _ w3.heap.size [.string u, .string v]).c 1 _ rfl⟩ (fun hHeld => ?_)
  clear hK K
  try simp only [Act.put, List.getElem_toArray, List.getElem_cons_succ, List.getElem_cons_zero, List.setIfInBounds_toArray, List.set_cons_zero, List.set_cons_succ]
  clear oc0 of0 oc1 of1
  refine wpAnyH_ready (rs := [9]) (by kernel_rfl) (by simp) ?_
  refine AllReadyH.cons rfl (fun K hK => ?_) AllReadyH.nil
  go_simp
  refine hK.out _ _ (by assumption) (fun hHeld => ?_)
  clear hK K
  try simp only [Act.put, List.getElem_toArray, List.getElem_cons_succ, List.getElem_cons_zero, List.setIfInBounds_toArray, List.set_cons_zero, List.set_cons_succ]
  refine wpAnyH_done (by kernel_rfl) ?_ _
  have KB := (S5.out.get (by simp : Res.cells (w.heap.size) [.int .i64 s.last, .slice bo s.items.length d] ∈ _) : CellsM _ (w.heap.size) [.int .i64 s.last, .slice bo s.items.length d])
  have r00 := KB.c 0 _ rfl
  have r01 := KB.c 1 _ rfl
  clear KB
  have KB := (S5.out.get (by simp : Res.cells (w.heap.size + 1) [.string u, .string v] ∈ _) : CellsM _ (w.heap.size + 1) [.string u, .string v])
  have r10 := KB.c 0 _ rfl
  have r11 := KB.c 1 _ rfl
  clear KB
  generalize hwz : World.setCell _ _ _ = wz at r00 r01 r10 r11 S5 ⊢
  go_wp2
  refine bodyPost_ret (v := .tuple #[.agg (spoolV s bo d), .int .i64 i, .agg #[.string u, .string v], .int .i64 t]) (by simp [results, Tryd.results13, go_sem, r00, r01, r10, r11]) rfl ⟨s, bo, d, ps, i, u, v, t, rfl, HS.out, HL.out, ZU.out.1, ZU.out.2, HT.out, ?_⟩
  exact own_partsA S5.out
end Go.Proofs.YtcaknjdolfheaaaDoor
