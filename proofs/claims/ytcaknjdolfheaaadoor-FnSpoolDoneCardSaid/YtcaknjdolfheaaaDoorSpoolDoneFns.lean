/- PlainDoneFn, DrawSpDone, WSpoolDoneFn. -/
import Derived.Test.YtcaknjdolfheaaaDoorSpoolDoneK
import Derived.Test.YtcaknjdolfheaaaDoorDrawSpools
import Derived.Test.YtcaknjdolfheaaaDoorKinds
import Derived.Test.YtcaknjdolfheaaaDoorSaSpools
import Derived.Test.YtcaknjdolfheaaaDoorSpoolDones
import Derived.Deep.RegionHeld3
namespace Go.Proofs.YtcaknjdolfheaaaDoor
open Go

theorem doneAt_inv {s : SpoolD} {i : Int} {u d : ByteArray} {a k : Nat} {x : ItemD} (h : doneAt s i u d = some (a, x, k)) : findR (idB i) s.items = a ∧ s.items[a]? = some x ∧ idB i x = true ∧ ∃ r, x.rc[k]? = some r ∧ toB1 u d r = true := by
  rcases findR_cases (idB i) s.items with hno | ⟨a', x', ha, hx, hi⟩
  · rw [doneAt_noid hno] at h; cases h
  · rcases findR_cases (toB1 u d) x'.rc with hno | ⟨k', r, hk, hr, ht⟩
    · rw [doneAt_norc ha hx hno] at h; cases h
    · rw [doneAt_at ha hx hk] at h
      simp only [Option.some.injEq, Prod.mk.injEq] at h
      obtain ⟨rfl, rfl, rfl⟩ := h
      exact ⟨ha, hx, hi, r, hr, ht⟩
theorem doneR_no {s : SpoolD} {i : Int} {u d : ByteArray} (h : spoolB s = true) (hq : (doneR s i u d).2 = false) : (doneR s i u d).1 = s := by
  cases e : doneAt s i u d with
  | none => rw [doneR_none h e]
  | some v => obtain ⟨a, x, k⟩ := v; rw [doneR_some h e] at hq; cases hq
theorem doneR_again {s : SpoolD} {i : Int} {u d : ByteArray} (h : spoolB s = true) (hq : (doneR s i u d).2 = true) :
    spoolB (doneR s i u d).1 = true ∧ manyR (doneR s i u d).1 = manyR s - 1 ∧ (doneR s i u d).1.last = s.last ∧ (doneR (doneR s i u d).1 i u d).2 = false := by
  cases e : doneAt s i u d with
  | none => rw [doneR_none h e] at hq; cases hq
  | some v =>
    obtain ⟨a, x, k⟩ := v
    obtain ⟨ha, hx, hi, r, hr, ht⟩ := doneAt_inv e
    rw [doneR_some h e]
    dsimp only
    have hok := doneS_ok (k := k) h hx
    refine ⟨hok, doneS_many h hx hr, rfl, ?_⟩
    have hn : doneAt (doneS s a (doneI x k)) i u d = none := by
      have g := (spoolG_iff s).1 h
      have gi := (itemG_iff x).1 (g.ok x (List.mem_of_getElem? hx))
      unfold idB at hi
      rw [beq_iff_eq] at hi
      by_cases hz : (doneI x k).rc = []
      · refine doneAt_noid (findR_out fun y hy => ?_)
        have e2 : (doneS s a (doneI x k)).items = s.items.take a ++ s.items.drop (a + 1) := by unfold doneS; rw [if_pos hz]
        rw [e2] at hy
        have := cut_without ItemD.id (ids_nodup h) hx y hy
        unfold idB
        rw [beq_eq_false_iff_ne]
        omega
      · have e2 : (doneS s a (doneI x k)).items = s.items.set a (doneI x k) := by unfold doneS; rw [if_neg hz]
        have e3 : (s.items.set a (doneI x k)).map ItemD.id = s.items.map ItemD.id := map_set_same ItemD.id hx rfl
        have hka := (List.getElem?_eq_some_iff.1 hx).1
        refine doneAt_norc (a := a) (x := doneI x k) (by rw [e2, findR_ids i e3]; exact ha) (by rw [e2, List.getElem?_set_self hka]) (findR_out fun y hy => ?_)
        have := cut_without rcptPair gi.nd hr y hy
        rw [(toB1_iff u d r).1 ht] at this
        rw [← Bool.not_eq_true, toB1_iff]
        exact this
    rw [doneR_none hok hn]
theorem many_small {s : SpoolD} (h : spoolB s = true) : 0 ≤ manyR s ∧ manyR s ≤ 10100 := by
  have h1 := (spool_small h).1
  have h2 := many_le s s.items.length
  rw [List.take_length] at h2
  unfold manyR
  rw [if_pos h]
  omega
end Go.Proofs.YtcaknjdolfheaaaDoor
namespace Go.Proofs.YtcaknjdolfheaaaDoor
open Go Go.RowKit

set_option maxHeartbeats 12800000 in
set_option maxRecDepth 100000 in
theorem drawDone_any (ao : Option Addr) (len cap : Nat) (w : World) (hr : ByteRow w ao len) (hl : len ≤ cap) (hc : cap ≤ maxLen) :
    Calls Tryd.prog 7 #[.slice ao len cap] w fun e w' => ∃ s bo d ps i u v, e = .returned (.tuple #[.agg (spoolV s bo d), .int .i64 i, .agg #[.string u, .string v]]) ∧ SplA s ∧ ps.length = s.items.length ∧ u.size ≤ 1000 ∧ v.size ≤ 1000 ∧ St w w' (itemsR bo d s.items ps) := by
  have S0 : Seal _ := ⟨by
    have h := (((St.start w).alloc #[.int .i64 0, .slice none 0 0] 25).alloc #[.string { data := #[] }, .string { data := #[] }] 27)
    simp only [World.size_alloc] at h
    exact h⟩
  have C : Seal _ := ⟨l20Open_any ao len cap _ (hr.below S0.out.below (Nat.le_refl _)) hl hc⟩
  clear hr hl hc
  go_enter Tryd.func7, Tryd.ntmps7
  go_wp2_with fail
  refine C.out.mono ?_
  rintro e w1 ⟨b, rfl, h1, b1⟩
  have S1 : Seal _ := ⟨S0.out.later b1⟩
  have hbl := h1.lt.1
  have D1 : Seal _ := ⟨Dw.start h1⟩
  clear h1 b1 S0 C
  go_wp2_with fail
  refine (l20AnySpool_any _ b 0 w1 D1.out.rd (by omega)).mono ?_
  rintro e w2 ⟨s, bo, d, ps, rfl, hs, hl, k2⟩
  have HS : Seal _ := ⟨hs⟩
  have HL : Seal _ := ⟨hl⟩
  have D2 : Seal (Dw _ b _ w1 (w2.alloc (.cells #[.int .i64 s.last, .slice bo s.items.length d] 25)) (Res.cells w2.heap.size (spoolL s bo d) :: itemsR bo d s.items ps)) := ⟨k2.alloc #[.int .i64 s.last, .slice bo s.items.length d] 25⟩
  clear hs hl k2 D1
  have K6 := D2.out.st.head
  have j0 := K6.c 0 _ rfl
  have j1 := K6.c 1 _ rfl
  clear K6
  go_wp2_with fail
  refine (l20Of_any _ b _ s bo d ps HL.out HS.out [Res.cells w2.heap.size (spoolL s bo d)] w1 _ (D2.out.perm (List.perm_append_comm (l₁ := [Res.cells w2.heap.size (spoolL s bo d)]))) (by omega)).mono ?_
  rintro e w3 ⟨i, u, v, rfl, zu, zv, k3⟩
  have D3 : Seal (Dw _ b _ w1 (w3.alloc (.cells #[.string u, .string v] 27)) (Res.cells w3.heap.size [.string u, .string v] :: Res.cells w2.heap.size (spoolL s bo d) :: itemsR bo d s.items ps)) := ⟨(k3.perm (List.perm_append_comm (l₂ := [Res.cells w2.heap.size (spoolL s bo d)]))).alloc #[.string u, .string v] 27⟩
  have ZU : Seal (u.size ≤ 1000 ∧ v.size ≤ 1000) := ⟨⟨zu, zv⟩⟩
  clear k3 zu zv D2 j0 j1
  go_upto_region 4 with fail
  generalize w3.alloc (.cells #[.string u, .string v] 27) = wd at *
  have E0 : Seal _ := ⟨D3.out.later (Below.refl _ _).drew⟩
  clear D3
  refine wp_region_held_drew (S := (fun w' => w'.cell? ⟨w2.heap.size, 0, none⟩ = some (.int .i64 s.last) ∧ w'.cell? ⟨w2.heap.size, 1, none⟩ = some (.slice bo s.items.length d) ∧ w'.cell? ⟨w3.heap.size, 0, none⟩ = some (.string u) ∧ w'.cell? ⟨w3.heap.size, 1, none⟩ = some (.string v))) (by kernel_rfl) ⟨(E0.out).tail.st.head.c 0 _ rfl, (E0.out).tail.st.head.c 1 _ rfl, (E0.out).st.head.c 0 _ rfl, (E0.out).st.head.c 1 _ rfl⟩ (fun hHeld => ?_)
  (refine wpAnyH_take (i := 0) (v := ?_) rfl (by kernel_rfl) (by kernel_rfl) (by kernel_rfl) (fun _ _ _ h => h) (Or.inl ⟨by rfl, ?_⟩) (by assumption) ?_; rotate_left; (intro w hSw; (try dsimp only at hSw); go_split_ands; go_simp; first | done | with_reducible rfl); rotate_left; simp only [Act.put, List.getElem_toArray, List.getElem_cons_zero, List.setIfInBounds_toArray, List.set_cons_succ, List.set_cons_zero])
  (refine wpAnyH_take (i := 1) (v := ?_) rfl (by kernel_rfl) (by kernel_rfl) (by kernel_rfl) (fun _ _ _ h => h) (Or.inl ⟨by rfl, ?_⟩) (by assumption) ?_; rotate_left; (intro w hSw; (try dsimp only at hSw); go_split_ands; go_simp; first | done | with_reducible rfl); rotate_left; simp only [Act.put, List.getElem_toArray, List.getElem_cons_succ, List.getElem_cons_zero, List.setIfInBounds_toArray, List.set_cons_succ, List.set_cons_zero])
  (refine wpAnyH_take (i := 2) (v := ?_) rfl (by kernel_rfl) (by kernel_rfl) (by kernel_rfl) (fun _ _ _ h => h) (Or.inl ⟨by rfl, ?_⟩) (by assumption) ?_; rotate_left; (intro w hSw; (try dsimp only at hSw); go_split_ands; go_simp; first | done | with_reducible rfl); rotate_left; simp only [Act.put, List.getElem_toArray, List.getElem_cons_succ, List.getElem_cons_zero, List.setIfInBounds_toArray, List.set_cons_succ, List.set_cons_zero])
  generalize wd.drew = we at *
  have S3 : Seal _ := ⟨S1.out.drawn2 (E0.out) (by simp at hbl; omega) fun r hr => by
    simp only [List.mem_cons, List.not_mem_nil, or_false] at hr
    simp only [World.size_alloc] at hbl
    rcases hr with rfl | rfl <;> (intro e; first | (have e' : b = w.heap.size := e; omega) | (have e' : b = w.heap.size + 1 := e; omega) | (have e' : b = w.heap.size + 1 + 1 := e; omega))⟩
  clear E0 S1 hbl
  refine wpAnyH_ready (rs := [3]) (by kernel_rfl) (by simp) ?_
  refine AllReadyH.cons rfl (fun K hK => ?_) AllReadyH.nil
  have KB := (S3.out.get (by simp : Res.cells (w.heap.size) [.int .i64 0, .slice none 0 0] ∈ _) : CellsM _ (w.heap.size) [.int .i64 0, .slice none 0 0])
  have oc0 := KB.c 0 _ rfl
  have of0 := KB.f 0 (by simp)
  have oc1 := KB.c 1 _ rfl
  have of1 := KB.f 1 (by simp)
  have S4 : Seal _ := ⟨(((S3.out.perm (perm_at1of2 _ _ _ )).set 0 (.int .i64 s.last) (by simp)).set 1 (.slice bo s.items.length d) (by simp)).perm (perm_at1of2 _ _ _ ).symm⟩
  clear KB S3
  go_simp
  refine hK.out _ _ ⟨(S4.out.get (List.mem_append_left _ (List.mem_cons_of_mem _ List.mem_cons_self)) : CellsM _ w2.heap.size (spoolL s bo d)).c 0 _ rfl, (S4.out.get (List.mem_append_left _ (List.mem_cons_of_mem _ List.mem_cons_self)) : CellsM _ w2.heap.size (spoolL s bo d)).c 1 _ rfl, (S4.out.get (List.mem_append_left _ List.mem_cons_self) : CellsM _ w3.heap.size [.string u, .string v]).c 0 _ rfl, (S4.out.get (List.mem_append_left _ List.mem_cons_self) : CellsM _ w3.heap.size [.string u, .string v]).c 1 _ rfl⟩ (fun hHeld => ?_)
  clear hK K
  try simp only [Act.put, List.getElem_toArray, List.getElem_cons_succ, List.getElem_cons_zero, List.setIfInBounds_toArray, List.set_cons_zero, List.set_cons_succ]
  clear oc0 of0 oc1 of1
  refine wpAnyH_ready (rs := [4]) (by kernel_rfl) (by simp) ?_
  refine AllReadyH.cons rfl (fun K hK => ?_) AllReadyH.nil
  go_simp
  refine hK.out _ _ (by assumption) (fun hHeld => ?_)
  clear hK K
  try simp only [Act.put, List.getElem_toArray, List.getElem_cons_succ, List.getElem_cons_zero, List.setIfInBounds_toArray, List.set_cons_zero, List.set_cons_succ]
  refine wpAnyH_ready (rs := [5]) (by kernel_rfl) (by simp) ?_
  refine AllReadyH.cons rfl (fun K hK => ?_) AllReadyH.nil
  have KB := (S4.out.get (by simp : Res.cells (w.heap.size + 1) [.string { data := #[] }, .string { data := #[] }] ∈ _) : CellsM _ (w.heap.size + 1) [.string { data := #[] }, .string { data := #[] }])
  have oc0 := KB.c 0 _ rfl
  have of0 := KB.f 0 (by simp)
  have oc1 := KB.c 1 _ rfl
  have of1 := KB.f 1 (by simp)
  have S5 : Seal _ := ⟨(((S4.out.perm (perm_at0of2 _ _ _ )).set 0 (.string u) (by simp)).set 1 (.string v) (by simp)).perm (perm_at0of2 _ _ _ ).symm⟩
  clear KB S4
  go_simp
  refine hK.out _ _ ⟨(S5.out.get (List.mem_append_left _ (List.mem_cons_of_mem _ List.mem_cons_self)) : CellsM _ w2.heap.size (spoolL s bo d)).c 0 _ rfl, (S5.out.get (List.mem_append_left _ (List.mem_cons_of_mem _ List.mem_cons_self)) : CellsM _ w2.heap.size (spoolL s bo d)).c 1 _ rfl, (S5.out.get (List.mem_append_left _ List.mem_cons_self) : CellsM _ w3.heap.size [.string u, .string v]).c 0 _ rfl, (S5.out.get (List.mem_append_left _ List.mem_cons_self) : CellsM _ w3.heap.size [.string u, .string v]).c 1 _ rfl⟩ (fun hHeld => ?_)
  clear hK K
  try simp only [Act.put, List.getElem_toArray, List.getElem_cons_succ, List.getElem_cons_zero, List.setIfInBounds_toArray, List.set_cons_zero, List.set_cons_succ]
  clear oc0 of0 oc1 of1
  refine wpAnyH_done (by kernel_rfl) ?_ _
  have KB := (S5.out.get (by simp : Res.cells (w.heap.size) [.int .i64 s.last, .slice bo s.items.length d] ∈ _) : CellsM _ (w.heap.size) [.int .i64 s.last, .slice bo s.items.length d])
  have r00 := KB.c 0 _ rfl
  have r01 := KB.c 1 _ rfl
  clear KB
  have KB := (S5.out.get (by simp : Res.cells (w.heap.size + 1) [.string u, .string v] ∈ _) : CellsM _ (w.heap.size + 1) [.string u, .string v])
  have r10 := KB.c 0 _ rfl
  have r11 := KB.c 1 _ rfl
  clear KB
  generalize hwz : World.setCell _ _ _ = wz at r00 r01 r10 r11 S5 ⊢
  go_wp2
  refine bodyPost_ret (v := .tuple #[.agg (spoolV s bo d), .int .i64 i, .agg #[.string u, .string v]]) (by simp [results, Tryd.results7, go_sem, r00, r01, r10, r11]) rfl ⟨s, bo, d, ps, i, u, v, rfl, HS.out, HL.out, ZU.out.1, ZU.out.2, ?_⟩
  exact own_partsA S5.out
end Go.Proofs.YtcaknjdolfheaaaDoor
namespace Go.Proofs.YtcaknjdolfheaaaDoor
open Go Go.RowKit

set_option maxHeartbeats 12800000 in
set_option maxRecDepth 100000 in
theorem wFnSpoolDone.walk (ao : Option Addr) (len cap : Nat) (w : World) (hr : ByteRow w ao len) (hl : len ≤ cap) (hc : cap ≤ maxLen) (hm : HasMax w) :
    Calls Tryd.prog 3 #[.slice ao len cap] w fun e w' => e = .returned (.bool true) ∧ Below w.heap.size w w' := by
  have HM : Seal _ := ⟨hm⟩
  have C : Seal _ := ⟨drawDone_any ao len cap w hr hl hc⟩
  clear hm hr
  go_enter Tryd.func3, Tryd.ntmps3
  by_cases hlen : len > 1048576
  · go_wp2
    go_ret
    exact ⟨rfl, Below.refl _ _⟩
  go_wp2_with fail
  refine C.out.mono ?_
  rintro e w1 ⟨s, bo, d, ps, i, u, v, rfl, hs, hpl, zu, zv, hk⟩
  have HZ : Seal (spoolKZ s) := ⟨by have := hs.small; unfold spoolKZ; omega⟩
  have HU : Seal (u.size ≤ 1048576 ∧ v.size ≤ 1048576) := ⟨by omega⟩
  have S1 : Seal (Pt w ((w1.alloc (.cells #[.int .i64 s.last, .slice bo s.items.length d] 25)).alloc (.cells #[.string u, .string v] 27)) [[Res.cells (w1.heap.size + 1) [.string u, .string v]], [Res.cells w1.heap.size [.int .i64 s.last, .slice bo s.items.length d]], spoolKR s ⟨bo, d, ps⟩]) := ⟨by
    have h0 : Pt w w1 [spoolKR s ⟨bo, d, ps⟩] := by show St _ _ _; simpa using hk
    have h := (h0.alloc #[.int .i64 s.last, .slice bo s.items.length d] 25).alloc #[.string u, .string v] 27
    simp only [World.size_alloc] at h
    exact h⟩
  have HF : Seal (spoolKF s ⟨bo, d, ps⟩) := ⟨hpl⟩
  clear hs hk C hl hc hpl zu zv
  obtain ⟨D, hD⟩ : ∃ D, (doneR s i u v).1 = D := ⟨_, rfl⟩
  obtain ⟨q, hq⟩ : ∃ q, (doneR s i u v).2 = q := ⟨_, rfl⟩
  have HD : Seal _ := ⟨hD⟩
  have HQ : Seal _ := ⟨hq⟩
  have HZD : Seal (spoolKZ D) := ⟨hD ▸ doneR_sz s i u v HZ.out⟩
  clear hD hq
  have CS : Seal (∀ (W : World) (Ls : List (List Res)) (p : SpoolP) (j : Nat), Pt w W Ls → Ls[j]? = some (spoolKR s p) → spoolKF s p → Calls Tryd.prog 9 #[.agg (spoolKV s p), .int .i64 i, .agg #[.string u, .string v]] W fun e w' => ∃ r, e = .returned (.tuple #[.agg (spoolKV D r), .bool q]) ∧ spoolKF D r ∧ St W w' (spoolKR D r)) := ⟨fun W Ls p j h hj hf => by rw [← HD.out, ← HQ.out]; exact specSpoolDone_K s i u v HZ.out HU.out w W Ls p j h hj hf⟩
  have CI : Seal (∀ (W : World) (Ls : List (List Res)) (p : SpoolP) (j : Nat), HasMax W → Pt w W Ls → Ls[j]? = some (spoolKR s p) → spoolKF s p → Calls Tryd.prog 8 #[.agg (spoolKV s p), .int .i64 i, .agg #[.string u, .string v]] W fun e w' => ∃ r, e = .returned (.tuple #[.agg (spoolKV D r), .bool q]) ∧ spoolKF D r ∧ St W w' (spoolKR D r)) := ⟨fun W Ls p j hx h hj hf => by rw [← HD.out, ← HQ.out]; exact implSpoolDone_K s i u v HZ.out HU.out w W Ls hx p j h hj hf⟩
  have qq : (q != q) = false := by cases q <;> rfl
  have qe : (q == q) = true := by cases q <;> rfl
  have g0 := (S1.out.cellsM 1 rfl).c 0 _ rfl
  have g1 := (S1.out.cellsM 1 rfl).c 1 _ rfl
  have h0 := (S1.out.cellsM 0 rfl).c 0 _ rfl
  have h1 := (S1.out.cellsM 0 rfl).c 1 _ rfl
  go_wp2_with fail
  refine (CI.out _ _ ⟨bo, d, ps⟩ 2 (HM.out.below S1.out.below (Nat.le_refl _)) S1.out rfl HF.out).mono ?_
  rintro e w2 ⟨r, rfl, hrf, hk⟩
  have HR : Seal _ := ⟨hrf⟩
  have S2 : Seal (Pt w (w2.alloc (.cells #[.int .i64 D.last, .slice r.a D.items.length r.c] 25)) [[Res.cells w2.heap.size [.int .i64 D.last, .slice r.a D.items.length r.c]], spoolKR D r, [Res.cells (w1.heap.size + 1) [.string u, .string v]], [Res.cells w1.heap.size [.int .i64 s.last, .slice bo s.items.length d]], spoolKR s ⟨bo, d, ps⟩]) := ⟨(Pt.join S1.out hk).alloc #[.int .i64 D.last, .slice r.a D.items.length r.c] 25⟩
  clear hk hrf S1 g0 g1 h0 h1 CI
  have g0 := (S2.out.cellsM 3 rfl).c 0 _ rfl
  have g1 := (S2.out.cellsM 3 rfl).c 1 _ rfl
  have h0 := (S2.out.cellsM 2 rfl).c 0 _ rfl
  have h1 := (S2.out.cellsM 2 rfl).c 1 _ rfl
  go_wp2_with fail
  refine (CS.out _ _ ⟨bo, d, ps⟩ 4 S2.out rfl HF.out).mono ?_
  rintro e w3 ⟨t, rfl, htf, hk⟩
  have HT : Seal _ := ⟨htf⟩
  have S3 : Seal (Pt w (w3.alloc (.cells #[.int .i64 D.last, .slice t.a D.items.length t.c] 25)) [[Res.cells w3.heap.size [.int .i64 D.last, .slice t.a D.items.length t.c]], spoolKR D t, [Res.cells w2.heap.size [.int .i64 D.last, .slice r.a D.items.length r.c]], spoolKR D r, [Res.cells (w1.heap.size + 1) [.string u, .string v]], [Res.cells w1.heap.size [.int .i64 s.last, .slice bo s.items.length d]], spoolKR s ⟨bo, d, ps⟩]) := ⟨(Pt.join S2.out hk).alloc #[.int .i64 D.last, .slice t.a D.items.length t.c] 25⟩
  clear hk htf S2 g0 g1 h0 h1 CS
  have g0 := (S3.out.cellsM 0 rfl).c 0 _ rfl
  have g1 := (S3.out.cellsM 0 rfl).c 1 _ rfl
  have h0 := (S3.out.cellsM 2 rfl).c 0 _ rfl
  have h1 := (S3.out.cellsM 2 rfl).c 1 _ rfl
  go_wp2_with fail
  refine (saSpoolEq D r.a t.a r.c t.c _ (spoolK_read HR.out (S3.out.nth 3 rfl)) (spoolK_read HT.out (S3.out.nth 1 rfl)) HZD.out).mono ?_
  rintro e w4 ⟨rfl, hb⟩
  have S4 : Seal (Pt w w4 _) := ⟨S3.out.later hb⟩
  clear hb S3 g0 g1 h0 h1
  have g0 := (S4.out.cellsM 5 rfl).c 0 _ rfl
  have g1 := (S4.out.cellsM 5 rfl).c 1 _ rfl
  go_wp2_with fail
  refine (implSpoolOk_any s bo d _ (HM.out.below S4.out.below (Nat.le_refl _)) (spoolK_read HF.out (S4.out.nth 6 rfl)) HZ.out).mono ?_
  rintro e w5 ⟨rfl, hb⟩
  have S5 : Seal (Pt w w5 _) := ⟨S4.out.later hb⟩
  clear hb S4 g0 g1
  cases hok : spoolB s
  · have g0 := (S5.out.cellsM 0 rfl).c 0 _ rfl
    have g1 := (S5.out.cellsM 0 rfl).c 1 _ rfl
    have h0 := (S5.out.cellsM 2 rfl).c 0 _ rfl
    have h1 := (S5.out.cellsM 2 rfl).c 1 _ rfl
    go_wp2_with fail
    refine (saSpoolEq D r.a t.a r.c t.c _ (spoolK_read HR.out (S5.out.nth 3 rfl)) (spoolK_read HT.out (S5.out.nth 1 rfl)) HZD.out).mono ?_
    rintro e w6 ⟨rfl, hb⟩
    have S6 : Seal _ := ⟨S5.out.later hb⟩
    clear hb S5 g0 g1 h0 h1
    go_wp2
    go_ret
    exact ⟨rfl, S6.out.below⟩
  cases q
  · have e : D = s := by rw [← HD.out]; exact doneR_no hok HQ.out
    clear HD HQ
    subst e
    have g0 := (S5.out.cellsM 2 rfl).c 0 _ rfl
    have g1 := (S5.out.cellsM 2 rfl).c 1 _ rfl
    have h0 := (S5.out.cellsM 5 rfl).c 0 _ rfl
    have h1 := (S5.out.cellsM 5 rfl).c 1 _ rfl
    clear hok
    go_wp2_with fail
    refine (saSpoolEq D r.a bo r.c d _ (spoolK_read HR.out (S5.out.nth 3 rfl)) (spoolK_read HF.out (S5.out.nth 6 rfl)) HZD.out).mono ?_
    rintro e w6 ⟨rfl, hb⟩
    have S6 : Seal _ := ⟨S5.out.later hb⟩
    clear hb S5 g0 g1 h0 h1
    go_wp2
    go_ret
    exact ⟨rfl, S6.out.below⟩
  have hag := doneR_again hok HQ.out
  rw [HD.out] at hag
  obtain ⟨a1, a2, a3, a4⟩ := hag
  obtain ⟨b1, b2⟩ := many_small hok
  obtain ⟨M, hM⟩ : ∃ M, manyR s = M := ⟨_, rfl⟩
  rw [hM] at a2 b1 b2
  have hW : IntKind.i64.wrap (M - 1) = M - 1 := IntWalk.i64_in _ (by omega)
  have HA1 : Seal _ := ⟨a1⟩
  have HA2 : Seal _ := ⟨a2⟩
  have HOK : Seal _ := ⟨hok⟩
  have HMM : Seal _ := ⟨hM⟩
  have ql : (D.last == s.last) = true := by rw [beq_iff_eq]; exact a3
  obtain ⟨E, hE⟩ : ∃ E, (doneR D i u v).1 = E := ⟨_, rfl⟩
  have HE : Seal _ := ⟨hE⟩
  have CI2 : Seal (∀ (W : World) (Ls : List (List Res)) (p : SpoolP) (j : Nat), HasMax W → Pt w W Ls → Ls[j]? = some (spoolKR D p) → spoolKF D p → Calls Tryd.prog 8 #[.agg (spoolKV D p), .int .i64 i, .agg #[.string u, .string v]] W fun e w' => ∃ r, e = .returned (.tuple #[.agg (spoolKV E r), .bool false]) ∧ spoolKF E r ∧ St W w' (spoolKR E r)) := ⟨fun W Ls p j hx h hj hf => by rw [← HE.out, ← a4]; exact implSpoolDone_K D i u v HZD.out HU.out w W Ls hx p j h hj hf⟩
  clear a1 a2 a3 a4 b1 b2 hok hM hE
  have g0 := (S5.out.cellsM 2 rfl).c 0 _ rfl
  have g1 := (S5.out.cellsM 2 rfl).c 1 _ rfl
  have h0 := (S5.out.cellsM 4 rfl).c 0 _ rfl
  have h1 := (S5.out.cellsM 4 rfl).c 1 _ rfl
  go_wp2_with fail
  refine (CI2.out _ _ r 3 (HM.out.below S5.out.below (Nat.le_refl _)) S5.out rfl HR.out).mono ?_
  rintro e w6 ⟨y, rfl, _, hk⟩
  have S6 : Seal (Pt w (w6.alloc (.cells #[.int .i64 E.last, .slice y.a E.items.length y.c] 25)) [[Res.cells w6.heap.size [.int .i64 E.last, .slice y.a E.items.length y.c]], spoolKR E y, [Res.cells w3.heap.size [.int .i64 D.last, .slice t.a D.items.length t.c]], spoolKR D t, [Res.cells w2.heap.size [.int .i64 D.last, .slice r.a D.items.length r.c]], spoolKR D r, [Res.cells (w1.heap.size + 1) [.string u, .string v]], [Res.cells w1.heap.size [.int .i64 s.last, .slice bo s.items.length d]], spoolKR s ⟨bo, d, ps⟩]) := ⟨(Pt.join S5.out hk).alloc #[.int .i64 E.last, .slice y.a E.items.length y.c] 25⟩
  clear hk S5 g0 g1 h0 h1 CI2
  go_upto_region 11 with fail
  generalize w6.alloc (.cells #[.int .i64 E.last, .slice y.a E.items.length y.c] 25) = w7 at *
  have S7 : Seal (Pt w w7.drew [[Res.cells (w6.heap.size) [.int .i64 E.last, .slice y.a E.items.length y.c]], spoolKR E y, [Res.cells (w3.heap.size) [.int .i64 D.last, .slice t.a D.items.length t.c]], spoolKR D t, [Res.cells (w2.heap.size) [.int .i64 D.last, .slice r.a D.items.length r.c]], spoolKR D r, [Res.cells (w1.heap.size + 1) [.string u, .string v]], [Res.cells (w1.heap.size) [.int .i64 s.last, .slice bo s.items.length d]], spoolKR s ⟨bo, d, ps⟩]) := ⟨S6.out.drew⟩
  refine wp_region_held_drew (S := (fun w' => w'.cell? ⟨w2.heap.size, 0, none⟩ = some (.int .i64 D.last) ∧ w'.cell? ⟨w2.heap.size, 1, none⟩ = some (.slice r.a D.items.length r.c) ∧ w'.cell? ⟨w1.heap.size, 0, none⟩ = some (.int .i64 s.last) ∧ w'.cell? ⟨w1.heap.size, 1, none⟩ = some (.slice bo s.items.length d))) (by kernel_rfl) ⟨(S7.out.cellsM 4 rfl).c 0 _ rfl, (S7.out.cellsM 4 rfl).c 1 _ rfl, (S7.out.cellsM 7 rfl).c 0 _ rfl, (S7.out.cellsM 7 rfl).c 1 _ rfl⟩ (fun hHeld => ?_)
  (refine wpAnyH_take (i := 0) (v := ?_) rfl (by kernel_rfl) (by kernel_rfl) (by kernel_rfl) (fun _ _ _ h => h) (Or.inl ⟨by rfl, ?_⟩) (by assumption) ?_; rotate_left; (intro w hSw; (try dsimp only at hSw); go_split_ands; go_simp; first | done | with_reducible rfl); rotate_left; simp only [Act.put, List.getElem_toArray, List.getElem_cons_zero, List.setIfInBounds_toArray, List.set_cons_succ, List.set_cons_zero])
  refine wpAnyH_ready (rs := [1]) (by kernel_rfl) (by simp) ?_
  refine AllReadyH.cons rfl (fun K hK => ?_) AllReadyH.nil
  try dsimp only at hHeld
  go_split_ands
  go_simp
  refine (implSpoolOk_any D r.a r.c _ (HM.out.below S7.out.below (Nat.le_refl _)) (spoolK_read HR.out (S7.out.nth 5 rfl)) HZD.out).mono ?_
  rintro e x1 ⟨rfl, hb⟩
  rw [HA1.out]
  have S8 : Seal (Pt w x1 [[Res.cells (w6.heap.size) [.int .i64 E.last, .slice y.a E.items.length y.c]], spoolKR E y, [Res.cells (w3.heap.size) [.int .i64 D.last, .slice t.a D.items.length t.c]], spoolKR D t, [Res.cells (w2.heap.size) [.int .i64 D.last, .slice r.a D.items.length r.c]], spoolKR D r, [Res.cells (w1.heap.size + 1) [.string u, .string v]], [Res.cells (w1.heap.size) [.int .i64 s.last, .slice bo s.items.length d]], spoolKR s ⟨bo, d, ps⟩]) := ⟨S7.out.later hb⟩
  clear hb
  refine hK.out _ _ ⟨(S8.out.cellsM 4 rfl).c 0 _ rfl, (S8.out.cellsM 4 rfl).c 1 _ rfl, (S8.out.cellsM 7 rfl).c 0 _ rfl, (S8.out.cellsM 7 rfl).c 1 _ rfl⟩ (fun hHeld => ?_)
  clear hK K
  try simp only [Act.put, List.getElem_toArray, List.getElem_cons_succ, List.getElem_cons_zero, List.setIfInBounds_toArray, List.set_cons_zero, List.set_cons_succ]
  (refine wpAnyH_take (i := 2) (v := ?_) rfl (by kernel_rfl) (by kernel_rfl) (by kernel_rfl) (fun _ _ _ h => h) (Or.inl ⟨by rfl, ?_⟩) (by assumption) ?_; rotate_left; (intro w hSw; (try dsimp only at hSw); go_split_ands; go_simp; first | done | with_reducible rfl); rotate_left; simp only [Act.put, List.getElem_toArray, List.getElem_cons_succ, List.getElem_cons_zero, List.setIfInBounds_toArray, List.set_cons_succ, List.set_cons_zero])
  (refine wpAnyH_take (i := 3) (v := ?_) rfl (by kernel_rfl) (by kernel_rfl) (by kernel_rfl) (fun _ _ _ h => h) (Or.inl ⟨by rfl, ?_⟩) (by assumption) ?_; rotate_left; (intro w hSw; (try dsimp only at hSw); go_split_ands; go_simp; first | done | with_reducible rfl); rotate_left; simp only [Act.put, List.getElem_toArray, List.getElem_cons_succ, List.getElem_cons_zero, List.setIfInBounds_toArray, List.set_cons_succ, List.set_cons_zero])
  (refine wpAnyH_take (i := 5) (v := ?_) rfl (by kernel_rfl) (by kernel_rfl) (by kernel_rfl) (fun _ _ _ h => h) (Or.inl ⟨by rfl, ?_⟩) (by assumption) ?_; rotate_left; (intro w hSw; (try dsimp only at hSw); go_split_ands; go_simp; first | done | with_reducible rfl); rotate_left; simp only [Act.put, List.getElem_toArray, List.getElem_cons_succ, List.getElem_cons_zero, List.setIfInBounds_toArray, List.set_cons_succ, List.set_cons_zero])
  refine wpAnyH_ready (rs := [4]) (by kernel_rfl) (by simp) ?_
  refine AllReadyH.cons rfl (fun K hK => ?_) AllReadyH.nil
  try dsimp only at hHeld
  go_split_ands
  go_simp
  refine (implSpoolMany_any D r.a r.c _ (HM.out.below S8.out.below (Nat.le_refl _)) (spoolK_read HR.out (S8.out.nth 5 rfl)) HZD.out).mono ?_
  rintro e x2 ⟨rfl, hb⟩
  rw [HA2.out]
  have S9 : Seal (Pt w x2 [[Res.cells (w6.heap.size) [.int .i64 E.last, .slice y.a E.items.length y.c]], spoolKR E y, [Res.cells (w3.heap.size) [.int .i64 D.last, .slice t.a D.items.length t.c]], spoolKR D t, [Res.cells (w2.heap.size) [.int .i64 D.last, .slice r.a D.items.length r.c]], spoolKR D r, [Res.cells (w1.heap.size + 1) [.string u, .string v]], [Res.cells (w1.heap.size) [.int .i64 s.last, .slice bo s.items.length d]], spoolKR s ⟨bo, d, ps⟩]) := ⟨S8.out.later hb⟩
  clear hb
  refine hK.out _ _ ⟨(S9.out.cellsM 4 rfl).c 0 _ rfl, (S9.out.cellsM 4 rfl).c 1 _ rfl, (S9.out.cellsM 7 rfl).c 0 _ rfl, (S9.out.cellsM 7 rfl).c 1 _ rfl⟩ (fun hHeld => ?_)
  clear hK K
  try simp only [Act.put, List.getElem_toArray, List.getElem_cons_succ, List.getElem_cons_zero, List.setIfInBounds_toArray, List.set_cons_zero, List.set_cons_succ]
  refine wpAnyH_ready (rs := [6]) (by kernel_rfl) (by simp) ?_
  refine AllReadyH.cons rfl (fun K hK => ?_) AllReadyH.nil
  try dsimp only at hHeld
  go_split_ands
  go_simp
  refine (implSpoolMany_any s bo d _ (HM.out.below S9.out.below (Nat.le_refl _)) (spoolK_read HF.out (S9.out.nth 8 rfl)) HZ.out).mono ?_
  rintro e x3 ⟨rfl, hb⟩
  rw [HMM.out]
  have S10 : Seal (Pt w x3 [[Res.cells (w6.heap.size) [.int .i64 E.last, .slice y.a E.items.length y.c]], spoolKR E y, [Res.cells (w3.heap.size) [.int .i64 D.last, .slice t.a D.items.length t.c]], spoolKR D t, [Res.cells (w2.heap.size) [.int .i64 D.last, .slice r.a D.items.length r.c]], spoolKR D r, [Res.cells (w1.heap.size + 1) [.string u, .string v]], [Res.cells (w1.heap.size) [.int .i64 s.last, .slice bo s.items.length d]], spoolKR s ⟨bo, d, ps⟩]) := ⟨S9.out.later hb⟩
  clear hb
  refine hK.out _ _ ⟨(S10.out.cellsM 4 rfl).c 0 _ rfl, (S10.out.cellsM 4 rfl).c 1 _ rfl, (S10.out.cellsM 7 rfl).c 0 _ rfl, (S10.out.cellsM 7 rfl).c 1 _ rfl⟩ (fun hHeld => ?_)
  clear hK K
  try simp only [Act.put, List.getElem_toArray, List.getElem_cons_succ, List.getElem_cons_zero, List.setIfInBounds_toArray, List.set_cons_zero, List.set_cons_succ]
  (refine wpAnyH_take (i := 7) (v := ?_) rfl (by kernel_rfl) (by kernel_rfl) (by kernel_rfl) (fun _ _ _ h => h) (Or.inl ⟨by rfl, ?_⟩) (by assumption) ?_; rotate_left; (intro w hSw; (try dsimp only at hSw); go_split_ands; go_simp; first | done | with_reducible rfl); rotate_left; simp only [Act.put, List.getElem_toArray, List.getElem_cons_succ, List.getElem_cons_zero, List.setIfInBounds_toArray, List.set_cons_succ, List.set_cons_zero])
  (refine wpAnyH_take (i := 8) (v := ?_) rfl (by kernel_rfl) (by kernel_rfl) (by kernel_rfl) (fun _ _ _ h => h) (Or.inl ⟨by rfl, ?_⟩) (by assumption) ?_; rotate_left; (intro w hSw; (try dsimp only at hSw); go_split_ands; go_simp; first | done | with_reducible rfl); rotate_left; simp only [Act.put, List.getElem_toArray, List.getElem_cons_succ, List.getElem_cons_zero, List.setIfInBounds_toArray, List.set_cons_succ, List.set_cons_zero])
  (refine wpAnyH_take (i := 9) (v := ?_) rfl (by kernel_rfl) (by kernel_rfl) (by kernel_rfl) (fun _ _ _ h => h) (Or.inl ⟨by rfl, ?_⟩) (by assumption) ?_; rotate_left; (intro w hSw; (try dsimp only at hSw); go_split_ands; go_simp; first | done | with_reducible rfl); rotate_left; simp only [Act.put, List.getElem_toArray, List.getElem_cons_succ, List.getElem_cons_zero, List.setIfInBounds_toArray, List.set_cons_succ, List.set_cons_zero])
  (refine wpAnyH_take (i := 10) (v := ?_) rfl (by kernel_rfl) (by kernel_rfl) (by kernel_rfl) (fun _ _ _ h => h) (Or.inl ⟨by rfl, ?_⟩) (by assumption) ?_; rotate_left; (intro w hSw; (try dsimp only at hSw); go_split_ands; go_simp; first | done | with_reducible rfl); rotate_left; simp only [Act.put, List.getElem_toArray, List.getElem_cons_succ, List.getElem_cons_zero, List.setIfInBounds_toArray, List.set_cons_succ, List.set_cons_zero])
  (refine wpAnyH_take (i := 11) (v := ?_) rfl (by kernel_rfl) (by kernel_rfl) (by kernel_rfl) (fun _ _ _ h => h) (Or.inl ⟨by rfl, ?_⟩) (by assumption) ?_; rotate_left; (intro w hSw; (try dsimp only at hSw); go_split_ands; go_simp; first | done | with_reducible rfl); rotate_left; simp only [Act.put, List.getElem_toArray, List.getElem_cons_succ, List.getElem_cons_zero, List.setIfInBounds_toArray, List.set_cons_succ, List.set_cons_zero])
  (refine wpAnyH_take (i := 12) (v := ?_) rfl (by kernel_rfl) (by kernel_rfl) (by kernel_rfl) (fun _ _ _ h => h) (Or.inl ⟨by rfl, ?_⟩) (by assumption) ?_; rotate_left; (intro w hSw; (try dsimp only at hSw); go_split_ands; go_simp; first | done | with_reducible rfl); rotate_left; simp only [Act.put, List.getElem_toArray, List.getElem_cons_succ, List.getElem_cons_zero, List.setIfInBounds_toArray, List.set_cons_succ, List.set_cons_zero])
  (refine wpAnyH_take (i := 13) (v := ?_) rfl (by kernel_rfl) (by kernel_rfl) (by kernel_rfl) (fun _ _ _ h => h) (Or.inl ⟨by rfl, ?_⟩) (by assumption) ?_; rotate_left; (intro w hSw; (try dsimp only at hSw); go_split_ands; go_simp; first | done | with_reducible rfl); rotate_left; simp only [Act.put, List.getElem_toArray, List.getElem_cons_succ, List.getElem_cons_zero, List.setIfInBounds_toArray, List.set_cons_succ, List.set_cons_zero])
  (refine wpAnyH_take (i := 14) (v := ?_) rfl (by kernel_rfl) (by kernel_rfl) (by kernel_rfl) (fun _ _ _ h => h) (Or.inl ⟨by rfl, ?_⟩) (by assumption) ?_; rotate_left; (intro w hSw; (try dsimp only at hSw); go_split_ands; go_simp; first | done | with_reducible rfl); rotate_left; simp only [Act.put, List.getElem_toArray, List.getElem_cons_succ, List.getElem_cons_zero, List.setIfInBounds_toArray, List.set_cons_succ, List.set_cons_zero])
  (refine wpAnyH_take (i := 15) (v := ?_) rfl (by kernel_rfl) (by kernel_rfl) (by kernel_rfl) (fun _ _ _ h => h) (Or.inl ⟨by rfl, ?_⟩) (by assumption) ?_; rotate_left; (intro w hSw; (try dsimp only at hSw); go_split_ands; go_simp; first | done | with_reducible rfl); rotate_left; simp only [Act.put, List.getElem_toArray, List.getElem_cons_succ, List.getElem_cons_zero, List.setIfInBounds_toArray, List.set_cons_succ, List.set_cons_zero])
  (refine wpAnyH_take (i := 16) (v := ?_) rfl (by kernel_rfl) (by kernel_rfl) (by kernel_rfl) (fun _ _ _ h => h) (Or.inl ⟨by rfl, ?_⟩) (by assumption) ?_; rotate_left; (intro w hSw; (try dsimp only at hSw); go_split_ands; go_simp; first | done | with_reducible rfl); rotate_left; simp only [Act.put, List.getElem_toArray, List.getElem_cons_succ, List.getElem_cons_zero, List.setIfInBounds_toArray, List.set_cons_succ, List.set_cons_zero])
  (refine wpAnyH_take (i := 17) (v := ?_) rfl (by kernel_rfl) (by kernel_rfl) (by kernel_rfl) (fun _ _ _ h => h) (Or.inl ⟨by rfl, ?_⟩) (by assumption) ?_; rotate_left; (intro w hSw; (try dsimp only at hSw); go_split_ands; go_simp; first | done | with_reducible rfl); rotate_left; simp only [Act.put, List.getElem_toArray, List.getElem_cons_succ, List.getElem_cons_zero, List.setIfInBounds_toArray, List.set_cons_succ, List.set_cons_zero])
  (refine wpAnyH_take (i := 18) (v := ?_) rfl (by kernel_rfl) (by kernel_rfl) (by kernel_rfl) (fun _ _ _ h => h) (Or.inl ⟨by rfl, ?_⟩) (by assumption) ?_; rotate_left; (intro w hSw; (try dsimp only at hSw); go_split_ands; go_simp; first | done | with_reducible rfl); rotate_left; simp only [Act.put, List.getElem_toArray, List.getElem_cons_succ, List.getElem_cons_zero, List.setIfInBounds_toArray, List.set_cons_succ, List.set_cons_zero])
  (refine wpAnyH_take (i := 19) (v := ?_) rfl (by kernel_rfl) (by kernel_rfl) (by kernel_rfl) (fun _ _ _ h => h) (Or.inl ⟨by rfl, ?_⟩) (by assumption) ?_; rotate_left; (intro w hSw; (try dsimp only at hSw); go_split_ands; go_simp; first | done | with_reducible rfl); rotate_left; simp only [Act.put, List.getElem_toArray, List.getElem_cons_succ, List.getElem_cons_zero, List.setIfInBounds_toArray, List.set_cons_succ, List.set_cons_zero])
  (refine wpAnyH_take (i := 20) (v := ?_) rfl (by kernel_rfl) (by kernel_rfl) (by kernel_rfl) (fun _ _ _ h => h) (Or.inl ⟨by rfl, ?_⟩) (by assumption) ?_; rotate_left; (intro w hSw; (try dsimp only at hSw); go_split_ands; go_simp; first | done | with_reducible rfl); rotate_left; simp only [Act.put, List.getElem_toArray, List.getElem_cons_succ, List.getElem_cons_zero, List.setIfInBounds_toArray, List.set_cons_succ, List.set_cons_zero])
  refine wpAnyH_ready (rs := [21]) (by kernel_rfl) (by simp) ?_
  refine AllReadyH.cons rfl (fun K hK => ?_) AllReadyH.nil
  go_simp
  refine hK.out _ _ (by assumption) (fun hHeld => ?_)
  clear hK K
  try simp only [Act.put, List.getElem_toArray, List.getElem_cons_succ, List.getElem_cons_zero, List.setIfInBounds_toArray, List.set_cons_zero, List.set_cons_succ]
  refine wpAnyH_done (by kernel_rfl) ?_ _
  go_wp2
  go_ret
  exact ⟨rfl, S10.out.below⟩
end Go.Proofs.YtcaknjdolfheaaaDoor
