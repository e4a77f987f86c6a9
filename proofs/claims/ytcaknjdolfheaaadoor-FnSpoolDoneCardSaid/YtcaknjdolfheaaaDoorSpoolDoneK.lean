/- Contracts: SpoolDone of the model, in the one form of the exact walks. -/
import Derived.Test.YtcaknjdolfheaaaDoorSpoolDoneS
import Derived.Deep.RegionHeld3
namespace Go.Proofs.YtcaknjdolfheaaaDoor
open Go Go.RowKit

/-! ### plain facts -/
def doneAt (s : SpoolD) (i : Int) (u d : ByteArray) : Option (Nat × ItemD × Nat) :=
  if findR (idB i) s.items < 0 then none else match s.items[(findR (idB i) s.items).toNat]? with
  | none => none
  | some x => if findR (toB1 u d) x.rc < 0 then none else some ((findR (idB i) s.items).toNat, x, (findR (toB1 u d) x.rc).toNat)
def doneR (s : SpoolD) (i : Int) (u d : ByteArray) : SpoolD × Bool :=
  if spoolB s then (match doneAt s i u d with | none => (s, false) | some (a, x, k) => (doneS s a (doneI x k), true)) else (noSpoolD, false)
theorem doneR_bad {s : SpoolD} {i : Int} {u d : ByteArray} (h : spoolB s = false) : doneR s i u d = (noSpoolD, false) := by unfold doneR; rw [h]; rfl
theorem doneR_none {s : SpoolD} {i : Int} {u d : ByteArray} (h : spoolB s = true) (h1 : doneAt s i u d = none) : doneR s i u d = (s, false) := by unfold doneR; rw [h, h1]; rfl
theorem doneR_some {s : SpoolD} {i : Int} {u d : ByteArray} {a k : Nat} {x : ItemD} (h : spoolB s = true) (h1 : doneAt s i u d = some (a, x, k)) : doneR s i u d = (doneS s a (doneI x k), true) := by unfold doneR; rw [h, h1]; rfl
theorem doneAt_noid {s : SpoolD} {i : Int} {u d : ByteArray} (h : findR (idB i) s.items = -1) : doneAt s i u d = none := by unfold doneAt; rw [h]; rfl
theorem doneAt_norc {s : SpoolD} {i : Int} {u d : ByteArray} {a : Nat} {x : ItemD} (h : findR (idB i) s.items = a) (hx : s.items[a]? = some x) (h2 : findR (toB1 u d) x.rc = -1) : doneAt s i u d = none := by
  unfold doneAt
  rw [h, if_neg (by omega), Int.toNat_natCast, hx]
  dsimp only
  rw [h2]
  rfl
theorem doneAt_at {s : SpoolD} {i : Int} {u d : ByteArray} {a k : Nat} {x : ItemD} (h : findR (idB i) s.items = a) (hx : s.items[a]? = some x) (h2 : findR (toB1 u d) x.rc = k) : doneAt s i u d = some (a, x, k) := by
  unfold doneAt
  rw [h, if_neg (by omega), Int.toNat_natCast, hx]
  dsimp only
  rw [h2, if_neg (by omega), Int.toNat_natCast]

set_option maxHeartbeats 12800000 in
set_option maxRecDepth 100000 in
theorem specSpoolDone_K (s : SpoolD) (i : Int) (u d : ByteArray) (hz : spoolKZ s) (_ : u.size ≤ 1048576 ∧ d.size ≤ 1048576) (w0 w : World) (Ls : List (List Res)) (ps : SpoolP) (j : Nat) (h : Pt w0 w Ls) (hj : Ls[j]? = some (spoolKR s ps)) (hfs : spoolKF s ps) :
    Calls Tryd.prog 9 #[.agg (spoolKV s ps), .int .i64 i, .agg #[.string u, .string d]] w fun e w' => ∃ r, e = .returned (.tuple #[.agg (spoolKV (doneR s i u d).1 r), .bool (doneR s i u d).2]) ∧ spoolKF (doneR s i u d).1 r ∧ St w w' (spoolKR (doneR s i u d).1 r) := by
  have HS : Seal _ := ⟨h.bring j hj⟩
  have HA : Seal (ItemRow w ps.a s.items) := ⟨spoolK_read hfs (h.nth j hj)⟩
  have HF : Seal _ := ⟨hfs⟩
  have HZ : Seal _ := ⟨hz⟩
  clear h hj hfs hz
  have S0 : Seal (Pt w (((w.alloc (.cells (spoolKV s ps) 25)).alloc (.cells #[.string u, .string d] 27)).alloc (.cells #[.int .i64 0, .slice none 0 0] 25)) [[Res.cells (w.heap.size + 1 + 1) [.int .i64 0, .slice none 0 0]], [Res.cells (w.heap.size + 1) [.string u, .string d]], [Res.cells w.heap.size (spoolKL s ps)]]) := ⟨by
    have h := (((Pt.start w).alloc (spoolKV s ps) 25).alloc #[.string u, .string d] 27).alloc #[.int .i64 0, .slice none 0 0] 25
    simp only [World.size_alloc] at h
    exact h⟩
  go_enter Tryd.func9, Tryd.ntmps9
  go_wp2_with fail
  refine (l5Ok_any s ps.a ps.c _ (HA.out.below itemP_stays S0.out.below (Nat.le_refl _)) HZ.out).mono ?_
  rintro e w1 ⟨rfl, hb⟩
  have S1 : Seal _ := ⟨S0.out.later hb⟩
  clear hb S0
  cases hok : spoolB s
  · have HE : Seal _ := ⟨doneR_bad (i := i) (u := u) (d := d) hok⟩
    have r0 := (S1.out.cellsM 0 rfl).c 0 _ rfl
    have r1 := (S1.out.cellsM 0 rfl).c 1 _ rfl
    have f0 := (S1.out.cellsM 0 rfl).f 0 (by simp)
    have f1 := (S1.out.cellsM 0 rfl).f 1 (by simp)
    clear hok
    go_wp2
    refine bodyPost_ret (v := .tuple #[.agg #[.int .i64 0, .slice none 0 0], .bool false]) (by simp [results, Tryd.results9, go_sem, r0, r1]) rfl ⟨⟨none, 0, []⟩, ret_sb HE.out rfl, by rw [HE.out]; rfl, ?_⟩
    rw [HE.out]
    have s4 := ((S1.out.set 0 (.int .i64 0) (by simp)).set 1 (.slice none 0 0) (by simp)).nothing 42 5
    exact Pt.prefix (As := [[Res.row 42 5 (.slice none 0 0) 0 []]]) s4
  have HO : Seal _ := ⟨hok⟩
  obtain ⟨sm1, sm2, sm3, sm4⟩ := spool_small hok
  clear hok
  have g0 := (S1.out.cellsM 2 rfl).c 0 _ rfl
  have g1 := (S1.out.cellsM 2 rfl).c 1 _ rfl
  go_wp2_with fail
  refine (l5Copy_any _ s ps.a ps.c ps.ps HF.out w0 _ (StX.later HS.out S1.out.below) HZ.out).mono ?_
  rintro e w2 ⟨bo, c, qs, rfl, hqs, hk⟩
  have HQ : Seal _ := ⟨hqs⟩
  have S2 : Seal (Pt w (w2.alloc (.cells #[.int .i64 s.last, .slice bo s.items.length c] 25)) [[Res.cells w2.heap.size [.int .i64 s.last, .slice bo s.items.length c]], itemsR bo c s.items qs, [Res.cells (w.heap.size + 1 + 1) [.int .i64 0, .slice none 0 0]], [Res.cells (w.heap.size + 1) [.string u, .string d]], [Res.cells w.heap.size (spoolKL s ps)]]) := ⟨(Pt.join S1.out hk).alloc #[.int .i64 s.last, .slice bo s.items.length c] 25⟩
  clear hk hqs S1 g0 g1
  have g0 := (S2.out.cellsM 4 rfl).c 0 _ rfl
  have g1 := (S2.out.cellsM 4 rfl).c 1 _ rfl
  have gl := (S2.out.cellsM 4 rfl).lt
  go_wp2_with fail
  refine (l5At_any s ps.a ps.c i _ (HA.out.below itemP_stays S2.out.below (Nat.le_refl _)) (by omega)).mono ?_
  rintro e w3 ⟨rfl, hb⟩
  have S3 : Seal (Pt w w3 _) := ⟨S2.out.later hb⟩
  clear hb S2 g0 g1 gl
  rcases findR_cases (idB i) s.items with hno | ⟨a, x, hat, hx, _⟩
  · have HN : Seal (doneAt s i u d = none) := ⟨doneAt_noid hno⟩
    rw [hno]
    clear hno
    go_upto_region 5 with fail
    have S4 : Seal (Pt w w3.drew [[Res.cells (w2.heap.size) [.int .i64 s.last, .slice bo s.items.length c]], itemsR bo c s.items qs, [Res.cells (w.heap.size + 1 + 1) [.int .i64 0, .slice none 0 0]], [Res.cells (w.heap.size + 1) [.string u, .string d]], [Res.cells (w.heap.size) [.int .i64 s.last, .slice ps.a s.items.length ps.c]]]) := ⟨S3.out.drew⟩
    refine wp_region_held_drew (S := (fun w' => True)) (by kernel_rfl) trivial (fun hHeld => ?_)
    (refine wpAnyH_take (i := 0) (v := ?_) rfl (by kernel_rfl) (by kernel_rfl) (by kernel_rfl) (fun _ _ _ h => h) (Or.inl ⟨by rfl, ?_⟩) (by assumption) ?_; rotate_left; (intro w hSw; (try dsimp only at hSw); go_split_ands; go_simp; first | done | with_reducible rfl); rotate_left; simp only [Act.put, List.getElem_toArray, List.getElem_cons_zero, List.setIfInBounds_toArray, List.set_cons_succ, List.set_cons_zero])
    (refine wpAnyH_take (i := 1) (v := ?_) rfl (by kernel_rfl) (by kernel_rfl) (by kernel_rfl) (fun _ _ _ h => h) (Or.inl ⟨by rfl, ?_⟩) (by assumption) ?_; rotate_left; (intro w hSw; (try dsimp only at hSw); go_split_ands; go_simp; first | done | with_reducible rfl); rotate_left; simp only [Act.put, List.getElem_toArray, List.getElem_cons_succ, List.getElem_cons_zero, List.setIfInBounds_toArray, List.set_cons_succ, List.set_cons_zero])
    (refine wpAnyH_take (i := 2) (v := ?_) rfl (by kernel_rfl) (by kernel_rfl) (by kernel_rfl) (fun _ _ _ h => h) (Or.inl ⟨by rfl, ?_⟩) (by assumption) ?_; rotate_left; (intro w hSw; (try dsimp only at hSw); go_split_ands; go_simp; first | done | with_reducible rfl); rotate_left; simp only [Act.put, List.getElem_toArray, List.getElem_cons_succ, List.getElem_cons_zero, List.setIfInBounds_toArray, List.set_cons_succ, List.set_cons_zero])
    (refine wpAnyH_take (i := 3) (v := undef) rfl (by kernel_rfl) (by kernel_rfl) (by kernel_rfl) (fun _ _ _ h => h) (Or.inr ⟨by rfl, rfl⟩) (by assumption) ?_; simp only [Act.put, List.getElem_toArray, List.getElem_cons_succ, List.getElem_cons_zero, List.setIfInBounds_toArray, List.set_cons_succ, List.set_cons_zero])
    (refine wpAnyH_take (i := 4) (v := undef) rfl (by kernel_rfl) (by kernel_rfl) (by kernel_rfl) (fun _ _ _ h => h) (Or.inr ⟨by rfl, rfl⟩) (by assumption) ?_; simp only [Act.put, List.getElem_toArray, List.getElem_cons_succ, List.getElem_cons_zero, List.setIfInBounds_toArray, List.set_cons_succ, List.set_cons_zero])
    (refine wpAnyH_take (i := 5) (v := undef) rfl (by kernel_rfl) (by kernel_rfl) (by kernel_rfl) (fun _ _ _ h => h) (Or.inr ⟨by rfl, rfl⟩) (by assumption) ?_; simp only [Act.put, List.getElem_toArray, List.getElem_cons_succ, List.getElem_cons_zero, List.setIfInBounds_toArray, List.set_cons_succ, List.set_cons_zero])
    (refine wpAnyH_take (i := 6) (v := undef) rfl (by kernel_rfl) (by kernel_rfl) (by kernel_rfl) (fun _ _ _ h => h) (Or.inr ⟨by rfl, rfl⟩) (by assumption) ?_; simp only [Act.put, List.getElem_toArray, List.getElem_cons_succ, List.getElem_cons_zero, List.setIfInBounds_toArray, List.set_cons_succ, List.set_cons_zero])
    (refine wpAnyH_take (i := 7) (v := undef) rfl (by kernel_rfl) (by kernel_rfl) (by kernel_rfl) (fun _ _ _ h => h) (Or.inr ⟨by rfl, rfl⟩) (by assumption) ?_; simp only [Act.put, List.getElem_toArray, List.getElem_cons_succ, List.getElem_cons_zero, List.setIfInBounds_toArray, List.set_cons_succ, List.set_cons_zero])
    (refine wpAnyH_take (i := 8) (v := undef) rfl (by kernel_rfl) (by kernel_rfl) (by kernel_rfl) (fun _ _ _ h => h) (Or.inr ⟨by rfl, rfl⟩) (by assumption) ?_; simp only [Act.put, List.getElem_toArray, List.getElem_cons_succ, List.getElem_cons_zero, List.setIfInBounds_toArray, List.set_cons_succ, List.set_cons_zero])
    refine wpAnyH_ready (rs := [9]) (by kernel_rfl) (by simp) ?_
    refine AllReadyH.cons rfl (fun K hK => ?_) AllReadyH.nil
    go_simp
    refine hK.out _ _ (by assumption) (fun hHeld => ?_)
    clear hK K
    try simp only [Act.put, List.getElem_toArray, List.getElem_cons_succ, List.getElem_cons_zero, List.setIfInBounds_toArray, List.set_cons_zero, List.set_cons_succ]
    (refine wpAnyH_take (i := 10) (v := undef) rfl (by kernel_rfl) (by kernel_rfl) (by kernel_rfl) (fun _ _ _ h => h) (Or.inr ⟨by rfl, rfl⟩) (by assumption) ?_; simp only [Act.put, List.getElem_toArray, List.getElem_cons_succ, List.getElem_cons_zero, List.setIfInBounds_toArray, List.set_cons_succ, List.set_cons_zero])
    (refine wpAnyH_take (i := 11) (v := ?_) rfl (by kernel_rfl) (by kernel_rfl) (by kernel_rfl) (fun _ _ _ h => h) (Or.inl ⟨by rfl, ?_⟩) (by assumption) ?_; rotate_left; (intro w hSw; (try dsimp only at hSw); go_split_ands; go_simp; first | done | with_reducible rfl); rotate_left; simp only [Act.put, List.getElem_toArray, List.getElem_cons_succ, List.getElem_cons_zero, List.setIfInBounds_toArray, List.set_cons_succ, List.set_cons_zero])
    refine wpAnyH_done (by kernel_rfl) ?_ _
    generalize w3.drew = wd at *
    have HE : Seal _ := ⟨doneR_none HO.out HN.out⟩
    have g0 := (S4.out.cellsM 0 rfl).c 0 _ rfl
    have g1 := (S4.out.cellsM 0 rfl).c 1 _ rfl
    have gl := (S4.out.cellsM 0 rfl).lt
    have r0 := (S4.out.cellsM 2 rfl).c 0 _ rfl
    have r1 := (S4.out.cellsM 2 rfl).c 1 _ rfl
    have f0 := (S4.out.cellsM 2 rfl).f 0 (by simp)
    have f1 := (S4.out.cellsM 2 rfl).f 1 (by simp)
    go_wp2
    refine bodyPost_ret (v := .tuple #[.agg #[.int .i64 s.last, .slice bo s.items.length c], .bool false]) (by simp [results, Tryd.results9, go_sem, r0, r1]) rfl ⟨⟨bo, c, qs⟩, ret_sb HE.out rfl, by rw [HE.out]; exact HQ.out, ?_⟩
    rw [HE.out]
    have s4 := ((S4.out.bring 2 rfl).set 0 (.int .i64 s.last) (by simp)).set 1 (.slice bo s.items.length c) (by simp)
    have s5 := s4.bring 2 rfl
    exact Pt.only (Pt.prefix (As := [itemsR bo c s.items qs]) (Bs := [[Res.cells (w.heap.size + 1 + 1) [.int .i64 s.last, .slice bo s.items.length c]], [Res.cells w2.heap.size [.int .i64 s.last, .slice bo s.items.length c]], [Res.cells (w.heap.size + 1) [.string u, .string d]], [Res.cells w.heap.size (spoolKL s ps)]]) s5)
  rw [hat]
  obtain ⟨p, hp⟩ : ∃ p, ps.ps[a]? = some p := ⟨_, List.getElem?_eq_getElem (by have := HF.out; have := (List.getElem?_eq_some_iff.1 hx).1; unfold spoolKF at *; omega)⟩
  have hxl := (List.getElem?_eq_some_iff.1 hx).1
  have ha0 : (0 : Int) ≤ (a : Int) := by omega
  have ha1 : (a : Int) < (s.items.length : Int) := by omega
  have ha2 : decide ((a : Int) < 0) = false := by rw [decide_eq_false_iff_not]; omega
  have HAT : Seal _ := ⟨hat⟩
  have HX : Seal _ := ⟨hx⟩
  obtain ⟨pa, pc, pps⟩ := ps
  obtain ⟨g, hga, ic0, ic1, ic2, ic3, ic4⟩ := itemCells HS.out hx hp
  dsimp only at hga
  subst hga
  have IA : Seal (RcptRow w p.a1 x.rc) := ⟨((item_read fun r hr => HS.out.get (List.mem_append_left _ (List.mem_cons_of_mem _ (itemE.mem_ress hx hp hr)))) : ItemAt w x p).rc⟩
  clear hat hx hp
  have S3' : Seal (Pt w w3 [[Res.cells (w2.heap.size) [.int .i64 s.last, .slice bo s.items.length c]], itemsR bo c s.items qs, [Res.cells (w.heap.size + 1 + 1) [.int .i64 0, .slice none 0 0]], [Res.cells (w.heap.size + 1) [.string u, .string d]], [Res.cells (w.heap.size) [.int .i64 s.last, .slice (some ⟨g, 0, none⟩) s.items.length pc]]]) := S3
  clear S3
  have S3 := S3'
  clear S3'
  have hzx : itemN x ≤ 1000 := by
    have h := HO.out
    unfold spoolB at h
    rw [Bool.and_eq_true, Bool.and_eq_true, Bool.and_eq_true, List.all_eq_true] at h
    have h1 := h.2.2.1 x (List.mem_of_getElem? HX.out)
    unfold itemB at h1
    rw [Bool.and_eq_true] at h1
    exact item_small h1.1
  have hrl : x.rc.length ≤ 1048576 := by have := (itemN_parts hzx).2.2.1; omega
  rcases findR_cases (toB1 u d) x.rc with hrn | ⟨k, r, hrk, hr, _⟩
  · have HN : Seal (doneAt s i u d = none) := ⟨doneAt_norc HAT.out HX.out hrn⟩
    go_upto_region 5 with fail
    have S4 : Seal (Pt w w3.drew [[Res.cells (w2.heap.size) [.int .i64 s.last, .slice bo s.items.length c]], itemsR bo c s.items qs, [Res.cells (w.heap.size + 1 + 1) [.int .i64 0, .slice none 0 0]], [Res.cells (w.heap.size + 1) [.string u, .string d]], [Res.cells (w.heap.size) [.int .i64 s.last, .slice (some ⟨g, 0, none⟩) s.items.length pc]]]) := ⟨S3.out.drew⟩
    refine wp_region_held_drew (S := (fun w' => w'.cell? ⟨w.heap.size, 1, none⟩ = some (.slice (some ⟨g, 0, none⟩) s.items.length pc) ∧ w'.cell? ⟨g, a * 5, none⟩ = some (.int .i64 x.id) ∧ w'.cell? ⟨g, a * 5 + 1, none⟩ = some (.string x.fu) ∧ w'.cell? ⟨g, a * 5 + 2, none⟩ = some (.string x.fd) ∧ w'.cell? ⟨g, a * 5 + 3, none⟩ = some (.slice p.a1 x.rc.length p.c1) ∧ w'.cell? ⟨g, a * 5 + 4, none⟩ = some (.slice p.a2 x.body.length p.c2) ∧ w'.cell? ⟨w.heap.size + 1, 0, none⟩ = some (.string u) ∧ w'.cell? ⟨w.heap.size + 1, 1, none⟩ = some (.string d))) (by kernel_rfl) ⟨(S4.out.cellsM 4 rfl).c 1 _ rfl, (heldc ic0 S4.out.below), (heldc ic1 S4.out.below), (heldc ic2 S4.out.below), (heldc ic3 S4.out.below), (heldc ic4 S4.out.below), (S4.out.cellsM 3 rfl).c 0 _ rfl, (S4.out.cellsM 3 rfl).c 1 _ rfl⟩ (fun hHeld => ?_)
    (refine wpAnyH_take (i := 0) (v := ?_) rfl (by kernel_rfl) (by kernel_rfl) (by kernel_rfl) (fun _ _ _ h => h) (Or.inl ⟨by rfl, ?_⟩) (by assumption) ?_; rotate_left; (intro w hSw; (try dsimp only at hSw); go_split_ands; go_simp; first | done | with_reducible rfl); rotate_left; simp only [Act.put, List.getElem_toArray, List.getElem_cons_zero, List.setIfInBounds_toArray, List.set_cons_succ, List.set_cons_zero])
    (refine wpAnyH_take (i := 1) (v := ?_) rfl (by kernel_rfl) (by kernel_rfl) (by kernel_rfl) (fun _ _ _ h => h) (Or.inl ⟨by rfl, ?_⟩) (by assumption) ?_; rotate_left; (intro w hSw; (try dsimp only at hSw); go_split_ands; go_simp; first | done | with_reducible rfl); rotate_left; simp only [Act.put, List.getElem_toArray, List.getElem_cons_succ, List.getElem_cons_zero, List.setIfInBounds_toArray, List.set_cons_succ, List.set_cons_zero])
    (refine wpAnyH_take (i := 2) (v := ?_) rfl (by kernel_rfl) (by kernel_rfl) (by kernel_rfl) (fun _ _ _ h => h) (Or.inl ⟨by rfl, ?_⟩) (by assumption) ?_; rotate_left; (intro w hSw; (try dsimp only at hSw); go_split_ands; go_simp; first | done | with_reducible rfl); rotate_left; simp only [Act.put, List.getElem_toArray, List.getElem_cons_succ, List.getElem_cons_zero, List.setIfInBounds_toArray, List.set_cons_succ, List.set_cons_zero])
    (refine wpAnyH_take (i := 3) (v := ?_) rfl (by kernel_rfl) (by kernel_rfl) (by kernel_rfl) (fun _ _ _ h => h) (Or.inl ⟨by rfl, ?_⟩) (by assumption) ?_; rotate_left; (intro w hSw; (try dsimp only at hSw); go_split_ands; go_simp; first | done | with_reducible rfl); rotate_left; simp only [Act.put, List.getElem_toArray, List.getElem_cons_succ, List.getElem_cons_zero, List.setIfInBounds_toArray, List.set_cons_succ, List.set_cons_zero])
    (refine wpAnyH_take (i := 4) (v := ?_) rfl (by kernel_rfl) (by kernel_rfl) (by kernel_rfl) (fun _ _ _ h => h) (Or.inl ⟨by rfl, ?_⟩) (by assumption) ?_; rotate_left; (intro w hSw; (try dsimp only at hSw); go_split_ands; go_simp; first | done | with_reducible rfl); rotate_left; simp only [Act.put, List.getElem_toArray, List.getElem_cons_succ, List.getElem_cons_zero, List.setIfInBounds_toArray, List.set_cons_succ, List.set_cons_zero])
    (refine wpAnyH_take (i := 5) (v := ?_) rfl (by kernel_rfl) (by kernel_rfl) (by kernel_rfl) (fun _ _ _ h => h) (Or.inl ⟨by rfl, ?_⟩) (by assumption) ?_; rotate_left; (intro w hSw; (try dsimp only at hSw); go_split_ands; go_simp; first | done | with_reducible rfl); rotate_left; simp only [Act.put, List.getElem_toArray, List.getElem_cons_succ, List.getElem_cons_zero, List.setIfInBounds_toArray, List.set_cons_succ, List.set_cons_zero])
    (refine wpAnyH_take (i := 6) (v := ?_) rfl (by kernel_rfl) (by kernel_rfl) (by kernel_rfl) (fun _ _ _ h => h) (Or.inl ⟨by rfl, ?_⟩) (by assumption) ?_; rotate_left; (intro w hSw; (try dsimp only at hSw); go_split_ands; go_simp; first | done | with_reducible rfl); rotate_left; simp only [Act.put, List.getElem_toArray, List.getElem_cons_succ, List.getElem_cons_zero, List.setIfInBounds_toArray, List.set_cons_succ, List.set_cons_zero])
    (refine wpAnyH_take (i := 7) (v := ?_) rfl (by kernel_rfl) (by kernel_rfl) (by kernel_rfl) (fun _ _ _ h => h) (Or.inl ⟨by rfl, ?_⟩) (by assumption) ?_; rotate_left; (intro w hSw; (try dsimp only at hSw); go_split_ands; go_simp; first | done | with_reducible rfl); rotate_left; simp only [Act.put, List.getElem_toArray, List.getElem_cons_succ, List.getElem_cons_zero, List.setIfInBounds_toArray, List.set_cons_succ, List.set_cons_zero])
    (refine wpAnyH_take (i := 8) (v := ?_) rfl (by kernel_rfl) (by kernel_rfl) (by kernel_rfl) (fun _ _ _ h => h) (Or.inl ⟨by rfl, ?_⟩) (by assumption) ?_; rotate_left; (intro w hSw; (try dsimp only at hSw); go_split_ands; go_simp; first | done | with_reducible rfl); rotate_left; simp only [Act.put, List.getElem_toArray, List.getElem_cons_succ, List.getElem_cons_zero, List.setIfInBounds_toArray, List.set_cons_succ, List.set_cons_zero])
    refine wpAnyH_ready (rs := [9]) (by kernel_rfl) (by simp) ?_
    refine AllReadyH.cons rfl (fun K hK => ?_) AllReadyH.nil
    try dsimp only at hHeld
    go_split_ands
    go_simp
    refine (l5Rcpt_any x p u d _ (IA.out.below rcptP_stays S4.out.below (Nat.le_refl _)) hrl).mono ?_
    rintro e w5 ⟨rfl, hb5⟩
    rw [hrn]
    have S5 : Seal (Pt w w5 [[Res.cells (w2.heap.size) [.int .i64 s.last, .slice bo s.items.length c]], itemsR bo c s.items qs, [Res.cells (w.heap.size + 1 + 1) [.int .i64 0, .slice none 0 0]], [Res.cells (w.heap.size + 1) [.string u, .string d]], [Res.cells (w.heap.size) [.int .i64 s.last, .slice (some ⟨g, 0, none⟩) s.items.length pc]]]) := ⟨S4.out.later hb5⟩
    clear hb5
    refine hK.out _ _ ⟨(S5.out.cellsM 4 rfl).c 1 _ rfl, (heldc ic0 S5.out.below), (heldc ic1 S5.out.below), (heldc ic2 S5.out.below), (heldc ic3 S5.out.below), (heldc ic4 S5.out.below), (S5.out.cellsM 3 rfl).c 0 _ rfl, (S5.out.cellsM 3 rfl).c 1 _ rfl⟩ (fun hHeld => ?_)
    clear hK K
    try simp only [Act.put, List.getElem_toArray, List.getElem_cons_succ, List.getElem_cons_zero, List.setIfInBounds_toArray, List.set_cons_zero, List.set_cons_succ]
    (refine wpAnyH_take (i := 10) (v := ?_) rfl (by kernel_rfl) (by kernel_rfl) (by kernel_rfl) (fun _ _ _ h => h) (Or.inl ⟨by rfl, ?_⟩) (by assumption) ?_; rotate_left; (intro w hSw; (try dsimp only at hSw); go_split_ands; go_simp; first | done | with_reducible rfl); rotate_left; simp only [Act.put, List.getElem_toArray, List.getElem_cons_succ, List.getElem_cons_zero, List.setIfInBounds_toArray, List.set_cons_succ, List.set_cons_zero])
    (refine wpAnyH_take (i := 11) (v := ?_) rfl (by kernel_rfl) (by kernel_rfl) (by kernel_rfl) (fun _ _ _ h => h) (Or.inl ⟨by rfl, ?_⟩) (by assumption) ?_; rotate_left; (intro w hSw; (try dsimp only at hSw); go_split_ands; go_simp; first | done | with_reducible rfl); rotate_left; simp only [Act.put, List.getElem_toArray, List.getElem_cons_succ, List.getElem_cons_zero, List.setIfInBounds_toArray, List.set_cons_succ, List.set_cons_zero])
    refine wpAnyH_done (by kernel_rfl) ?_ _
    have HE : Seal _ := ⟨doneR_none HO.out HN.out⟩
    have g0 := (S5.out.cellsM 0 rfl).c 0 _ rfl
    have g1 := (S5.out.cellsM 0 rfl).c 1 _ rfl
    have gl := (S5.out.cellsM 0 rfl).lt
    have r0 := (S5.out.cellsM 2 rfl).c 0 _ rfl
    have r1 := (S5.out.cellsM 2 rfl).c 1 _ rfl
    have f0 := (S5.out.cellsM 2 rfl).f 0 (by simp)
    have f1 := (S5.out.cellsM 2 rfl).f 1 (by simp)
    go_wp2
    refine bodyPost_ret (v := .tuple #[.agg #[.int .i64 s.last, .slice bo s.items.length c], .bool false]) (by simp [results, Tryd.results9, go_sem, r0, r1]) rfl ⟨⟨bo, c, qs⟩, ret_sb HE.out rfl, by rw [HE.out]; exact HQ.out, ?_⟩
    rw [HE.out]
    have s4 := ((S5.out.bring 2 rfl).set 0 (.int .i64 s.last) (by simp)).set 1 (.slice bo s.items.length c) (by simp)
    have s5 := s4.bring 2 rfl
    exact Pt.only (Pt.prefix (As := [itemsR bo c s.items qs]) (Bs := [[Res.cells (w.heap.size + 1 + 1) [.int .i64 s.last, .slice bo s.items.length c]], [Res.cells w2.heap.size [.int .i64 s.last, .slice bo s.items.length c]], [Res.cells (w.heap.size + 1) [.string u, .string d]], [Res.cells w.heap.size [.int .i64 s.last, .slice (some ⟨g, 0, none⟩) s.items.length pc]]]) s5)
  have hk0 : (0 : Int) ≤ (k : Int) := by omega
  have hk1 : decide ((k : Int) < 0) = false := by rw [decide_eq_false_iff_not]; omega
  have HR : Seal _ := ⟨hr⟩
  have HRK : Seal _ := ⟨hrk⟩
  have HD : Seal (doneR s i u d = (doneS s a (doneI x k), true)) := ⟨doneR_some HO.out (doneAt_at HAT.out HX.out hrk)⟩
  obtain ⟨D, hDD⟩ : ∃ D, doneS s a (doneI x k) = D := ⟨_, rfl⟩
  have HDD : Seal _ := ⟨hDD⟩
  have CL : Seal (∀ W Ls, Pt w W (itemsR bo c s.items qs :: Ls) → Calls Tryd.prog 36 #[.agg (spoolV s bo c), .int .i64 a, .int .i64 k] W fun e w' => ∃ b2 c2 q2, e = .returned (.agg #[.int .i64 s.last, .slice b2 D.items.length c2]) ∧ q2.length = D.items.length ∧ Pt w w' (itemsR b2 c2 D.items q2 :: Ls)) := ⟨fun W Ls hW => by
    rw [← HDD.out]
    exact l5Done_any Ls.flatten s bo c qs HQ.out (by omega) a k x r HX.out HR.out w W hW (by omega)⟩
  clear hDD hr
  go_upto_region 5 with fail
  have S4 : Seal (Pt w w3.drew [[Res.cells (w2.heap.size) [.int .i64 s.last, .slice bo s.items.length c]], itemsR bo c s.items qs, [Res.cells (w.heap.size + 1 + 1) [.int .i64 0, .slice none 0 0]], [Res.cells (w.heap.size + 1) [.string u, .string d]], [Res.cells (w.heap.size) [.int .i64 s.last, .slice (some ⟨g, 0, none⟩) s.items.length pc]]]) := ⟨S3.out.drew⟩
  refine wp_region_held_drew (S := (fun w' => w'.cell? ⟨w.heap.size, 1, none⟩ = some (.slice (some ⟨g, 0, none⟩) s.items.length pc) ∧ w'.cell? ⟨g, a * 5, none⟩ = some (.int .i64 x.id) ∧ w'.cell? ⟨g, a * 5 + 1, none⟩ = some (.string x.fu) ∧ w'.cell? ⟨g, a * 5 + 2, none⟩ = some (.string x.fd) ∧ w'.cell? ⟨g, a * 5 + 3, none⟩ = some (.slice p.a1 x.rc.length p.c1) ∧ w'.cell? ⟨g, a * 5 + 4, none⟩ = some (.slice p.a2 x.body.length p.c2) ∧ w'.cell? ⟨w.heap.size + 1, 0, none⟩ = some (.string u) ∧ w'.cell? ⟨w.heap.size + 1, 1, none⟩ = some (.string d))) (by kernel_rfl) ⟨(S4.out.cellsM 4 rfl).c 1 _ rfl, (heldc ic0 S4.out.below), (heldc ic1 S4.out.below), (heldc ic2 S4.out.below), (heldc ic3 S4.out.below), (heldc ic4 S4.out.below), (S4.out.cellsM 3 rfl).c 0 _ rfl, (S4.out.cellsM 3 rfl).c 1 _ rfl⟩ (fun hHeld => ?_)
  (refine wpAnyH_take (i := 0) (v := ?_) rfl (by kernel_rfl) (by kernel_rfl) (by kernel_rfl) (fun _ _ _ h => h) (Or.inl ⟨by rfl, ?_⟩) (by assumption) ?_; rotate_left; (intro w hSw; (try dsimp only at hSw); go_split_ands; go_simp; first | done | with_reducible rfl); rotate_left; simp only [Act.put, List.getElem_toArray, List.getElem_cons_zero, List.setIfInBounds_toArray, List.set_cons_succ, List.set_cons_zero])
  (refine wpAnyH_take (i := 1) (v := ?_) rfl (by kernel_rfl) (by kernel_rfl) (by kernel_rfl) (fun _ _ _ h => h) (Or.inl ⟨by rfl, ?_⟩) (by assumption) ?_; rotate_left; (intro w hSw; (try dsimp only at hSw); go_split_ands; go_simp; first | done | with_reducible rfl); rotate_left; simp only [Act.put, List.getElem_toArray, List.getElem_cons_succ, List.getElem_cons_zero, List.setIfInBounds_toArray, List.set_cons_succ, List.set_cons_zero])
  (refine wpAnyH_take (i := 2) (v := ?_) rfl (by kernel_rfl) (by kernel_rfl) (by kernel_rfl) (fun _ _ _ h => h) (Or.inl ⟨by rfl, ?_⟩) (by assumption) ?_; rotate_left; (intro w hSw; (try dsimp only at hSw); go_split_ands; go_simp; first | done | with_reducible rfl); rotate_left; simp only [Act.put, List.getElem_toArray, List.getElem_cons_succ, List.getElem_cons_zero, List.setIfInBounds_toArray, List.set_cons_succ, List.set_cons_zero])
  (refine wpAnyH_take (i := 3) (v := ?_) rfl (by kernel_rfl) (by kernel_rfl) (by kernel_rfl) (fun _ _ _ h => h) (Or.inl ⟨by rfl, ?_⟩) (by assumption) ?_; rotate_left; (intro w hSw; (try dsimp only at hSw); go_split_ands; go_simp; first | done | with_reducible rfl); rotate_left; simp only [Act.put, List.getElem_toArray, List.getElem_cons_succ, List.getElem_cons_zero, List.setIfInBounds_toArray, List.set_cons_succ, List.set_cons_zero])
  (refine wpAnyH_take (i := 4) (v := ?_) rfl (by kernel_rfl) (by kernel_rfl) (by kernel_rfl) (fun _ _ _ h => h) (Or.inl ⟨by rfl, ?_⟩) (by assumption) ?_; rotate_left; (intro w hSw; (try dsimp only at hSw); go_split_ands; go_simp; first | done | with_reducible rfl); rotate_left; simp only [Act.put, List.getElem_toArray, List.getElem_cons_succ, List.getElem_cons_zero, List.setIfInBounds_toArray, List.set_cons_succ, List.set_cons_zero])
  (refine wpAnyH_take (i := 5) (v := ?_) rfl (by kernel_rfl) (by kernel_rfl) (by kernel_rfl) (fun _ _ _ h => h) (Or.inl ⟨by rfl, ?_⟩) (by assumption) ?_; rotate_left; (intro w hSw; (try dsimp only at hSw); go_split_ands; go_simp; first | done | with_reducible rfl); rotate_left; simp only [Act.put, List.getElem_toArray, List.getElem_cons_succ, List.getElem_cons_zero, List.setIfInBounds_toArray, List.set_cons_succ, List.set_cons_zero])
  (refine wpAnyH_take (i := 6) (v := ?_) rfl (by kernel_rfl) (by kernel_rfl) (by kernel_rfl) (fun _ _ _ h => h) (Or.inl ⟨by rfl, ?_⟩) (by assumption) ?_; rotate_left; (intro w hSw; (try dsimp only at hSw); go_split_ands; go_simp; first | done | with_reducible rfl); rotate_left; simp only [Act.put, List.getElem_toArray, List.getElem_cons_succ, List.getElem_cons_zero, List.setIfInBounds_toArray, List.set_cons_succ, List.set_cons_zero])
  (refine wpAnyH_take (i := 7) (v := ?_) rfl (by kernel_rfl) (by kernel_rfl) (by kernel_rfl) (fun _ _ _ h => h) (Or.inl ⟨by rfl, ?_⟩) (by assumption) ?_; rotate_left; (intro w hSw; (try dsimp only at hSw); go_split_ands; go_simp; first | done | with_reducible rfl); rotate_left; simp only [Act.put, List.getElem_toArray, List.getElem_cons_succ, List.getElem_cons_zero, List.setIfInBounds_toArray, List.set_cons_succ, List.set_cons_zero])
  (refine wpAnyH_take (i := 8) (v := ?_) rfl (by kernel_rfl) (by kernel_rfl) (by kernel_rfl) (fun _ _ _ h => h) (Or.inl ⟨by rfl, ?_⟩) (by assumption) ?_; rotate_left; (intro w hSw; (try dsimp only at hSw); go_split_ands; go_simp; first | done | with_reducible rfl); rotate_left; simp only [Act.put, List.getElem_toArray, List.getElem_cons_succ, List.getElem_cons_zero, List.setIfInBounds_toArray, List.set_cons_succ, List.set_cons_zero])
  refine wpAnyH_ready (rs := [9]) (by kernel_rfl) (by simp) ?_
  refine AllReadyH.cons rfl (fun K hK => ?_) AllReadyH.nil
  try dsimp only at hHeld
  go_split_ands
  go_simp
  refine (l5Rcpt_any x p u d _ (IA.out.below rcptP_stays S4.out.below (Nat.le_refl _)) hrl).mono ?_
  rintro e w5 ⟨rfl, hb5⟩
  rw [hrk]
  have S5 : Seal (Pt w w5 [[Res.cells (w2.heap.size) [.int .i64 s.last, .slice bo s.items.length c]], itemsR bo c s.items qs, [Res.cells (w.heap.size + 1 + 1) [.int .i64 0, .slice none 0 0]], [Res.cells (w.heap.size + 1) [.string u, .string d]], [Res.cells (w.heap.size) [.int .i64 s.last, .slice (some ⟨g, 0, none⟩) s.items.length pc]]]) := ⟨S4.out.later hb5⟩
  clear hb5
  refine hK.out _ _ ⟨(S5.out.cellsM 4 rfl).c 1 _ rfl, (heldc ic0 S5.out.below), (heldc ic1 S5.out.below), (heldc ic2 S5.out.below), (heldc ic3 S5.out.below), (heldc ic4 S5.out.below), (S5.out.cellsM 3 rfl).c 0 _ rfl, (S5.out.cellsM 3 rfl).c 1 _ rfl⟩ (fun hHeld => ?_)
  clear hK K
  try simp only [Act.put, List.getElem_toArray, List.getElem_cons_succ, List.getElem_cons_zero, List.setIfInBounds_toArray, List.set_cons_zero, List.set_cons_succ]
  (refine wpAnyH_take (i := 10) (v := ?_) rfl (by kernel_rfl) (by kernel_rfl) (by kernel_rfl) (fun _ _ _ h => h) (Or.inl ⟨by rfl, ?_⟩) (by assumption) ?_; rotate_left; (intro w hSw; (try dsimp only at hSw); go_split_ands; go_simp; first | done | with_reducible rfl); rotate_left; simp only [Act.put, List.getElem_toArray, List.getElem_cons_succ, List.getElem_cons_zero, List.setIfInBounds_toArray, List.set_cons_succ, List.set_cons_zero])
  (refine wpAnyH_take (i := 11) (v := ?_) rfl (by kernel_rfl) (by kernel_rfl) (by kernel_rfl) (fun _ _ _ h => h) (Or.inl ⟨by rfl, ?_⟩) (by assumption) ?_; rotate_left; (intro w hSw; (try dsimp only at hSw); go_split_ands; go_simp; first | done | with_reducible rfl); rotate_left; simp only [Act.put, List.getElem_toArray, List.getElem_cons_succ, List.getElem_cons_zero, List.setIfInBounds_toArray, List.set_cons_succ, List.set_cons_zero])
  refine wpAnyH_done (by kernel_rfl) ?_ _
  go_upto_region 7 with fail
  have S6 : Seal (Pt w w5.drew [[Res.cells (w2.heap.size) [.int .i64 s.last, .slice bo s.items.length c]], itemsR bo c s.items qs, [Res.cells (w.heap.size + 1 + 1) [.int .i64 0, .slice none 0 0]], [Res.cells (w.heap.size + 1) [.string u, .string d]], [Res.cells (w.heap.size) [.int .i64 s.last, .slice (some ⟨g, 0, none⟩) s.items.length pc]]]) := ⟨S5.out.drew⟩
  refine wp_region_held_drew (S := (fun w' => w'.cell? ⟨w2.heap.size, 0, none⟩ = some (.int .i64 s.last) ∧ w'.cell? ⟨w2.heap.size, 1, none⟩ = some (.slice bo s.items.length c) ∧ w'.cell? ⟨w.heap.size, 1, none⟩ = some (.slice (some ⟨g, 0, none⟩) s.items.length pc) ∧ w'.cell? ⟨g, a * 5, none⟩ = some (.int .i64 x.id) ∧ w'.cell? ⟨g, a * 5 + 1, none⟩ = some (.string x.fu) ∧ w'.cell? ⟨g, a * 5 + 2, none⟩ = some (.string x.fd) ∧ w'.cell? ⟨g, a * 5 + 3, none⟩ = some (.slice p.a1 x.rc.length p.c1) ∧ w'.cell? ⟨g, a * 5 + 4, none⟩ = some (.slice p.a2 x.body.length p.c2) ∧ w'.cell? ⟨w.heap.size + 1, 0, none⟩ = some (.string u) ∧ w'.cell? ⟨w.heap.size + 1, 1, none⟩ = some (.string d))) (by kernel_rfl) ⟨(S6.out.cellsM 0 rfl).c 0 _ rfl, (S6.out.cellsM 0 rfl).c 1 _ rfl, (S6.out.cellsM 4 rfl).c 1 _ rfl, (heldc ic0 S6.out.below), (heldc ic1 S6.out.below), (heldc ic2 S6.out.below), (heldc ic3 S6.out.below), (heldc ic4 S6.out.below), (S6.out.cellsM 3 rfl).c 0 _ rfl, (S6.out.cellsM 3 rfl).c 1 _ rfl⟩ (fun hHeld => ?_)
  (refine wpAnyH_take (i := 0) (v := ?_) rfl (by kernel_rfl) (by kernel_rfl) (by kernel_rfl) (fun _ _ _ h => h) (Or.inl ⟨by rfl, ?_⟩) (by assumption) ?_; rotate_left; (intro w hSw; (try dsimp only at hSw); go_split_ands; go_simp; first | done | with_reducible rfl); rotate_left; simp only [Act.put, List.getElem_toArray, List.getElem_cons_zero, List.setIfInBounds_toArray, List.set_cons_succ, List.set_cons_zero])
  (refine wpAnyH_take (i := 1) (v := ?_) rfl (by kernel_rfl) (by kernel_rfl) (by kernel_rfl) (fun _ _ _ h => h) (Or.inl ⟨by rfl, ?_⟩) (by assumption) ?_; rotate_left; (intro w hSw; (try dsimp only at hSw); go_split_ands; go_simp; first | done | with_reducible rfl); rotate_left; simp only [Act.put, List.getElem_toArray, List.getElem_cons_succ, List.getElem_cons_zero, List.setIfInBounds_toArray, List.set_cons_succ, List.set_cons_zero])
  (refine wpAnyH_take (i := 2) (v := ?_) rfl (by kernel_rfl) (by kernel_rfl) (by kernel_rfl) (fun _ _ _ h => h) (Or.inl ⟨by rfl, ?_⟩) (by assumption) ?_; rotate_left; (intro w hSw; (try dsimp only at hSw); go_split_ands; go_simp; first | done | with_reducible rfl); rotate_left; simp only [Act.put, List.getElem_toArray, List.getElem_cons_succ, List.getElem_cons_zero, List.setIfInBounds_toArray, List.set_cons_succ, List.set_cons_zero])
  (refine wpAnyH_take (i := 3) (v := ?_) rfl (by kernel_rfl) (by kernel_rfl) (by kernel_rfl) (fun _ _ _ h => h) (Or.inl ⟨by rfl, ?_⟩) (by assumption) ?_; rotate_left; (intro w hSw; (try dsimp only at hSw); go_split_ands; go_simp; first | done | with_reducible rfl); rotate_left; simp only [Act.put, List.getElem_toArray, List.getElem_cons_succ, List.getElem_cons_zero, List.setIfInBounds_toArray, List.set_cons_succ, List.set_cons_zero])
  (refine wpAnyH_take (i := 4) (v := ?_) rfl (by kernel_rfl) (by kernel_rfl) (by kernel_rfl) (fun _ _ _ h => h) (Or.inl ⟨by rfl, ?_⟩) (by assumption) ?_; rotate_left; (intro w hSw; (try dsimp only at hSw); go_split_ands; go_simp; first | done | with_reducible rfl); rotate_left; simp only [Act.put, List.getElem_toArray, List.getElem_cons_succ, List.getElem_cons_zero, List.setIfInBounds_toArray, List.set_cons_succ, List.set_cons_zero])
  (refine wpAnyH_take (i := 5) (v := ?_) rfl (by kernel_rfl) (by kernel_rfl) (by kernel_rfl) (fun _ _ _ h => h) (Or.inl ⟨by rfl, ?_⟩) (by assumption) ?_; rotate_left; (intro w hSw; (try dsimp only at hSw); go_split_ands; go_simp; first | done | with_reducible rfl); rotate_left; simp only [Act.put, List.getElem_toArray, List.getElem_cons_succ, List.getElem_cons_zero, List.setIfInBounds_toArray, List.set_cons_succ, List.set_cons_zero])
  (refine wpAnyH_take (i := 6) (v := ?_) rfl (by kernel_rfl) (by kernel_rfl) (by kernel_rfl) (fun _ _ _ h => h) (Or.inl ⟨by rfl, ?_⟩) (by assumption) ?_; rotate_left; (intro w hSw; (try dsimp only at hSw); go_split_ands; go_simp; first | done | with_reducible rfl); rotate_left; simp only [Act.put, List.getElem_toArray, List.getElem_cons_succ, List.getElem_cons_zero, List.setIfInBounds_toArray, List.set_cons_succ, List.set_cons_zero])
  (refine wpAnyH_take (i := 7) (v := ?_) rfl (by kernel_rfl) (by kernel_rfl) (by kernel_rfl) (fun _ _ _ h => h) (Or.inl ⟨by rfl, ?_⟩) (by assumption) ?_; rotate_left; (intro w hSw; (try dsimp only at hSw); go_split_ands; go_simp; first | done | with_reducible rfl); rotate_left; simp only [Act.put, List.getElem_toArray, List.getElem_cons_succ, List.getElem_cons_zero, List.setIfInBounds_toArray, List.set_cons_succ, List.set_cons_zero])
  refine wpAnyH_ready (rs := [8]) (by kernel_rfl) (by simp) ?_
  refine AllReadyH.cons rfl (fun K hK => ?_) AllReadyH.nil
  try dsimp only at hHeld
  go_split_ands
  go_simp
  refine (l5Rcpt_any x p u d _ (IA.out.below rcptP_stays S6.out.below (Nat.le_refl _)) hrl).mono ?_
  rintro e w6 ⟨rfl, hb6⟩
  rw [HRK.out]
  have S7 : Seal (Pt w w6 [[Res.cells (w2.heap.size) [.int .i64 s.last, .slice bo s.items.length c]], itemsR bo c s.items qs, [Res.cells (w.heap.size + 1 + 1) [.int .i64 0, .slice none 0 0]], [Res.cells (w.heap.size + 1) [.string u, .string d]], [Res.cells (w.heap.size) [.int .i64 s.last, .slice (some ⟨g, 0, none⟩) s.items.length pc]]]) := ⟨S6.out.later hb6⟩
  clear hb6
  refine hK.out _ _ ⟨(S7.out.cellsM 0 rfl).c 0 _ rfl, (S7.out.cellsM 0 rfl).c 1 _ rfl, (S7.out.cellsM 4 rfl).c 1 _ rfl, (heldc ic0 S7.out.below), (heldc ic1 S7.out.below), (heldc ic2 S7.out.below), (heldc ic3 S7.out.below), (heldc ic4 S7.out.below), (S7.out.cellsM 3 rfl).c 0 _ rfl, (S7.out.cellsM 3 rfl).c 1 _ rfl⟩ (fun hHeld => ?_)
  clear hK K
  try simp only [Act.put, List.getElem_toArray, List.getElem_cons_succ, List.getElem_cons_zero, List.setIfInBounds_toArray, List.set_cons_zero, List.set_cons_succ]
  refine wpAnyH_ready (rs := [9]) (by kernel_rfl) (by simp) ?_
  refine AllReadyH.cons rfl (fun K hK => ?_) AllReadyH.nil
  try dsimp only at hHeld
  go_split_ands
  go_simp
  refine (CL.out _ _ (S7.out.bring 1 rfl)).mono ?_
  rintro e w7 ⟨b2, c2, q2, rfl, hq2, hk⟩
  have HQ2 : Seal _ := ⟨hq2⟩
  clear hq2
  have S8 : Seal (Pt w w7 [itemsR b2 c2 D.items q2, [Res.cells (w2.heap.size) [.int .i64 s.last, .slice bo s.items.length c]], [Res.cells (w.heap.size + 1 + 1) [.int .i64 0, .slice none 0 0]], [Res.cells (w.heap.size + 1) [.string u, .string d]], [Res.cells (w.heap.size) [.int .i64 s.last, .slice (some ⟨g, 0, none⟩) s.items.length pc]]]) := ⟨hk⟩
  clear hk
  refine hK.out _ _ ⟨(S8.out.cellsM 1 rfl).c 0 _ rfl, (S8.out.cellsM 1 rfl).c 1 _ rfl, (S8.out.cellsM 4 rfl).c 1 _ rfl, (heldc ic0 S8.out.below), (heldc ic1 S8.out.below), (heldc ic2 S8.out.below), (heldc ic3 S8.out.below), (heldc ic4 S8.out.below), (S8.out.cellsM 3 rfl).c 0 _ rfl, (S8.out.cellsM 3 rfl).c 1 _ rfl⟩ (fun hHeld => ?_)
  clear hK K
  try simp only [Act.put, List.getElem_toArray, List.getElem_cons_succ, List.getElem_cons_zero, List.setIfInBounds_toArray, List.set_cons_zero, List.set_cons_succ]
  refine wpAnyH_ready (rs := [10]) (by kernel_rfl) (by simp) ?_
  refine AllReadyH.cons rfl (fun K hK => ?_) AllReadyH.nil
  have S9 : Seal (Pt w w7 [[Res.cells (w.heap.size + 1 + 1) [.int .i64 0, .slice none 0 0]], itemsR b2 c2 D.items q2, [Res.cells (w2.heap.size) [.int .i64 s.last, .slice bo s.items.length c]], [Res.cells (w.heap.size + 1) [.string u, .string d]], [Res.cells (w.heap.size) [.int .i64 s.last, .slice (some ⟨g, 0, none⟩) s.items.length pc]]]) := ⟨S8.out.bring 2 rfl⟩
  have oc0 := (S9.out.cellsM 0 rfl).c 0 _ rfl
  have of0 := (S9.out.cellsM 0 rfl).f 0 (by simp)
  have oc1 := (S9.out.cellsM 0 rfl).c 1 _ rfl
  have of1 := (S9.out.cellsM 0 rfl).f 1 (by simp)
  have S10 : Seal (Pt w ((w7.setCell ⟨w.heap.size + 1 + 1, 0, none⟩ (.int .i64 s.last)).setCell ⟨w.heap.size + 1 + 1, 1, none⟩ (.slice b2 D.items.length c2)) [[Res.cells (w.heap.size + 1 + 1) [.int .i64 s.last, .slice b2 D.items.length c2]], itemsR b2 c2 D.items q2, [Res.cells (w2.heap.size) [.int .i64 s.last, .slice bo s.items.length c]], [Res.cells (w.heap.size + 1) [.string u, .string d]], [Res.cells (w.heap.size) [.int .i64 s.last, .slice (some ⟨g, 0, none⟩) s.items.length pc]]]) := ⟨((S9.out).set 0 (.int .i64 s.last) (by simp)).set 1 (.slice b2 D.items.length c2) (by simp)⟩
  go_simp
  refine hK.out _ _ ⟨(S10.out.cellsM 2 rfl).c 0 _ rfl, (S10.out.cellsM 2 rfl).c 1 _ rfl, (S10.out.cellsM 4 rfl).c 1 _ rfl, (heldc ic0 S10.out.below), (heldc ic1 S10.out.below), (heldc ic2 S10.out.below), (heldc ic3 S10.out.below), (heldc ic4 S10.out.below), (S10.out.cellsM 3 rfl).c 0 _ rfl, (S10.out.cellsM 3 rfl).c 1 _ rfl⟩ (fun hHeld => ?_)
  clear hK K
  try simp only [Act.put, List.getElem_toArray, List.getElem_cons_succ, List.getElem_cons_zero, List.setIfInBounds_toArray, List.set_cons_zero, List.set_cons_succ]
  clear oc0 of0 oc1 of1
  refine wpAnyH_ready (rs := [11]) (by kernel_rfl) (by simp) ?_
  refine AllReadyH.cons rfl (fun K hK => ?_) AllReadyH.nil
  go_simp
  refine hK.out _ _ (by assumption) (fun hHeld => ?_)
  clear hK K
  try simp only [Act.put, List.getElem_toArray, List.getElem_cons_succ, List.getElem_cons_zero, List.setIfInBounds_toArray, List.set_cons_zero, List.set_cons_succ]
  refine wpAnyH_done (by kernel_rfl) ?_ _
  generalize ((w7.setCell ⟨w.heap.size + 1 + 1, 0, none⟩ (.int .i64 s.last)).setCell ⟨w.heap.size + 1 + 1, 1, none⟩ (.slice b2 D.items.length c2)) = w9 at *
  have r0 := (S10.out.cellsM 0 rfl).c 0 _ rfl
  have r1 := (S10.out.cellsM 0 rfl).c 1 _ rfl
  clear CL IA
  go_wp2
  refine bodyPost_ret (v := .tuple #[.agg #[.int .i64 s.last, .slice b2 D.items.length c2], .bool true]) (by simp [results, Tryd.results9, go_sem, r0, r1]) rfl ⟨⟨b2, c2, q2⟩, ret_sb (D := D) (by rw [HD.out, HDD.out]) (by show _ = (#[Value.int .i64 D.last, Value.slice b2 D.items.length c2] : Array Value); rw [← HDD.out]; rfl), by rw [HD.out, HDD.out]; exact HQ2.out, ?_⟩
  rw [HD.out, HDD.out]
  have s5 := S10.out.bring 1 rfl
  exact Pt.only (Pt.prefix (As := [itemsR b2 c2 D.items q2]) (Bs := [[Res.cells (w.heap.size + 1 + 1) [.int .i64 s.last, .slice b2 D.items.length c2]], [Res.cells (w2.heap.size) [.int .i64 s.last, .slice bo s.items.length c]], [Res.cells (w.heap.size + 1) [.string u, .string d]], [Res.cells (w.heap.size) [.int .i64 s.last, .slice (some ⟨g, 0, none⟩) s.items.length pc]]]) s5)
end Go.Proofs.YtcaknjdolfheaaaDoor
