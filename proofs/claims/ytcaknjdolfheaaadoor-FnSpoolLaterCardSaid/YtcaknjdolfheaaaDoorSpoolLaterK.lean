/- Contracts: SpoolLater of the model, in the one form of the exact walks. -/
import Derived.Test.YtcaknjdolfheaaaDoorTk
import Derived.Test.YtcaknjdolfheaaaDoorSpoolLates
import Derived.Deep.RegionHeld3
namespace Go.Proofs.YtcaknjdolfheaaaDoor
open Go Go.RowKit

/-! ### plain facts -/
def lateAt (s : SpoolD) (i : Int) (u d : ByteArray) (now : Int) : Option (Nat × ItemD × Nat × RcptD) :=
  if findR (idB i) s.items < 0 then none else match s.items[(findR (idB i) s.items).toNat]? with
  | none => none
  | some x => if findR (toB1 u d) x.rc < 0 then none else match x.rc[(findR (toB1 u d) x.rc).toNat]? with
    | none => none
    | some r => if timeB now && mayLate r now then some ((findR (idB i) s.items).toNat, x, (findR (toB1 u d) x.rc).toNat, r) else none
def laterR (s : SpoolD) (i : Int) (u d : ByteArray) (now : Int) : SpoolD × Bool :=
  if spoolB s then (match lateAt s i u d now with | none => (s, false) | some (a, x, k, r) => (lateD s a (lateI x k r now), true)) else (noSpoolD, false)
theorem laterR_bad {s : SpoolD} {i : Int} {u d : ByteArray} {now : Int} (h : spoolB s = false) : laterR s i u d now = (noSpoolD, false) := by unfold laterR; rw [h]; rfl
theorem laterR_none {s : SpoolD} {i : Int} {u d : ByteArray} {now : Int} (h : spoolB s = true) (h1 : lateAt s i u d now = none) : laterR s i u d now = (s, false) := by unfold laterR; rw [h, h1]; rfl
theorem laterR_some {s : SpoolD} {i : Int} {u d : ByteArray} {now : Int} {a k : Nat} {x : ItemD} {r : RcptD} (h : spoolB s = true) (h1 : lateAt s i u d now = some (a, x, k, r)) : laterR s i u d now = (lateD s a (lateI x k r now), true) := by unfold laterR; rw [h, h1]; rfl
theorem lateAt_noid {s : SpoolD} {i : Int} {u d : ByteArray} {now : Int} (h : findR (idB i) s.items = -1) : lateAt s i u d now = none := by unfold lateAt; rw [h]; rfl
theorem lateAt_norc {s : SpoolD} {i : Int} {u d : ByteArray} {now : Int} {a : Nat} {x : ItemD} (h : findR (idB i) s.items = a) (hx : s.items[a]? = some x) (h2 : findR (toB1 u d) x.rc = -1) : lateAt s i u d now = none := by
  unfold lateAt
  rw [h, if_neg (by omega), Int.toNat_natCast, hx]
  dsimp only
  rw [h2]
  rfl
theorem lateAt_at {s : SpoolD} {i : Int} {u d : ByteArray} {now : Int} {a k : Nat} {x : ItemD} {r : RcptD} (h : findR (idB i) s.items = a) (hx : s.items[a]? = some x) (h2 : findR (toB1 u d) x.rc = k) (hr : x.rc[k]? = some r) : lateAt s i u d now = if timeB now && mayLate r now then some (a, x, k, r) else none := by
  unfold lateAt
  rw [h, if_neg (by omega), Int.toNat_natCast, hx]
  dsimp only
  rw [h2, if_neg (by omega), Int.toNat_natCast, hr]
theorem lateAt_notime {s : SpoolD} {i : Int} {u d : ByteArray} {now : Int} (h : timeB now = false) : lateAt s i u d now = none := by
  unfold lateAt
  split
  · rfl
  · split
    · rfl
    · split
      · rfl
      · split
        · rfl
        · rw [h]; rfl
theorem lateD_len (s : SpoolD) (a : Nat) (y : ItemD) : (lateD s a y).items.length = s.items.length := List.length_set
theorem spool_rcpt {s : SpoolD} (h : spoolB s = true) {a k : Nat} {x : ItemD} {r : RcptD} (hx : s.items[a]? = some x) (hr : x.rc[k]? = some r) : 0 ≤ r.tries ∧ r.tries ≤ 3 ∧ itemN x ≤ 1000 := by
  unfold spoolB at h
  rw [Bool.and_eq_true, Bool.and_eq_true, Bool.and_eq_true, List.all_eq_true] at h
  have h1 := h.2.2.1 x (List.mem_of_getElem? hx)
  unfold itemB at h1
  rw [Bool.and_eq_true, List.all_eq_true] at h1
  have h2 := h1.2 r (List.mem_of_getElem? hr)
  unfold tryB at h2
  rw [Bool.and_eq_true, decide_eq_true_eq] at h2
  exact ⟨h2.1.1, h2.1.2, item_small h1.1⟩
theorem late_small {x : ItemD} {k : Nat} {r : RcptD} {now : Int} (hr : x.rc[k]? = some r) : itemN (lateI x k r now) = itemN x := by
  obtain ⟨hk, e⟩ := List.getElem?_eq_some_iff.1 hr
  have h : sumN rcptN (x.rc.set k (lateR r now)) = sumN rcptN x.rc := by
    have e1 := take_drop_at hr
    rw [List.set_eq_take_append_cons_drop, if_pos hk]
    conv => rhs; rw [e1]
    unfold sumN
    simp [lateR, rcptN]
  unfold lateI itemN
  dsimp only
  rw [rowN_eq, rowN_eq rcptN x.rc, h, List.length_set]
theorem laterR_sz (s : SpoolD) (i : Int) (u d : ByteArray) (now : Int) (hz : spoolN s ≤ 1048576) : spoolN (laterR s i u d now).1 ≤ 1048576 := by
  cases h : spoolB s with
  | false => rw [laterR_bad h]; decide
  | true =>
    cases h1 : lateAt s i u d now with
    | none => rw [laterR_none h h1]; exact hz
    | some v =>
      obtain ⟨a, x, k, r⟩ := v
      rw [laterR_some h h1]
      unfold lateAt at h1
      split at h1
      · cases h1
      · split at h1
        · cases h1
        · rename_i x' hx'
          split at h1
          · cases h1
          · split at h1
            · cases h1
            · rename_i r' hr'
              split at h1
              · simp only [Option.some.injEq, Prod.mk.injEq] at h1
                obtain ⟨rfl, rfl, rfl, rfl⟩ := h1
                have hk := (List.getElem?_eq_some_iff.1 hx').1
                have e1 := take_drop_at hx'
                have h2 : sumN itemN (s.items.set (findR (idB i) s.items).toNat (lateI x' (findR (toB1 u d) x'.rc).toNat r' now)) = sumN itemN s.items := by
                  rw [List.set_eq_take_append_cons_drop, if_pos hk]
                  conv => rhs; rw [e1]
                  unfold sumN
                  simp [late_small hr']
                show rowN itemN (s.items.set _ _) ≤ _
                rw [rowN_eq, h2, List.length_set]
                exact hz
              · cases h1

set_option maxHeartbeats 12800000 in
set_option maxRecDepth 100000 in
theorem specSpoolLater_K (s : SpoolD) (i : Int) (u d : ByteArray) (now : Int) (hz : spoolKZ s) (_ : u.size ≤ 1048576 ∧ d.size ≤ 1048576) (w0 w : World) (Ls : List (List Res)) (ps : SpoolP) (j : Nat) (h : Pt w0 w Ls) (hj : Ls[j]? = some (spoolKR s ps)) (hfs : spoolKF s ps) :
    Calls Tryd.prog 15 #[.agg (spoolKV s ps), .int .i64 i, .agg #[.string u, .string d], .int .i64 now] w fun e w' => ∃ r, e = .returned (.tuple #[.agg (spoolKV (laterR s i u d now).1 r), .bool (laterR s i u d now).2]) ∧ spoolKF (laterR s i u d now).1 r ∧ St w w' (spoolKR (laterR s i u d now).1 r) := by
  have HS : Seal _ := ⟨h.bring j hj⟩
  have HA : Seal (ItemRow w ps.a s.items) := ⟨spoolK_read hfs (h.nth j hj)⟩
  have HF : Seal _ := ⟨hfs⟩
  have HZ : Seal _ := ⟨hz⟩
  clear h hj hfs hz
  have S0 : Seal (Pt w (((w.alloc (.cells (spoolKV s ps) 25)).alloc (.cells #[.string u, .string d] 27)).alloc (.cells #[.int .i64 0, .slice none 0 0] 25)) [[Res.cells (w.heap.size + 1 + 1) [.int .i64 0, .slice none 0 0]], [Res.cells (w.heap.size + 1) [.string u, .string d]], [Res.cells w.heap.size (spoolKL s ps)]]) := ⟨by
    have h := (((Pt.start w).alloc (spoolKV s ps) 25).alloc #[.string u, .string d] 27).alloc #[.int .i64 0, .slice none 0 0] 25
    simp only [World.size_alloc] at h
    exact h⟩
  go_enter Tryd.func15, Tryd.ntmps15
  go_wp2_with fail
  refine (l5Ok_any s ps.a ps.c _ (HA.out.below itemP_stays S0.out.below (Nat.le_refl _)) HZ.out).mono ?_
  rintro e w1 ⟨rfl, hb⟩
  have S1 : Seal _ := ⟨S0.out.later hb⟩
  clear hb S0
  cases hok : spoolB s
  · have HE : Seal _ := ⟨laterR_bad (i := i) (u := u) (d := d) (now := now) hok⟩
    have r0 := (S1.out.cellsM 0 rfl).c 0 _ rfl
    have r1 := (S1.out.cellsM 0 rfl).c 1 _ rfl
    have f0 := (S1.out.cellsM 0 rfl).f 0 (by simp)
    have f1 := (S1.out.cellsM 0 rfl).f 1 (by simp)
    clear hok
    go_wp2
    refine bodyPost_ret (v := .tuple #[.agg #[.int .i64 0, .slice none 0 0], .bool false]) (by simp [results, Tryd.results15, go_sem, r0, r1]) rfl ⟨⟨none, 0, []⟩, ret_sb HE.out rfl, by rw [HE.out]; rfl, ?_⟩
    rw [HE.out]
    have s4 := ((S1.out.set 0 (.int .i64 0) (by simp)).set 1 (.slice none 0 0) (by simp)).nothing 42 5
    exact Pt.prefix (As := [[Res.row 42 5 (.slice none 0 0) 0 []]]) s4
  have HO : Seal _ := ⟨hok⟩
  obtain ⟨sm1, sm2, sm3, sm4⟩ := spool_small hok
  clear hok
  have g0 := (S1.out.cellsM 2 rfl).c 0 _ rfl
  have g1 := (S1.out.cellsM 2 rfl).c 1 _ rfl
  go_wp2_with fail
  refine (l5Copy_any _ s ps.a ps.c ps.ps HF.out w0 _ (StX.later HS.out S1.out.below) HZ.out).mono ?_
  rintro e w2 ⟨bo, c, qs, rfl, hqs, hk⟩
  have HQ : Seal _ := ⟨hqs⟩
  have S2 : Seal (Pt w (w2.alloc (.cells #[.int .i64 s.last, .slice bo s.items.length c] 25)) [[Res.cells w2.heap.size [.int .i64 s.last, .slice bo s.items.length c]], itemsR bo c s.items qs, [Res.cells (w.heap.size + 1 + 1) [.int .i64 0, .slice none 0 0]], [Res.cells (w.heap.size + 1) [.string u, .string d]], [Res.cells w.heap.size (spoolKL s ps)]]) := ⟨(Pt.join S1.out hk).alloc #[.int .i64 s.last, .slice bo s.items.length c] 25⟩
  clear hk hqs S1 g0 g1
  have g0 := (S2.out.cellsM 4 rfl).c 0 _ rfl
  have g1 := (S2.out.cellsM 4 rfl).c 1 _ rfl
  have gl := (S2.out.cellsM 4 rfl).lt
  go_wp2_with fail
  refine (l5At_any s ps.a ps.c i _ (HA.out.below itemP_stays S2.out.below (Nat.le_refl _)) (by omega)).mono ?_
  rintro e w3 ⟨rfl, hb⟩
  have S3 : Seal (Pt w w3 _) := ⟨S2.out.later hb⟩
  clear hb S2 g0 g1 gl
  rcases findR_cases (idB i) s.items with hno | ⟨a, x, hat, hx, _⟩
  · have HN : Seal (lateAt s i u d now = none) := ⟨lateAt_noid hno⟩
    rw [hno]
    clear hno
    go_upto_region 5 with fail
    have S4 : Seal (Pt w w3.drew [[Res.cells (w2.heap.size) [.int .i64 s.last, .slice bo s.items.length c]], itemsR bo c s.items qs, [Res.cells (w.heap.size + 1 + 1) [.int .i64 0, .slice none 0 0]], [Res.cells (w.heap.size + 1) [.string u, .string d]], [Res.cells (w.heap.size) [.int .i64 s.last, .slice ps.a s.items.length ps.c]]]) := ⟨S3.out.drew⟩
    refine wp_region_held_drew (S := (fun w' => True)) (by kernel_rfl) trivial (fun hHeld => ?_)
    refine tkH 0 (by assumption) (h := ?_)
    refine tkH 1 (by assumption) (h := ?_)
    refine tkH 2 (by assumption) (h := ?_)
    refine tkN 3 (by assumption) (h := ?_)
    refine wpAnyH_ready (rs := [4]) (by kernel_rfl) (by simp) ?_
    refine AllReadyH.cons rfl (fun K hK => ?_) AllReadyH.nil
    go_simp
    refine hK.out _ _ (by assumption) (fun hHeld => ?_)
    clear hK K
    try simp only [Act.put, List.getElem_toArray, List.getElem_cons_succ, List.getElem_cons_zero, List.setIfInBounds_toArray, List.set_cons_zero, List.set_cons_succ]
    refine tkN 5 (by assumption) (h := ?_)
    refine tkH 6 (by assumption) (h := ?_)
    refine tkH 7 (by assumption) (h := ?_)
    refine tkN 8 (by assumption) (h := ?_)
    refine tkN 9 (by assumption) (h := ?_)
    refine tkN 10 (by assumption) (h := ?_)
    refine tkN 11 (by assumption) (h := ?_)
    refine tkN 12 (by assumption) (h := ?_)
    refine tkN 13 (by assumption) (h := ?_)
    refine wpAnyH_ready (rs := [14]) (by kernel_rfl) (by simp) ?_
    refine AllReadyH.cons rfl (fun K hK => ?_) AllReadyH.nil
    go_simp
    refine hK.out _ _ (by assumption) (fun hHeld => ?_)
    clear hK K
    try simp only [Act.put, List.getElem_toArray, List.getElem_cons_succ, List.getElem_cons_zero, List.setIfInBounds_toArray, List.set_cons_zero, List.set_cons_succ]
    refine tkN 15 (by assumption) (h := ?_)
    refine tkH 16 (by assumption) (h := ?_)
    refine wpAnyH_done (by kernel_rfl) ?_ _
    generalize w3.drew = wd at *
    have HE : Seal _ := ⟨laterR_none HO.out HN.out⟩
    have g0 := (S4.out.cellsM 0 rfl).c 0 _ rfl
    have g1 := (S4.out.cellsM 0 rfl).c 1 _ rfl
    have gl := (S4.out.cellsM 0 rfl).lt
    have r0 := (S4.out.cellsM 2 rfl).c 0 _ rfl
    have r1 := (S4.out.cellsM 2 rfl).c 1 _ rfl
    have f0 := (S4.out.cellsM 2 rfl).f 0 (by simp)
    have f1 := (S4.out.cellsM 2 rfl).f 1 (by simp)
    go_wp2
    refine bodyPost_ret (v := .tuple #[.agg #[.int .i64 s.last, .slice bo s.items.length c], .bool false]) (by simp [results, Tryd.results15, go_sem, r0, r1]) rfl ⟨⟨bo, c, qs⟩, ret_sb HE.out rfl, by rw [HE.out]; exact HQ.out, ?_⟩
    rw [HE.out]
    have s4 := ((S4.out.bring 2 rfl).set 0 (.int .i64 s.last) (by simp)).set 1 (.slice bo s.items.length c) (by simp)
    have s5 := s4.bring 2 rfl
    exact Pt.only (Pt.prefix (As := [itemsR bo c s.items qs]) (Bs := [[Res.cells (w.heap.size + 1 + 1) [.int .i64 s.last, .slice bo s.items.length c]], [Res.cells w2.heap.size [.int .i64 s.last, .slice bo s.items.length c]], [Res.cells (w.heap.size + 1) [.string u, .string d]], [Res.cells w.heap.size (spoolKL s ps)]]) s5)
  rw [hat]
  obtain ⟨p, hp⟩ : ∃ p, ps.ps[a]? = some p := ⟨_, List.getElem?_eq_getElem (by have := HF.out; have := (List.getElem?_eq_some_iff.1 hx).1; unfold spoolKF at *; omega)⟩
  have hxl := (List.getElem?_eq_some_iff.1 hx).1
  have ha0 : (0 : Int) ≤ (a : Int) := by omega
  have ha1 : (a : Int) < (s.items.length : Int) := by omega
  have ha2 : decide ((a : Int) < 0) = false := by rw [decide_eq_false_iff_not]; omega
  have HAT : Seal _ := ⟨hat⟩
  have HX : Seal _ := ⟨hx⟩
  obtain ⟨pa, pc, pps⟩ := ps
  obtain ⟨g, hga, ic0, ic1, ic2, ic3, ic4⟩ := itemCells HS.out hx hp
  dsimp only at hga
  subst hga
  have IA : Seal (RcptRow w p.a1 x.rc) := ⟨((item_read fun r hr => HS.out.get (List.mem_append_left _ (List.mem_cons_of_mem _ (itemE.mem_ress hx hp hr)))) : ItemAt w x p).rc⟩
  clear hat hx hp
  have S3' : Seal (Pt w w3 [[Res.cells (w2.heap.size) [.int .i64 s.last, .slice bo s.items.length c]], itemsR bo c s.items qs, [Res.cells (w.heap.size + 1 + 1) [.int .i64 0, .slice none 0 0]], [Res.cells (w.heap.size + 1) [.string u, .string d]], [Res.cells (w.heap.size) [.int .i64 s.last, .slice (some ⟨g, 0, none⟩) s.items.length pc]]]) := S3
  clear S3
  cases ht : inB now 0 9999
  · have HN : Seal (lateAt s i u d now = none) := ⟨lateAt_notime ht⟩
    have S3 := S3'
    clear S3'
    go_upto_region 5 with fail
    have S4 : Seal (Pt w w3.drew [[Res.cells (w2.heap.size) [.int .i64 s.last, .slice bo s.items.length c]], itemsR bo c s.items qs, [Res.cells (w.heap.size + 1 + 1) [.int .i64 0, .slice none 0 0]], [Res.cells (w.heap.size + 1) [.string u, .string d]], [Res.cells (w.heap.size) [.int .i64 s.last, .slice (some ⟨g, 0, none⟩) s.items.length pc]]]) := ⟨S3.out.drew⟩
    refine wp_region_held_drew (S := (fun w' => True)) (by kernel_rfl) trivial (fun hHeld => ?_)
    refine tkH 0 (by assumption) (h := ?_)
    refine tkH 1 (by assumption) (h := ?_)
    refine tkH 2 (by assumption) (h := ?_)
    refine tkH 3 (by assumption) (h := ?_)
    refine wpAnyH_ready (rs := [4]) (by kernel_rfl) (by simp) ?_
    refine AllReadyH.cons rfl (fun K hK => ?_) AllReadyH.nil
    try dsimp only at hHeld
    go_split_ands
    go_simp
    refine (l1In_any now 0 9999 _).mono ?_
    rintro e w4 ⟨rfl, rfl⟩
    rw [ht]
    refine hK.out _ _ trivial (fun hHeld => ?_)
    clear hK K
    try simp only [Act.put, List.getElem_toArray, List.getElem_cons_succ, List.getElem_cons_zero, List.setIfInBounds_toArray, List.set_cons_zero, List.set_cons_succ]
    refine tkH 5 (by assumption) (h := ?_)
    refine tkH 6 (by assumption) (h := ?_)
    refine tkH 7 (by assumption) (h := ?_)
    refine tkN 8 (by assumption) (h := ?_)
    refine tkN 9 (by assumption) (h := ?_)
    refine tkN 10 (by assumption) (h := ?_)
    refine tkN 11 (by assumption) (h := ?_)
    refine tkN 12 (by assumption) (h := ?_)
    refine tkN 13 (by assumption) (h := ?_)
    refine wpAnyH_ready (rs := [14]) (by kernel_rfl) (by simp) ?_
    refine AllReadyH.cons rfl (fun K hK => ?_) AllReadyH.nil
    go_simp
    refine hK.out _ _ (by assumption) (fun hHeld => ?_)
    clear hK K
    try simp only [Act.put, List.getElem_toArray, List.getElem_cons_succ, List.getElem_cons_zero, List.setIfInBounds_toArray, List.set_cons_zero, List.set_cons_succ]
    refine tkN 15 (by assumption) (h := ?_)
    refine tkH 16 (by assumption) (h := ?_)
    refine wpAnyH_done (by kernel_rfl) ?_ _
    generalize w3.drew = wd at *
    have HE : Seal _ := ⟨laterR_none HO.out HN.out⟩
    have g0 := (S4.out.cellsM 0 rfl).c 0 _ rfl
    have g1 := (S4.out.cellsM 0 rfl).c 1 _ rfl
    have gl := (S4.out.cellsM 0 rfl).lt
    have r0 := (S4.out.cellsM 2 rfl).c 0 _ rfl
    have r1 := (S4.out.cellsM 2 rfl).c 1 _ rfl
    have f0 := (S4.out.cellsM 2 rfl).f 0 (by simp)
    have f1 := (S4.out.cellsM 2 rfl).f 1 (by simp)
    go_wp2
    refine bodyPost_ret (v := .tuple #[.agg #[.int .i64 s.last, .slice bo s.items.length c], .bool false]) (by simp [results, Tryd.results15, go_sem, r0, r1]) rfl ⟨⟨bo, c, qs⟩, ret_sb HE.out rfl, by rw [HE.out]; exact HQ.out, ?_⟩
    rw [HE.out]
    have s4 := ((S4.out.bring 2 rfl).set 0 (.int .i64 s.last) (by simp)).set 1 (.slice bo s.items.length c) (by simp)
    have s5 := s4.bring 2 rfl
    exact Pt.only (Pt.prefix (As := [itemsR bo c s.items qs]) (Bs := [[Res.cells (w.heap.size + 1 + 1) [.int .i64 s.last, .slice bo s.items.length c]], [Res.cells w2.heap.size [.int .i64 s.last, .slice bo s.items.length c]], [Res.cells (w.heap.size + 1) [.string u, .string d]], [Res.cells w.heap.size [.int .i64 s.last, .slice (some ⟨g, 0, none⟩) s.items.length pc]]]) s5)
  have HT : Seal _ := ⟨ht⟩
  have S3 := S3'
  clear S3'
  have hzx : itemN x ≤ 1000 := by
    have h := HO.out
    unfold spoolB at h
    rw [Bool.and_eq_true, Bool.and_eq_true, Bool.and_eq_true, List.all_eq_true] at h
    have h1 := h.2.2.1 x (List.mem_of_getElem? HX.out)
    unfold itemB at h1
    rw [Bool.and_eq_true] at h1
    exact item_small h1.1
  have hrl : x.rc.length ≤ 1048576 := by have := (itemN_parts hzx).2.2.1; omega
  rcases findR_cases (toB1 u d) x.rc with hrn | ⟨k, r, hrk, hr, _⟩
  · have HN : Seal (lateAt s i u d now = none) := ⟨lateAt_norc HAT.out HX.out hrn⟩
    go_upto_region 5 with fail
    have S4 : Seal (Pt w w3.drew [[Res.cells (w2.heap.size) [.int .i64 s.last, .slice bo s.items.length c]], itemsR bo c s.items qs, [Res.cells (w.heap.size + 1 + 1) [.int .i64 0, .slice none 0 0]], [Res.cells (w.heap.size + 1) [.string u, .string d]], [Res.cells (w.heap.size) [.int .i64 s.last, .slice (some ⟨g, 0, none⟩) s.items.length pc]]]) := ⟨S3.out.drew⟩
    refine wp_region_held_drew (S := (fun w' => w'.cell? ⟨w.heap.size, 1, none⟩ = some (.slice (some ⟨g, 0, none⟩) s.items.length pc) ∧ w'.cell? ⟨g, a * 5, none⟩ = some (.int .i64 x.id) ∧ w'.cell? ⟨g, a * 5 + 1, none⟩ = some (.string x.fu) ∧ w'.cell? ⟨g, a * 5 + 2, none⟩ = some (.string x.fd) ∧ w'.cell? ⟨g, a * 5 + 3, none⟩ = some (.slice p.a1 x.rc.length p.c1) ∧ w'.cell? ⟨g, a * 5 + 4, none⟩ = some (.slice p.a2 x.body.length p.c2) ∧ w'.cell? ⟨w.heap.size + 1, 0, none⟩ = some (.string u) ∧ w'.cell? ⟨w.heap.size + 1, 1, none⟩ = some (.string d))) (by kernel_rfl) ⟨(S4.out.cellsM 4 rfl).c 1 _ rfl, (heldc ic0 S4.out.below), (heldc ic1 S4.out.below), (heldc ic2 S4.out.below), (heldc ic3 S4.out.below), (heldc ic4 S4.out.below), (S4.out.cellsM 3 rfl).c 0 _ rfl, (S4.out.cellsM 3 rfl).c 1 _ rfl⟩ (fun hHeld => ?_)
    refine tkH 0 (by assumption) (h := ?_)
    refine tkH 1 (by assumption) (h := ?_)
    refine tkH 2 (by assumption) (h := ?_)
    refine tkH 3 (by assumption) (h := ?_)
    refine wpAnyH_ready (rs := [4]) (by kernel_rfl) (by simp) ?_
    refine AllReadyH.cons rfl (fun K hK => ?_) AllReadyH.nil
    try dsimp only at hHeld
    go_split_ands
    go_simp
    refine (l1In_any now 0 9999 _).mono ?_
    rintro e w4 ⟨rfl, rfl⟩
    rw [ht]
    refine hK.out _ _ ⟨(S4.out.cellsM 4 rfl).c 1 _ rfl, (heldc ic0 S4.out.below), (heldc ic1 S4.out.below), (heldc ic2 S4.out.below), (heldc ic3 S4.out.below), (heldc ic4 S4.out.below), (S4.out.cellsM 3 rfl).c 0 _ rfl, (S4.out.cellsM 3 rfl).c 1 _ rfl⟩ (fun hHeld => ?_)
    clear hK K
    try simp only [Act.put, List.getElem_toArray, List.getElem_cons_succ, List.getElem_cons_zero, List.setIfInBounds_toArray, List.set_cons_zero, List.set_cons_succ]
    refine tkH 5 (by assumption) (h := ?_)
    refine tkH 6 (by assumption) (h := ?_)
    refine tkH 7 (by assumption) (h := ?_)
    refine tkH 8 (by assumption) (h := ?_)
    refine tkH 9 (by assumption) (h := ?_)
    refine tkH 10 (by assumption) (h := ?_)
    refine tkH 11 (by assumption) (h := ?_)
    refine tkH 12 (by assumption) (h := ?_)
    refine tkH 13 (by assumption) (h := ?_)
    refine wpAnyH_ready (rs := [14]) (by kernel_rfl) (by simp) ?_
    refine AllReadyH.cons rfl (fun K hK => ?_) AllReadyH.nil
    try dsimp only at hHeld
    go_split_ands
    go_simp
    refine (l5Rcpt_any x p u d _ (IA.out.below rcptP_stays S4.out.below (Nat.le_refl _)) hrl).mono ?_
    rintro e w5 ⟨rfl, hb5⟩
    rw [hrn]
    have S5 : Seal (Pt w w5 [[Res.cells (w2.heap.size) [.int .i64 s.last, .slice bo s.items.length c]], itemsR bo c s.items qs, [Res.cells (w.heap.size + 1 + 1) [.int .i64 0, .slice none 0 0]], [Res.cells (w.heap.size + 1) [.string u, .string d]], [Res.cells (w.heap.size) [.int .i64 s.last, .slice (some ⟨g, 0, none⟩) s.items.length pc]]]) := ⟨S4.out.later hb5⟩
    clear hb5
    refine hK.out _ _ ⟨(S5.out.cellsM 4 rfl).c 1 _ rfl, (heldc ic0 S5.out.below), (heldc ic1 S5.out.below), (heldc ic2 S5.out.below), (heldc ic3 S5.out.below), (heldc ic4 S5.out.below), (S5.out.cellsM 3 rfl).c 0 _ rfl, (S5.out.cellsM 3 rfl).c 1 _ rfl⟩ (fun hHeld => ?_)
    clear hK K
    try simp only [Act.put, List.getElem_toArray, List.getElem_cons_succ, List.getElem_cons_zero, List.setIfInBounds_toArray, List.set_cons_zero, List.set_cons_succ]
    refine tkH 15 (by assumption) (h := ?_)
    refine tkH 16 (by assumption) (h := ?_)
    refine wpAnyH_done (by kernel_rfl) ?_ _
    have HE : Seal _ := ⟨laterR_none HO.out HN.out⟩
    have g0 := (S5.out.cellsM 0 rfl).c 0 _ rfl
    have g1 := (S5.out.cellsM 0 rfl).c 1 _ rfl
    have gl := (S5.out.cellsM 0 rfl).lt
    have r0 := (S5.out.cellsM 2 rfl).c 0 _ rfl
    have r1 := (S5.out.cellsM 2 rfl).c 1 _ rfl
    have f0 := (S5.out.cellsM 2 rfl).f 0 (by simp)
    have f1 := (S5.out.cellsM 2 rfl).f 1 (by simp)
    go_wp2
    refine bodyPost_ret (v := .tuple #[.agg #[.int .i64 s.last, .slice bo s.items.length c], .bool false]) (by simp [results, Tryd.results15, go_sem, r0, r1]) rfl ⟨⟨bo, c, qs⟩, ret_sb HE.out rfl, by rw [HE.out]; exact HQ.out, ?_⟩
    rw [HE.out]
    have s4 := ((S5.out.bring 2 rfl).set 0 (.int .i64 s.last) (by simp)).set 1 (.slice bo s.items.length c) (by simp)
    have s5 := s4.bring 2 rfl
    exact Pt.only (Pt.prefix (As := [itemsR bo c s.items qs]) (Bs := [[Res.cells (w.heap.size + 1 + 1) [.int .i64 s.last, .slice bo s.items.length c]], [Res.cells w2.heap.size [.int .i64 s.last, .slice bo s.items.length c]], [Res.cells (w.heap.size + 1) [.string u, .string d]], [Res.cells w.heap.size [.int .i64 s.last, .slice (some ⟨g, 0, none⟩) s.items.length pc]]]) s5)
  have hk0 : (0 : Int) ≤ (k : Int) := by omega
  have hk1 : decide ((k : Int) < 0) = false := by rw [decide_eq_false_iff_not]; omega
  obtain ⟨t0, t3, _⟩ := spool_rcpt HO.out HX.out hr
  have HR : Seal _ := ⟨hr⟩
  have HRK : Seal _ := ⟨hrk⟩
  have hnow : 0 ≤ now ∧ now ≤ 9999 := by have h := HT.out; unfold inB at h; rw [decide_eq_true_eq] at h; exact h
  obtain ⟨D, hD⟩ : ∃ D, laterR s i u d now = D := ⟨_, rfl⟩
  have HD : Seal _ := ⟨hD⟩
  have hla : lateAt s i u d now = if timeB now && mayLate r now then some (a, x, k, r) else none := lateAt_at HAT.out HX.out hrk hr
  have CL : Seal (∀ W Ls, Pt w W (itemsR bo c s.items qs :: Ls) → Calls Tryd.prog 47 #[.agg (spoolV s bo c), .int .i64 a, .int .i64 k, .int .i64 now] W fun e w' => ∃ b2 c2 q2, e = .returned (.tuple #[.agg #[.int .i64 s.last, .slice b2 s.items.length c2], .bool D.2]) ∧ q2.length = s.items.length ∧ D.1.last = s.last ∧ D.1.items.length = s.items.length ∧ Pt w w' (itemsR b2 c2 D.1.items q2 :: Ls)) := ⟨fun W Ls hW => by
    cases hml : mayLate r now with
    | false =>
      have e1 : D = (s, false) := by rw [← HD.out]; exact laterR_none HO.out (by rw [hla, hml, Bool.and_false]; rfl)
      refine (l5Later_no Ls.flatten s bo c qs HQ.out a k x r HX.out HR.out now w W hW (by omega) t0 t3 hnow.1 hnow.2 hml).mono ?_
      rintro e w' ⟨rfl, hk⟩
      rw [e1]
      exact ⟨bo, c, qs, rfl, HQ.out, rfl, rfl, hk⟩
    | true =>
      have e1 : D = (lateD s a (lateI x k r now), true) := by rw [← HD.out]; exact laterR_some HO.out (by rw [hla, hml]; unfold timeB; rw [HT.out]; rfl)
      refine (l5Later_yes Ls.flatten s bo c qs HQ.out (by omega) a k x r HX.out HR.out now w W hW (by omega) t0 t3 hnow.1 hnow.2 hml).mono ?_
      rintro e w' ⟨b2, c2, q, rfl, hk⟩
      rw [e1]
      exact ⟨b2, c2, qs.set a q, rfl, by rw [List.length_set]; exact HQ.out, rfl, lateD_len _ _ _, hk⟩⟩
  clear hD hla hr
  go_upto_region 5 with fail
  have S4 : Seal (Pt w w3.drew [[Res.cells (w2.heap.size) [.int .i64 s.last, .slice bo s.items.length c]], itemsR bo c s.items qs, [Res.cells (w.heap.size + 1 + 1) [.int .i64 0, .slice none 0 0]], [Res.cells (w.heap.size + 1) [.string u, .string d]], [Res.cells (w.heap.size) [.int .i64 s.last, .slice (some ⟨g, 0, none⟩) s.items.length pc]]]) := ⟨S3.out.drew⟩
  refine wp_region_held_drew (S := (fun w' => w'.cell? ⟨w.heap.size, 1, none⟩ = some (.slice (some ⟨g, 0, none⟩) s.items.length pc) ∧ w'.cell? ⟨g, a * 5, none⟩ = some (.int .i64 x.id) ∧ w'.cell? ⟨g, a * 5 + 1, none⟩ = some (.string x.fu) ∧ w'.cell? ⟨g, a * 5 + 2, none⟩ = some (.string x.fd) ∧ w'.cell? ⟨g, a * 5 + 3, none⟩ = some (.slice p.a1 x.rc.length p.c1) ∧ w'.cell? ⟨g, a * 5 + 4, none⟩ = some (.slice p.a2 x.body.length p.c2) ∧ w'.cell? ⟨w.heap.size + 1, 0, none⟩ = some (.string u) ∧ w'.cell? ⟨w.heap.size + 1, 1, none⟩ = some (.string d))) (by kernel_rfl) ⟨(S4.out.cellsM 4 rfl).c 1 _ rfl, (heldc ic0 S4.out.below), (heldc ic1 S4.out.below), (heldc ic2 S4.out.below), (heldc ic3 S4.out.below), (heldc ic4 S4.out.below), (S4.out.cellsM 3 rfl).c 0 _ rfl, (S4.out.cellsM 3 rfl).c 1 _ rfl⟩ (fun hHeld => ?_)
  refine tkH 0 (by assumption) (h := ?_)
  refine tkH 1 (by assumption) (h := ?_)
  refine tkH 2 (by assumption) (h := ?_)
  refine tkH 3 (by assumption) (h := ?_)
  refine wpAnyH_ready (rs := [4]) (by kernel_rfl) (by simp) ?_
  refine AllReadyH.cons rfl (fun K hK => ?_) AllReadyH.nil
  try dsimp only at hHeld
  go_split_ands
  go_simp
  refine (l1In_any now 0 9999 _).mono ?_
  rintro e w4 ⟨rfl, rfl⟩
  rw [ht]
  refine hK.out _ _ ⟨(S4.out.cellsM 4 rfl).c 1 _ rfl, (heldc ic0 S4.out.below), (heldc ic1 S4.out.below), (heldc ic2 S4.out.below), (heldc ic3 S4.out.below), (heldc ic4 S4.out.below), (S4.out.cellsM 3 rfl).c 0 _ rfl, (S4.out.cellsM 3 rfl).c 1 _ rfl⟩ (fun hHeld => ?_)
  clear hK K
  try simp only [Act.put, List.getElem_toArray, List.getElem_cons_succ, List.getElem_cons_zero, List.setIfInBounds_toArray, List.set_cons_zero, List.set_cons_succ]
  refine tkH 5 (by assumption) (h := ?_)
  refine tkH 6 (by assumption) (h := ?_)
  refine tkH 7 (by assumption) (h := ?_)
  refine tkH 8 (by assumption) (h := ?_)
  refine tkH 9 (by assumption) (h := ?_)
  refine tkH 10 (by assumption) (h := ?_)
  refine tkH 11 (by assumption) (h := ?_)
  refine tkH 12 (by assumption) (h := ?_)
  refine tkH 13 (by assumption) (h := ?_)
  refine wpAnyH_ready (rs := [14]) (by kernel_rfl) (by simp) ?_
  refine AllReadyH.cons rfl (fun K hK => ?_) AllReadyH.nil
  try dsimp only at hHeld
  go_split_ands
  go_simp
  refine (l5Rcpt_any x p u d _ (IA.out.below rcptP_stays S4.out.below (Nat.le_refl _)) hrl).mono ?_
  rintro e w5 ⟨rfl, hb5⟩
  rw [hrk]
  have S5 : Seal (Pt w w5 [[Res.cells (w2.heap.size) [.int .i64 s.last, .slice bo s.items.length c]], itemsR bo c s.items qs, [Res.cells (w.heap.size + 1 + 1) [.int .i64 0, .slice none 0 0]], [Res.cells (w.heap.size + 1) [.string u, .string d]], [Res.cells (w.heap.size) [.int .i64 s.last, .slice (some ⟨g, 0, none⟩) s.items.length pc]]]) := ⟨S4.out.later hb5⟩
  clear hb5
  refine hK.out _ _ ⟨(S5.out.cellsM 4 rfl).c 1 _ rfl, (heldc ic0 S5.out.below), (heldc ic1 S5.out.below), (heldc ic2 S5.out.below), (heldc ic3 S5.out.below), (heldc ic4 S5.out.below), (S5.out.cellsM 3 rfl).c 0 _ rfl, (S5.out.cellsM 3 rfl).c 1 _ rfl⟩ (fun hHeld => ?_)
  clear hK K
  try simp only [Act.put, List.getElem_toArray, List.getElem_cons_succ, List.getElem_cons_zero, List.setIfInBounds_toArray, List.set_cons_zero, List.set_cons_succ]
  refine tkH 15 (by assumption) (h := ?_)
  refine tkH 16 (by assumption) (h := ?_)
  refine wpAnyH_done (by kernel_rfl) ?_ _
  skip
  go_upto_region 7 with fail
  go_cut [12, 13] (fun s12 s13 wx => ∃ (kb : Nat) (b2 : Option Addr) (c2 : Nat) (q2 : List ItemV), s12 = .pointer (some ⟨kb, 0, none⟩) ∧ s13 = .bool D.2 ∧ q2.length = s.items.length ∧ D.1.last = s.last ∧ D.1.items.length = s.items.length ∧ Pt w wx [[Res.cells kb [.int .i64 s.last, .slice b2 s.items.length c2]], itemsR b2 c2 D.1.items q2, [Res.cells (w.heap.size + 1 + 1) [.int .i64 0, .slice none 0 0]], [Res.cells (w.heap.size + 1) [.string u, .string d]], [Res.cells (w.heap.size) [.int .i64 s.last, .slice (some ⟨g, 0, none⟩) s.items.length pc]], [Res.cells (w2.heap.size) [.int .i64 s.last, .slice bo s.items.length c]]])
  case first =>
    have S6 : Seal (Pt w w5.drew [[Res.cells (w2.heap.size) [.int .i64 s.last, .slice bo s.items.length c]], itemsR bo c s.items qs, [Res.cells (w.heap.size + 1 + 1) [.int .i64 0, .slice none 0 0]], [Res.cells (w.heap.size + 1) [.string u, .string d]], [Res.cells (w.heap.size) [.int .i64 s.last, .slice (some ⟨g, 0, none⟩) s.items.length pc]]]) := ⟨S5.out.drew⟩
    refine wp_region_held_drew (S := (fun w' => w'.cell? ⟨w2.heap.size, 0, none⟩ = some (.int .i64 s.last) ∧ w'.cell? ⟨w2.heap.size, 1, none⟩ = some (.slice bo s.items.length c) ∧ w'.cell? ⟨w.heap.size, 1, none⟩ = some (.slice (some ⟨g, 0, none⟩) s.items.length pc) ∧ w'.cell? ⟨g, a * 5, none⟩ = some (.int .i64 x.id) ∧ w'.cell? ⟨g, a * 5 + 1, none⟩ = some (.string x.fu) ∧ w'.cell? ⟨g, a * 5 + 2, none⟩ = some (.string x.fd) ∧ w'.cell? ⟨g, a * 5 + 3, none⟩ = some (.slice p.a1 x.rc.length p.c1) ∧ w'.cell? ⟨g, a * 5 + 4, none⟩ = some (.slice p.a2 x.body.length p.c2) ∧ w'.cell? ⟨w.heap.size + 1, 0, none⟩ = some (.string u) ∧ w'.cell? ⟨w.heap.size + 1, 1, none⟩ = some (.string d))) (by kernel_rfl) ⟨(S6.out.cellsM 0 rfl).c 0 _ rfl, (S6.out.cellsM 0 rfl).c 1 _ rfl, (S6.out.cellsM 4 rfl).c 1 _ rfl, (heldc ic0 S6.out.below), (heldc ic1 S6.out.below), (heldc ic2 S6.out.below), (heldc ic3 S6.out.below), (heldc ic4 S6.out.below), (S6.out.cellsM 3 rfl).c 0 _ rfl, (S6.out.cellsM 3 rfl).c 1 _ rfl⟩ (fun hHeld => ?_)
    refine tkH 0 (by assumption) (h := ?_)
    refine tkH 1 (by assumption) (h := ?_)
    refine tkH 2 (by assumption) (h := ?_)
    refine tkH 3 (by assumption) (h := ?_)
    refine tkH 4 (by assumption) (h := ?_)
    refine tkH 5 (by assumption) (h := ?_)
    refine tkH 6 (by assumption) (h := ?_)
    refine tkH 7 (by assumption) (h := ?_)
    refine tkH 9 (by assumption) (h := ?_)
    refine wpAnyH_ready (rs := [8, 14]) (by kernel_rfl) (by simp) ?_
    refine AllReadyH.cons rfl (fun K hK => ?_) (AllReadyH.cons rfl (fun K hK => ?_) AllReadyH.nil)
    · try dsimp only at hHeld
      go_split_ands
      go_simp
      refine (l5Rcpt_any x p u d _ (IA.out.below rcptP_stays S6.out.below (Nat.le_refl _)) hrl).mono ?_
      rintro e w6 ⟨rfl, hb6⟩
      rw [HRK.out]
      have S7 : Seal (Pt w w6 [[Res.cells (w2.heap.size) [.int .i64 s.last, .slice bo s.items.length c]], itemsR bo c s.items qs, [Res.cells (w.heap.size + 1 + 1) [.int .i64 0, .slice none 0 0]], [Res.cells (w.heap.size + 1) [.string u, .string d]], [Res.cells (w.heap.size) [.int .i64 s.last, .slice (some ⟨g, 0, none⟩) s.items.length pc]]]) := ⟨S6.out.later hb6⟩
      clear hb6
      refine hK.out _ _ ⟨(S7.out.cellsM 0 rfl).c 0 _ rfl, (S7.out.cellsM 0 rfl).c 1 _ rfl, (S7.out.cellsM 4 rfl).c 1 _ rfl, (heldc ic0 S7.out.below), (heldc ic1 S7.out.below), (heldc ic2 S7.out.below), (heldc ic3 S7.out.below), (heldc ic4 S7.out.below), (S7.out.cellsM 3 rfl).c 0 _ rfl, (S7.out.cellsM 3 rfl).c 1 _ rfl⟩ (fun hHeld => ?_)
      clear hK K
      try simp only [Act.put, List.getElem_toArray, List.getElem_cons_succ, List.getElem_cons_zero, List.setIfInBounds_toArray, List.set_cons_zero, List.set_cons_succ]
      refine wpAnyH_ready (rs := [10, 14]) (by kernel_rfl) (by simp) ?_
      refine AllReadyH.cons rfl (fun K hK => ?_) (AllReadyH.cons rfl (fun K hK => ?_) AllReadyH.nil)
      · try dsimp only at hHeld
        go_split_ands
        go_simp
        refine (CL.out _ _ (S7.out.bring 1 rfl)).mono ?_
        rintro e w7 ⟨b2, c2, q2, rfl, hq2, hd1, hd2, hk⟩
        have S8 : Seal (Pt w w7 [itemsR b2 c2 D.1.items q2, [Res.cells (w2.heap.size) [.int .i64 s.last, .slice bo s.items.length c]], [Res.cells (w.heap.size + 1 + 1) [.int .i64 0, .slice none 0 0]], [Res.cells (w.heap.size + 1) [.string u, .string d]], [Res.cells (w.heap.size) [.int .i64 s.last, .slice (some ⟨g, 0, none⟩) s.items.length pc]]]) := ⟨hk⟩
        clear hk
        refine hK.out _ _ ⟨(S8.out.cellsM 1 rfl).c 0 _ rfl, (S8.out.cellsM 1 rfl).c 1 _ rfl, (S8.out.cellsM 4 rfl).c 1 _ rfl, (heldc ic0 S8.out.below), (heldc ic1 S8.out.below), (heldc ic2 S8.out.below), (heldc ic3 S8.out.below), (heldc ic4 S8.out.below), (S8.out.cellsM 3 rfl).c 0 _ rfl, (S8.out.cellsM 3 rfl).c 1 _ rfl⟩ (fun hHeld => ?_)
        clear hK K
        try simp only [Act.put, List.getElem_toArray, List.getElem_cons_succ, List.getElem_cons_zero, List.setIfInBounds_toArray, List.set_cons_zero, List.set_cons_succ]
        refine tkH 11 (by assumption) (h := ?_)
        refine tkH 12 (by assumption) (h := ?_)
        refine tkH 13 (by assumption) (h := ?_)
        refine wpAnyH_ready (rs := [14]) (by kernel_rfl) (by simp) ?_
        refine AllReadyH.cons rfl (fun K hK => ?_) AllReadyH.nil
        have S9 : Seal (Pt w (w7.alloc (.cells #[.int .i64 0, .slice none 0 0] 25)) [[Res.cells (w7.heap.size) [.int .i64 0, .slice none 0 0]], itemsR b2 c2 D.1.items q2, [Res.cells (w2.heap.size) [.int .i64 s.last, .slice bo s.items.length c]], [Res.cells (w.heap.size + 1 + 1) [.int .i64 0, .slice none 0 0]], [Res.cells (w.heap.size + 1) [.string u, .string d]], [Res.cells (w.heap.size) [.int .i64 s.last, .slice (some ⟨g, 0, none⟩) s.items.length pc]]]) := ⟨S8.out.alloc #[.int .i64 0, .slice none 0 0] 25⟩
        go_simp
        refine hK.out _ _ ⟨(S9.out.cellsM 2 rfl).c 0 _ rfl, (S9.out.cellsM 2 rfl).c 1 _ rfl, (S9.out.cellsM 5 rfl).c 1 _ rfl, (heldc ic0 S9.out.below), (heldc ic1 S9.out.below), (heldc ic2 S9.out.below), (heldc ic3 S9.out.below), (heldc ic4 S9.out.below), (S9.out.cellsM 4 rfl).c 0 _ rfl, (S9.out.cellsM 4 rfl).c 1 _ rfl⟩ (fun hHeld => ?_)
        clear hK K
        try simp only [Act.put, List.getElem_toArray, List.getElem_cons_succ, List.getElem_cons_zero, List.setIfInBounds_toArray, List.set_cons_zero, List.set_cons_succ]
        refine wpAnyH_ready (rs := [15]) (by kernel_rfl) (by simp) ?_
        refine AllReadyH.cons rfl (fun K hK => ?_) AllReadyH.nil
        have S10 : Seal (Pt w (w7.alloc (.cells #[.int .i64 s.last, .slice b2 s.items.length c2] 25)) [[Res.cells (w7.heap.size) [.int .i64 s.last, .slice b2 s.items.length c2]], itemsR b2 c2 D.1.items q2, [Res.cells (w2.heap.size) [.int .i64 s.last, .slice bo s.items.length c]], [Res.cells (w.heap.size + 1 + 1) [.int .i64 0, .slice none 0 0]], [Res.cells (w.heap.size + 1) [.string u, .string d]], [Res.cells (w.heap.size) [.int .i64 s.last, .slice (some ⟨g, 0, none⟩) s.items.length pc]]]) := ⟨S8.out.alloc #[.int .i64 s.last, .slice b2 s.items.length c2] 25⟩
        go_simp
        refine hK.out _ _ ⟨(S10.out.cellsM 2 rfl).c 0 _ rfl, (S10.out.cellsM 2 rfl).c 1 _ rfl, (S10.out.cellsM 5 rfl).c 1 _ rfl, (heldc ic0 S10.out.below), (heldc ic1 S10.out.below), (heldc ic2 S10.out.below), (heldc ic3 S10.out.below), (heldc ic4 S10.out.below), (S10.out.cellsM 4 rfl).c 0 _ rfl, (S10.out.cellsM 4 rfl).c 1 _ rfl⟩ (fun hHeld => ?_)
        clear hK K
        try simp only [Act.put, List.getElem_toArray, List.getElem_cons_succ, List.getElem_cons_zero, List.setIfInBounds_toArray, List.set_cons_zero, List.set_cons_succ]
        refine wpAnyH_ready (rs := [16]) (by kernel_rfl) (by simp) ?_
        refine AllReadyH.cons rfl (fun K hK => ?_) AllReadyH.nil
        go_simp
        refine hK.out _ _ (by assumption) (fun hHeld => ?_)
        clear hK K
        try simp only [Act.put, List.getElem_toArray, List.getElem_cons_succ, List.getElem_cons_zero, List.setIfInBounds_toArray, List.set_cons_zero, List.set_cons_succ]
        refine wpAnyH_done (by kernel_rfl) ?_ _
        go_wp2_with fail
        go_meet
        exact ⟨w7.heap.size, b2, c2, q2, rfl, rfl, hq2, hd1, hd2, (Pt.bring ((Pt.bring ((Pt.bring ((Pt.bring ((Pt.bring ((Pt.bring (S10.out) 2 rfl)) 5 rfl)) 5 rfl)) 5 rfl)) 5 rfl)) 5 rfl)⟩
      · have S8 : Seal (Pt w (w6.alloc (.cells #[.int .i64 0, .slice none 0 0] 25)) [[Res.cells (w6.heap.size) [.int .i64 0, .slice none 0 0]], [Res.cells (w2.heap.size) [.int .i64 s.last, .slice bo s.items.length c]], itemsR bo c s.items qs, [Res.cells (w.heap.size + 1 + 1) [.int .i64 0, .slice none 0 0]], [Res.cells (w.heap.size + 1) [.string u, .string d]], [Res.cells (w.heap.size) [.int .i64 s.last, .slice (some ⟨g, 0, none⟩) s.items.length pc]]]) := ⟨S7.out.alloc #[.int .i64 0, .slice none 0 0] 25⟩
        go_simp
        refine hK.out _ _ ⟨(S8.out.cellsM 1 rfl).c 0 _ rfl, (S8.out.cellsM 1 rfl).c 1 _ rfl, (S8.out.cellsM 5 rfl).c 1 _ rfl, (heldc ic0 S8.out.below), (heldc ic1 S8.out.below), (heldc ic2 S8.out.below), (heldc ic3 S8.out.below), (heldc ic4 S8.out.below), (S8.out.cellsM 4 rfl).c 0 _ rfl, (S8.out.cellsM 4 rfl).c 1 _ rfl⟩ (fun hHeld => ?_)
        clear hK K
        try simp only [Act.put, List.getElem_toArray, List.getElem_cons_succ, List.getElem_cons_zero, List.setIfInBounds_toArray, List.set_cons_zero, List.set_cons_succ]
        refine wpAnyH_ready (rs := [10]) (by kernel_rfl) (by simp) ?_
        refine AllReadyH.cons rfl (fun K hK => ?_) AllReadyH.nil
        try dsimp only at hHeld
        go_split_ands
        go_simp
        refine (CL.out _ _ (S8.out.bring 2 rfl)).mono ?_
        rintro e w7 ⟨b2, c2, q2, rfl, hq2, hd1, hd2, hk⟩
        have S9 : Seal (Pt w w7 [itemsR b2 c2 D.1.items q2, [Res.cells (w6.heap.size) [.int .i64 0, .slice none 0 0]], [Res.cells (w2.heap.size) [.int .i64 s.last, .slice bo s.items.length c]], [Res.cells (w.heap.size + 1 + 1) [.int .i64 0, .slice none 0 0]], [Res.cells (w.heap.size + 1) [.string u, .string d]], [Res.cells (w.heap.size) [.int .i64 s.last, .slice (some ⟨g, 0, none⟩) s.items.length pc]]]) := ⟨hk⟩
        clear hk
        refine hK.out _ _ ⟨(S9.out.cellsM 2 rfl).c 0 _ rfl, (S9.out.cellsM 2 rfl).c 1 _ rfl, (S9.out.cellsM 5 rfl).c 1 _ rfl, (heldc ic0 S9.out.below), (heldc ic1 S9.out.below), (heldc ic2 S9.out.below), (heldc ic3 S9.out.below), (heldc ic4 S9.out.below), (S9.out.cellsM 4 rfl).c 0 _ rfl, (S9.out.cellsM 4 rfl).c 1 _ rfl⟩ (fun hHeld => ?_)
        clear hK K
        try simp only [Act.put, List.getElem_toArray, List.getElem_cons_succ, List.getElem_cons_zero, List.setIfInBounds_toArray, List.set_cons_zero, List.set_cons_succ]
        refine tkH 11 (by assumption) (h := ?_)
        refine tkH 12 (by assumption) (h := ?_)
        refine tkH 13 (by assumption) (h := ?_)
        refine wpAnyH_ready (rs := [15]) (by kernel_rfl) (by simp) ?_
        refine AllReadyH.cons rfl (fun K hK => ?_) AllReadyH.nil
        have S10 : Seal (Pt w w7 [[Res.cells (w6.heap.size) [.int .i64 0, .slice none 0 0]], itemsR b2 c2 D.1.items q2, [Res.cells (w2.heap.size) [.int .i64 s.last, .slice bo s.items.length c]], [Res.cells (w.heap.size + 1 + 1) [.int .i64 0, .slice none 0 0]], [Res.cells (w.heap.size + 1) [.string u, .string d]], [Res.cells (w.heap.size) [.int .i64 s.last, .slice (some ⟨g, 0, none⟩) s.items.length pc]]]) := ⟨S9.out.bring 1 rfl⟩
        have oc0 := (S10.out.cellsM 0 rfl).c 0 _ rfl
        have of0 := (S10.out.cellsM 0 rfl).f 0 (by simp)
        have oc1 := (S10.out.cellsM 0 rfl).c 1 _ rfl
        have of1 := (S10.out.cellsM 0 rfl).f 1 (by simp)
        have S11 : Seal (Pt w ((w7.setCell ⟨w6.heap.size, 0, none⟩ (.int .i64 s.last)).setCell ⟨w6.heap.size, 1, none⟩ (.slice b2 s.items.length c2)) [[Res.cells (w6.heap.size) [.int .i64 s.last, .slice b2 s.items.length c2]], itemsR b2 c2 D.1.items q2, [Res.cells (w2.heap.size) [.int .i64 s.last, .slice bo s.items.length c]], [Res.cells (w.heap.size + 1 + 1) [.int .i64 0, .slice none 0 0]], [Res.cells (w.heap.size + 1) [.string u, .string d]], [Res.cells (w.heap.size) [.int .i64 s.last, .slice (some ⟨g, 0, none⟩) s.items.length pc]]]) := ⟨((S10.out).set 0 (.int .i64 s.last) (by simp)).set 1 (.slice b2 s.items.length c2) (by simp)⟩
        go_simp
        refine hK.out _ _ ⟨(S11.out.cellsM 2 rfl).c 0 _ rfl, (S11.out.cellsM 2 rfl).c 1 _ rfl, (S11.out.cellsM 5 rfl).c 1 _ rfl, (heldc ic0 S11.out.below), (heldc ic1 S11.out.below), (heldc ic2 S11.out.below), (heldc ic3 S11.out.below), (heldc ic4 S11.out.below), (S11.out.cellsM 4 rfl).c 0 _ rfl, (S11.out.cellsM 4 rfl).c 1 _ rfl⟩ (fun hHeld => ?_)
        clear hK K
        try simp only [Act.put, List.getElem_toArray, List.getElem_cons_succ, List.getElem_cons_zero, List.setIfInBounds_toArray, List.set_cons_zero, List.set_cons_succ]
        clear oc0 of0 oc1 of1
        refine wpAnyH_ready (rs := [16]) (by kernel_rfl) (by simp) ?_
        refine AllReadyH.cons rfl (fun K hK => ?_) AllReadyH.nil
        go_simp
        refine hK.out _ _ (by assumption) (fun hHeld => ?_)
        clear hK K
        try simp only [Act.put, List.getElem_toArray, List.getElem_cons_succ, List.getElem_cons_zero, List.setIfInBounds_toArray, List.set_cons_zero, List.set_cons_succ]
        refine wpAnyH_done (by kernel_rfl) ?_ _
        go_wp2_with fail
        go_meet
        exact ⟨w6.heap.size, b2, c2, q2, rfl, rfl, hq2, hd1, hd2, (Pt.bring ((Pt.bring ((Pt.bring ((Pt.bring ((Pt.bring ((Pt.bring (S11.out) 2 rfl)) 5 rfl)) 5 rfl)) 5 rfl)) 5 rfl)) 5 rfl)⟩
    · have S7 : Seal (Pt w (w5.alloc (.cells #[.int .i64 0, .slice none 0 0] 25)).drew [[Res.cells (w5.heap.size) [.int .i64 0, .slice none 0 0]], [Res.cells (w2.heap.size) [.int .i64 s.last, .slice bo s.items.length c]], itemsR bo c s.items qs, [Res.cells (w.heap.size + 1 + 1) [.int .i64 0, .slice none 0 0]], [Res.cells (w.heap.size + 1) [.string u, .string d]], [Res.cells (w.heap.size) [.int .i64 s.last, .slice (some ⟨g, 0, none⟩) s.items.length pc]]]) := ⟨S6.out.alloc #[.int .i64 0, .slice none 0 0] 25⟩
      go_simp
      refine hK.out _ _ ⟨(S7.out.cellsM 1 rfl).c 0 _ rfl, (S7.out.cellsM 1 rfl).c 1 _ rfl, (S7.out.cellsM 5 rfl).c 1 _ rfl, (heldc ic0 S7.out.below), (heldc ic1 S7.out.below), (heldc ic2 S7.out.below), (heldc ic3 S7.out.below), (heldc ic4 S7.out.below), (S7.out.cellsM 4 rfl).c 0 _ rfl, (S7.out.cellsM 4 rfl).c 1 _ rfl⟩ (fun hHeld => ?_)
      clear hK K
      try simp only [Act.put, List.getElem_toArray, List.getElem_cons_succ, List.getElem_cons_zero, List.setIfInBounds_toArray, List.set_cons_zero, List.set_cons_succ]
      refine wpAnyH_ready (rs := [8]) (by kernel_rfl) (by simp) ?_
      refine AllReadyH.cons rfl (fun K hK => ?_) AllReadyH.nil
      try dsimp only at hHeld
      go_split_ands
      go_simp
      refine (l5Rcpt_any x p u d _ (IA.out.below rcptP_stays S7.out.below (Nat.le_refl _)) hrl).mono ?_
      rintro e w6 ⟨rfl, hb6⟩
      rw [HRK.out]
      have S8 : Seal (Pt w w6 [[Res.cells (w5.heap.size) [.int .i64 0, .slice none 0 0]], [Res.cells (w2.heap.size) [.int .i64 s.last, .slice bo s.items.length c]], itemsR bo c s.items qs, [Res.cells (w.heap.size + 1 + 1) [.int .i64 0, .slice none 0 0]], [Res.cells (w.heap.size + 1) [.string u, .string d]], [Res.cells (w.heap.size) [.int .i64 s.last, .slice (some ⟨g, 0, none⟩) s.items.length pc]]]) := ⟨S7.out.later hb6⟩
      clear hb6
      refine hK.out _ _ ⟨(S8.out.cellsM 1 rfl).c 0 _ rfl, (S8.out.cellsM 1 rfl).c 1 _ rfl, (S8.out.cellsM 5 rfl).c 1 _ rfl, (heldc ic0 S8.out.below), (heldc ic1 S8.out.below), (heldc ic2 S8.out.below), (heldc ic3 S8.out.below), (heldc ic4 S8.out.below), (S8.out.cellsM 4 rfl).c 0 _ rfl, (S8.out.cellsM 4 rfl).c 1 _ rfl⟩ (fun hHeld => ?_)
      clear hK K
      try simp only [Act.put, List.getElem_toArray, List.getElem_cons_succ, List.getElem_cons_zero, List.setIfInBounds_toArray, List.set_cons_zero, List.set_cons_succ]
      refine wpAnyH_ready (rs := [10]) (by kernel_rfl) (by simp) ?_
      refine AllReadyH.cons rfl (fun K hK => ?_) AllReadyH.nil
      try dsimp only at hHeld
      go_split_ands
      go_simp
      refine (CL.out _ _ (S8.out.bring 2 rfl)).mono ?_
      rintro e w7 ⟨b2, c2, q2, rfl, hq2, hd1, hd2, hk⟩
      have S9 : Seal (Pt w w7 [itemsR b2 c2 D.1.items q2, [Res.cells (w5.heap.size) [.int .i64 0, .slice none 0 0]], [Res.cells (w2.heap.size) [.int .i64 s.last, .slice bo s.items.length c]], [Res.cells (w.heap.size + 1 + 1) [.int .i64 0, .slice none 0 0]], [Res.cells (w.heap.size + 1) [.string u, .string d]], [Res.cells (w.heap.size) [.int .i64 s.last, .slice (some ⟨g, 0, none⟩) s.items.length pc]]]) := ⟨hk⟩
      clear hk
      refine hK.out _ _ ⟨(S9.out.cellsM 2 rfl).c 0 _ rfl, (S9.out.cellsM 2 rfl).c 1 _ rfl, (S9.out.cellsM 5 rfl).c 1 _ rfl, (heldc ic0 S9.out.below), (heldc ic1 S9.out.below), (heldc ic2 S9.out.below), (heldc ic3 S9.out.below), (heldc ic4 S9.out.below), (S9.out.cellsM 4 rfl).c 0 _ rfl, (S9.out.cellsM 4 rfl).c 1 _ rfl⟩ (fun hHeld => ?_)
      clear hK K
      try simp only [Act.put, List.getElem_toArray, List.getElem_cons_succ, List.getElem_cons_zero, List.setIfInBounds_toArray, List.set_cons_zero, List.set_cons_succ]
      refine tkH 11 (by assumption) (h := ?_)
      refine tkH 12 (by assumption) (h := ?_)
      refine tkH 13 (by assumption) (h := ?_)
      refine wpAnyH_ready (rs := [15]) (by kernel_rfl) (by simp) ?_
      refine AllReadyH.cons rfl (fun K hK => ?_) AllReadyH.nil
      have S10 : Seal (Pt w w7 [[Res.cells (w5.heap.size) [.int .i64 0, .slice none 0 0]], itemsR b2 c2 D.1.items q2, [Res.cells (w2.heap.size) [.int .i64 s.last, .slice bo s.items.length c]], [Res.cells (w.heap.size + 1 + 1) [.int .i64 0, .slice none 0 0]], [Res.cells (w.heap.size + 1) [.string u, .string d]], [Res.cells (w.heap.size) [.int .i64 s.last, .slice (some ⟨g, 0, none⟩) s.items.length pc]]]) := ⟨S9.out.bring 1 rfl⟩
      have oc0 := (S10.out.cellsM 0 rfl).c 0 _ rfl
      have of0 := (S10.out.cellsM 0 rfl).f 0 (by simp)
      have oc1 := (S10.out.cellsM 0 rfl).c 1 _ rfl
      have of1 := (S10.out.cellsM 0 rfl).f 1 (by simp)
      have S11 : Seal (Pt w ((w7.setCell ⟨w5.heap.size, 0, none⟩ (.int .i64 s.last)).setCell ⟨w5.heap.size, 1, none⟩ (.slice b2 s.items.length c2)) [[Res.cells (w5.heap.size) [.int .i64 s.last, .slice b2 s.items.length c2]], itemsR b2 c2 D.1.items q2, [Res.cells (w2.heap.size) [.int .i64 s.last, .slice bo s.items.length c]], [Res.cells (w.heap.size + 1 + 1) [.int .i64 0, .slice none 0 0]], [Res.cells (w.heap.size + 1) [.string u, .string d]], [Res.cells (w.heap.size) [.int .i64 s.last, .slice (some ⟨g, 0, none⟩) s.items.length pc]]]) := ⟨((S10.out).set 0 (.int .i64 s.last) (by simp)).set 1 (.slice b2 s.items.length c2) (by simp)⟩
      go_simp
      refine hK.out _ _ ⟨(S11.out.cellsM 2 rfl).c 0 _ rfl, (S11.out.cellsM 2 rfl).c 1 _ rfl, (S11.out.cellsM 5 rfl).c 1 _ rfl, (heldc ic0 S11.out.below), (heldc ic1 S11.out.below), (heldc ic2 S11.out.below), (heldc ic3 S11.out.below), (heldc ic4 S11.out.below), (S11.out.cellsM 4 rfl).c 0 _ rfl, (S11.out.cellsM 4 rfl).c 1 _ rfl⟩ (fun hHeld => ?_)
      clear hK K
      try simp only [Act.put, List.getElem_toArray, List.getElem_cons_succ, List.getElem_cons_zero, List.setIfInBounds_toArray, List.set_cons_zero, List.set_cons_succ]
      clear oc0 of0 oc1 of1
      refine wpAnyH_ready (rs := [16]) (by kernel_rfl) (by simp) ?_
      refine AllReadyH.cons rfl (fun K hK => ?_) AllReadyH.nil
      go_simp
      refine hK.out _ _ (by assumption) (fun hHeld => ?_)
      clear hK K
      try simp only [Act.put, List.getElem_toArray, List.getElem_cons_succ, List.getElem_cons_zero, List.setIfInBounds_toArray, List.set_cons_zero, List.set_cons_succ]
      refine wpAnyH_done (by kernel_rfl) ?_ _
      go_wp2_with fail
      go_meet
      exact ⟨w5.heap.size, b2, c2, q2, rfl, rfl, hq2, hd1, hd2, (Pt.bring ((Pt.bring ((Pt.bring ((Pt.bring ((Pt.bring ((Pt.bring (S11.out) 2 rfl)) 5 rfl)) 5 rfl)) 5 rfl)) 5 rfl)) 5 rfl)⟩
  case rest =>
  obtain ⟨kb, b2, c2, q2, rfl, rfl, hq2, hd1, hd2, hS⟩ := hcut
  have S9 : Seal (Pt w wc [[Res.cells kb [.int .i64 s.last, .slice b2 s.items.length c2]], itemsR b2 c2 D.1.items q2, [Res.cells (w.heap.size + 1 + 1) [.int .i64 0, .slice none 0 0]], [Res.cells (w.heap.size + 1) [.string u, .string d]], [Res.cells (w.heap.size) [.int .i64 s.last, .slice (some ⟨g, 0, none⟩) s.items.length pc]], [Res.cells (w2.heap.size) [.int .i64 s.last, .slice bo s.items.length c]]]) := ⟨hS⟩
  clear hS
  generalize wc = w9 at *
  have HD1 : Seal _ := ⟨hd1⟩
  have HD2 : Seal _ := ⟨hd2⟩
  clear hd1 hd2
  have y0 := (S9.out.cellsM 0 rfl).c 0 _ rfl
  have y1 := (S9.out.cellsM 0 rfl).c 1 _ rfl
  have r0 := (S9.out.cellsM 2 rfl).c 0 _ rfl
  have r1 := (S9.out.cellsM 2 rfl).c 1 _ rfl
  have f0 := (S9.out.cellsM 2 rfl).f 0 (by simp)
  have f1 := (S9.out.cellsM 2 rfl).f 1 (by simp)
  clear CL IA
  go_wp2
  refine bodyPost_ret (v := .tuple #[.agg #[.int .i64 s.last, .slice b2 s.items.length c2], .bool D.2]) (by simp [results, Tryd.results15, go_sem, r0, r1]) rfl ⟨⟨b2, c2, q2⟩, ret_sb (D := D.1) HD.out (by show _ = (#[Value.int .i64 D.1.last, Value.slice b2 D.1.items.length c2] : Array Value); rw [HD1.out, HD2.out]), by rw [HD.out]; exact hq2.trans HD2.out.symm, ?_⟩
  rw [HD.out]
  have s4 := ((S9.out.bring 2 rfl).set 0 (.int .i64 s.last) (by simp)).set 1 (.slice b2 s.items.length c2) (by simp)
  have s5 := s4.bring 2 rfl
  exact Pt.only (Pt.prefix (As := [itemsR b2 c2 D.1.items q2]) (Bs := [[Res.cells (w.heap.size + 1 + 1) [.int .i64 s.last, .slice b2 s.items.length c2]], [Res.cells kb [.int .i64 s.last, .slice b2 s.items.length c2]], [Res.cells (w.heap.size + 1) [.string u, .string d]], [Res.cells (w.heap.size) [.int .i64 s.last, .slice (some ⟨g, 0, none⟩) s.items.length pc]], [Res.cells (w2.heap.size) [.int .i64 s.last, .slice bo s.items.length c]]]) s5)
end Go.Proofs.YtcaknjdolfheaaaDoor
