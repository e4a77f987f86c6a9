/- Contracts: SpoolLater of the program, in the one form of the exact walks. -/
import Derived.Test.YtcaknjdolfheaaaDoorTk
import Derived.Test.YtcaknjdolfheaaaDoorSpoolLaterK
import Derived.Test.YtcaknjdolfheaaaDoorSpoolLates
namespace Go.Proofs.YtcaknjdolfheaaaDoor
open Go Go.RowKit

theorem Pt.close {w0 W : World} {bo : Option Addr} {c : Nat} {xs : List ItemD} {qs : List ItemV} {Ls : List (List Res)} (hl : qs.length = xs.length) {a : Nat} {x : ItemD} {q : ItemV} (hx : xs[a]? = some x) (hq : qs[a]? = some q) (y : ItemD) (he : itemL y q = itemL x q)
    (h : Pt w0 W ([Res.row 42 5 (.slice bo xs.length c) xs.length (itemE.all xs qs)] :: itemE.ress (xs.take a) (qs.take a) :: [rcptsR q.a1 q.c1 y.rc] :: [strsR q.a2 q.c2 y.body] :: itemE.ress (xs.drop (a + 1)) (qs.drop (a + 1)) :: Ls)) :
    Pt w0 W (itemsR bo c (xs.set a y) qs :: Ls) := by
  have e := (ress_set hl hx hq y q).2
  rw [set_self' hq] at e
  have e2 : itemsR bo c (xs.set a y) qs = Res.row 42 5 (.slice bo xs.length c) xs.length (itemE.all xs qs) :: (itemE.ress (xs.take a) (qs.take a) ++ ([rcptsR q.a1 q.c1 y.rc, strsR q.a2 q.c2 y.body] ++ itemE.ress (xs.drop (a + 1)) (qs.drop (a + 1)))) := by
    unfold itemsR Elem.row
    rw [e, all_same hl hx hq y he, List.length_set]
    rfl
  rw [e2]
  unfold Pt at h ⊢
  simpa only [List.flatten_cons, List.append_assoc, List.cons_append, List.nil_append] using h

set_option maxHeartbeats 12800000 in
set_option maxRecDepth 100000 in
theorem implSpoolLater_K (s : SpoolD) (i : Int) (u d : ByteArray) (now : Int) (hz : spoolKZ s) (_ : u.size ≤ 1048576 ∧ d.size ≤ 1048576) (w0 w : World) (Ls : List (List Res)) (hmx : HasMax w) (ps : SpoolP) (j : Nat) (h : Pt w0 w Ls) (hj : Ls[j]? = some (spoolKR s ps)) (hfs : spoolKF s ps) :
    Calls Tryd.prog 14 #[.agg (spoolKV s ps), .int .i64 i, .agg #[.string u, .string d], .int .i64 now] w fun e w' => ∃ r, e = .returned (.tuple #[.agg (spoolKV (laterR s i u d now).1 r), .bool (laterR s i u d now).2]) ∧ spoolKF (laterR s i u d now).1 r ∧ St w w' (spoolKR (laterR s i u d now).1 r) := by
  have HX : Seal _ := ⟨hmx⟩
  have HS : Seal _ := ⟨h.bring j hj⟩
  have HA : Seal (ItemRow w ps.a s.items) := ⟨spoolK_read hfs (h.nth j hj)⟩
  have HF : Seal _ := ⟨hfs⟩
  have HZ : Seal _ := ⟨hz⟩
  clear h hj hfs hz hmx
  have S0 : Seal (Pt w (((w.alloc (.cells (spoolKV s ps) 25)).alloc (.cells #[.string u, .string d] 27)).alloc (.cells #[.int .i64 0, .slice none 0 0] 25)) [[Res.cells (w.heap.size + 1 + 1) [.int .i64 0, .slice none 0 0]], [Res.cells (w.heap.size + 1) [.string u, .string d]], [Res.cells w.heap.size (spoolKL s ps)]]) := ⟨by
    have h := (((Pt.start w).alloc (spoolKV s ps) 25).alloc #[.string u, .string d] 27).alloc #[.int .i64 0, .slice none 0 0] 25
    simp only [World.size_alloc] at h
    exact h⟩
  go_enter Tryd.func14, Tryd.ntmps14
  go_wp2_with fail
  refine (implSpoolOk_any s ps.a ps.c _ (HX.out.below S0.out.below (Nat.le_refl _)) (HA.out.below itemP_stays S0.out.below (Nat.le_refl _)) HZ.out).mono ?_
  rintro e w1 ⟨rfl, hb⟩
  have S1 : Seal _ := ⟨S0.out.later hb⟩
  clear hb S0
  cases hok : spoolB s
  · have HE : Seal _ := ⟨laterR_bad (i := i) (u := u) (d := d) (now := now) hok⟩
    have r0 := (S1.out.cellsM 0 rfl).c 0 _ rfl
    have r1 := (S1.out.cellsM 0 rfl).c 1 _ rfl
    have f0 := (S1.out.cellsM 0 rfl).f 0 (by simp)
    have f1 := (S1.out.cellsM 0 rfl).f 1 (by simp)
    clear hok
    go_wp2
    refine bodyPost_ret (v := .tuple #[.agg #[.int .i64 0, .slice none 0 0], .bool false]) (by simp [results, Tryd.results14, go_sem, r0, r1]) rfl ⟨⟨none, 0, []⟩, ret_sb HE.out rfl, by rw [HE.out]; rfl, ?_⟩
    rw [HE.out]
    have s4 := ((S1.out.set 0 (.int .i64 0) (by simp)).set 1 (.slice none 0 0) (by simp)).nothing 42 5
    exact Pt.prefix (As := [[Res.row 42 5 (.slice none 0 0) 0 []]]) s4
  have HO : Seal _ := ⟨hok⟩
  obtain ⟨sm1, sm2, sm3, sm4⟩ := spool_small hok
  clear hok
  have g0 := (S1.out.cellsM 2 rfl).c 0 _ rfl
  have g1 := (S1.out.cellsM 2 rfl).c 1 _ rfl
  go_wp2_with fail
  refine (spoolClone_any _ s ps.a ps.c ps.ps HF.out w0 _ (StX.later HS.out S1.out.below) HZ.out).mono ?_
  rintro e w2 ⟨bo, c, qs, rfl, hqs, hk⟩
  have HQ : Seal _ := ⟨hqs⟩
  have S2 : Seal (Pt w (w2.alloc (.cells #[.int .i64 s.last, .slice bo s.items.length c] 25)) [[Res.cells w2.heap.size [.int .i64 s.last, .slice bo s.items.length c]], itemsR bo c s.items qs, [Res.cells (w.heap.size + 1 + 1) [.int .i64 0, .slice none 0 0]], [Res.cells (w.heap.size + 1) [.string u, .string d]], [Res.cells w.heap.size (spoolKL s ps)]]) := ⟨(Pt.join S1.out hk).alloc #[.int .i64 s.last, .slice bo s.items.length c] 25⟩
  clear hk hqs S1 g0 g1
  have g0 := (S2.out.cellsM 0 rfl).c 0 _ rfl
  have g1 := (S2.out.cellsM 0 rfl).c 1 _ rfl
  have gl := (S2.out.cellsM 0 rfl).lt
  have b0 := (S2.out.cellsM 3 rfl).c 0 _ rfl
  have b1 := (S2.out.cellsM 3 rfl).c 1 _ rfl
  have bl := (S2.out.cellsM 3 rfl).lt
  have HR : Seal (ItemRow (w2.alloc (.cells #[.int .i64 s.last, .slice bo s.items.length c] 25)) bo s.items) := ⟨spoolK_read (s := s) (p := ⟨bo, c, qs⟩) HQ.out (S2.out.nth 1 rfl)⟩
  go_wp2_with fail
  refine (implFind_any s bo c i u d _ HR.out HZ.out).mono ?_
  rintro e w3 ⟨rfl, hb⟩
  have S3 : Seal (Pt w w3 [[Res.cells w2.heap.size [.int .i64 s.last, .slice bo s.items.length c]], itemsR bo c s.items qs, [Res.cells (w.heap.size + 1 + 1) [.int .i64 0, .slice none 0 0]], [Res.cells (w.heap.size + 1) [.string u, .string d]], [Res.cells w.heap.size (spoolKL s ps)]]) := ⟨S2.out.later hb⟩
  clear hb S2 g0 g1 gl b0 b1 bl HR
  rcases findR_cases (idB i) s.items with hno | ⟨a, x, hat, hx, _⟩
  · have HN : Seal (lateAt s i u d now = none) := ⟨lateAt_noid hno⟩
    rw [findK_noid hno]
    clear hno
    have HE : Seal _ := ⟨laterR_none HO.out HN.out⟩
    have g0 := (S3.out.cellsM 0 rfl).c 0 _ rfl
    have g1 := (S3.out.cellsM 0 rfl).c 1 _ rfl
    have gl := (S3.out.cellsM 0 rfl).lt
    have r0 := (S3.out.cellsM 2 rfl).c 0 _ rfl
    have r1 := (S3.out.cellsM 2 rfl).c 1 _ rfl
    have f0 := (S3.out.cellsM 2 rfl).f 0 (by simp)
    have f1 := (S3.out.cellsM 2 rfl).f 1 (by simp)
    go_wp2
    refine bodyPost_ret (v := .tuple #[.agg #[.int .i64 s.last, .slice bo s.items.length c], .bool false]) (by simp [results, Tryd.results14, go_sem, r0, r1]) rfl ⟨⟨bo, c, qs⟩, ret_sb HE.out rfl, by rw [HE.out]; exact HQ.out, ?_⟩
    rw [HE.out]
    have s4 := ((S3.out.bring 2 rfl).set 0 (.int .i64 s.last) (by simp)).set 1 (.slice bo s.items.length c) (by simp)
    have s5 := s4.bring 2 rfl
    exact Pt.only (Pt.prefix (As := [itemsR bo c s.items qs]) (Bs := [[Res.cells (w.heap.size + 1 + 1) [.int .i64 s.last, .slice bo s.items.length c]], [Res.cells w2.heap.size [.int .i64 s.last, .slice bo s.items.length c]], [Res.cells (w.heap.size + 1) [.string u, .string d]], [Res.cells w.heap.size (spoolKL s ps)]]) s5)
  rcases findR_cases (toB1 u d) x.rc with hrn | ⟨k, r, hrk, hr, _⟩
  · have HN : Seal (lateAt s i u d now = none) := ⟨lateAt_norc hat hx hrn⟩
    rw [findK_norc hat hx hrn]
    clear hat hx hrn
    have HE : Seal _ := ⟨laterR_none HO.out HN.out⟩
    have g0 := (S3.out.cellsM 0 rfl).c 0 _ rfl
    have g1 := (S3.out.cellsM 0 rfl).c 1 _ rfl
    have gl := (S3.out.cellsM 0 rfl).lt
    have r0 := (S3.out.cellsM 2 rfl).c 0 _ rfl
    have r1 := (S3.out.cellsM 2 rfl).c 1 _ rfl
    have f0 := (S3.out.cellsM 2 rfl).f 0 (by simp)
    have f1 := (S3.out.cellsM 2 rfl).f 1 (by simp)
    go_wp2
    refine bodyPost_ret (v := .tuple #[.agg #[.int .i64 s.last, .slice bo s.items.length c], .bool false]) (by simp [results, Tryd.results14, go_sem, r0, r1]) rfl ⟨⟨bo, c, qs⟩, ret_sb HE.out rfl, by rw [HE.out]; exact HQ.out, ?_⟩
    rw [HE.out]
    have s4 := ((S3.out.bring 2 rfl).set 0 (.int .i64 s.last) (by simp)).set 1 (.slice bo s.items.length c) (by simp)
    have s5 := s4.bring 2 rfl
    exact Pt.only (Pt.prefix (As := [itemsR bo c s.items qs]) (Bs := [[Res.cells (w.heap.size + 1 + 1) [.int .i64 s.last, .slice bo s.items.length c]], [Res.cells w2.heap.size [.int .i64 s.last, .slice bo s.items.length c]], [Res.cells (w.heap.size + 1) [.string u, .string d]], [Res.cells w.heap.size (spoolKL s ps)]]) s5)
  rw [findK_at hat hx hrk]
  cases ht : inB now 0 9999
  · have HN : Seal (lateAt s i u d now = none) := ⟨lateAt_notime ht⟩
    clear hat hx hrk hr
    go_wp2_with fail
    refine (isTime_any now _).mono ?_
    rintro e w4 ⟨rfl, rfl⟩
    rw [ht]
    clear ht
    have HE : Seal _ := ⟨laterR_none HO.out HN.out⟩
    have g0 := (S3.out.cellsM 0 rfl).c 0 _ rfl
    have g1 := (S3.out.cellsM 0 rfl).c 1 _ rfl
    have gl := (S3.out.cellsM 0 rfl).lt
    have r0 := (S3.out.cellsM 2 rfl).c 0 _ rfl
    have r1 := (S3.out.cellsM 2 rfl).c 1 _ rfl
    have f0 := (S3.out.cellsM 2 rfl).f 0 (by simp)
    have f1 := (S3.out.cellsM 2 rfl).f 1 (by simp)
    go_wp2
    refine bodyPost_ret (v := .tuple #[.agg #[.int .i64 s.last, .slice bo s.items.length c], .bool false]) (by simp [results, Tryd.results14, go_sem, r0, r1]) rfl ⟨⟨bo, c, qs⟩, ret_sb HE.out rfl, by rw [HE.out]; exact HQ.out, ?_⟩
    rw [HE.out]
    have s4 := ((S3.out.bring 2 rfl).set 0 (.int .i64 s.last) (by simp)).set 1 (.slice bo s.items.length c) (by simp)
    have s5 := s4.bring 2 rfl
    exact Pt.only (Pt.prefix (As := [itemsR bo c s.items qs]) (Bs := [[Res.cells (w.heap.size + 1 + 1) [.int .i64 s.last, .slice bo s.items.length c]], [Res.cells w2.heap.size [.int .i64 s.last, .slice bo s.items.length c]], [Res.cells (w.heap.size + 1) [.string u, .string d]], [Res.cells w.heap.size (spoolKL s ps)]]) s5)
  have HT : Seal _ := ⟨ht⟩
  have HX1 : Seal _ := ⟨hx⟩
  have HR1 : Seal _ := ⟨hr⟩
  have hla : lateAt s i u d now = if timeB now && mayLate r now then some (a, x, k, r) else none := lateAt_at hat hx hrk hr
  have HLA : Seal _ := ⟨hla⟩
  have hnow : 0 ≤ now ∧ now ≤ 9999 := by have h := HT.out; unfold inB at h; rw [decide_eq_true_eq] at h; exact h
  obtain ⟨t0, t3, _⟩ := spool_rcpt HO.out hx hr
  have ha0 : (0 : Int) ≤ (a : Int) := by omega
  have hxl := (List.getElem?_eq_some_iff.1 hx).1
  have hrl := (List.getElem?_eq_some_iff.1 hr).1
  have ha1 : (a : Int) < (s.items.length : Int) := by omega
  have hk0 : (0 : Int) ≤ (k : Int) := by omega
  have hk1 : (k : Int) < (x.rc.length : Int) := by omega
  clear hat hx hrk hr hla
  go_wp2_with fail
  refine (isTime_any now _).mono ?_
  rintro e w4 ⟨rfl, rfl⟩
  rw [ht]
  clear ht
  obtain ⟨q, hq⟩ : ∃ q, qs[a]? = some q := ⟨_, List.getElem?_eq_getElem (by have := HQ.out; omega)⟩
  have HQ1 : Seal _ := ⟨hq⟩
  have s4 := (S3.out.bring 1 rfl).open HQ.out HX1.out hq
  obtain ⟨g2, hg2⟩ : ∃ g2, q.a1 = some ⟨g2, 0, none⟩ := by
    rcases slice_or (s4.nth 2 rfl _ List.mem_cons_self) with h | h
    · omega
    · exact h
  obtain ⟨g3, rfl⟩ : ∃ g3, bo = some ⟨g3, 0, none⟩ := by
    rcases slice_or (s4.nth 0 rfl _ List.mem_cons_self) with h | h
    · omega
    · exact h
  obtain ⟨qa, qc, qb, qd⟩ := q
  dsimp only at hg2
  subst hg2
  have S4 : Seal (Pt w w3 [[itemRw g3 c s.items.length s.items qs], itemE.ress (s.items.take a) (qs.take a), [rcptsR (some ⟨g2, 0, none⟩) qc x.rc], [strsR qb qd x.body], itemE.ress (s.items.drop (a + 1)) (qs.drop (a + 1)), [Res.cells w2.heap.size [.int .i64 s.last, .slice (some ⟨g3, 0, none⟩) s.items.length c]], [Res.cells (w.heap.size + 1 + 1) [.int .i64 0, .slice none 0 0]], [Res.cells (w.heap.size + 1) [.string u, .string d]], [Res.cells w.heap.size (spoolKL s ps)]]) := ⟨s4⟩
  clear s4 hq S3
  have i3 := (item_at (S4.out.nth 0 rfl _ List.mem_cons_self) rfl HX1.out HQ1.out 3 (by decide) rfl).1
  have e0 := (rcpt_at (S4.out.nth 2 rfl _ List.mem_cons_self) HR1.out 0 (by decide) rfl).1
  have e1 := (rcpt_at (S4.out.nth 2 rfl _ List.mem_cons_self) HR1.out 1 (by decide) rfl).1
  have e2 := (rcpt_at (S4.out.nth 2 rfl _ List.mem_cons_self) HR1.out 2 (by decide) rfl).1
  have e3 := (rcpt_at (S4.out.nth 2 rfl _ List.mem_cons_self) HR1.out 3 (by decide) rfl).1
  simp only [Nat.add_zero] at e0
  have g1 := (S4.out.cellsM 5 rfl).c 1 _ rfl
  have gl := (S4.out.cellsM 5 rfl).lt
  obtain ⟨R, hR⟩ : ∃ R, lateR r now = R := ⟨_, rfl⟩
  have HRR : Seal _ := ⟨hR⟩
  have CL : Seal (∀ W, Calls Tryd.prog 44 #[.agg (rcptV r), .int .i64 now] W fun e w' => e = .returned (.agg (rcptV R)) ∧ Below W.heap.size W w') := ⟨fun W => HRR.out ▸ rcptLater_any r now W t0 t3 hnow.1 hnow.2⟩
  have hml : tryB R = mayLate r now := by rw [← HRR.out]; exact try_late t0 t3 hnow.1
  clear hR
  go_wp2_with fail
  refine (CL.out _).mono ?_
  rintro e w4 ⟨rfl, hb⟩
  have S5 : Seal (Pt w (w4.alloc (.cells #[.string R.u, .string R.d, .int .i64 R.tries, .int .i64 R.next] 44)) [[Res.cells w4.heap.size [.string R.u, .string R.d, .int .i64 R.tries, .int .i64 R.next]], [itemRw g3 c s.items.length s.items qs], itemE.ress (s.items.take a) (qs.take a), [rcptsR (some ⟨g2, 0, none⟩) qc x.rc], [strsR qb qd x.body], itemE.ress (s.items.drop (a + 1)) (qs.drop (a + 1)), [Res.cells w2.heap.size [.int .i64 s.last, .slice (some ⟨g3, 0, none⟩) s.items.length c]], [Res.cells (w.heap.size + 1 + 1) [.int .i64 0, .slice none 0 0]], [Res.cells (w.heap.size + 1) [.string u, .string d]], [Res.cells w.heap.size (spoolKL s ps)]]) := ⟨(S4.out.later hb).alloc #[.string R.u, .string R.d, .int .i64 R.tries, .int .i64 R.next] 44⟩
  clear hb S4 CL i3 e0 e1 e2 e3 g1 gl
  have q0 := (S5.out.cellsM 0 rfl).c 0 _ rfl
  have q1 := (S5.out.cellsM 0 rfl).c 1 _ rfl
  have q2 := (S5.out.cellsM 0 rfl).c 2 _ rfl
  have q3 := (S5.out.cellsM 0 rfl).c 3 _ rfl
  have ql := (S5.out.cellsM 0 rfl).lt
  go_wp2_with fail
  refine (rcptValid_any R _).mono ?_
  rintro e w5 ⟨rfl, hb⟩
  have S6 : Seal _ := ⟨S5.out.later hb⟩
  clear hb S5 q0 q1 q2 q3 ql
  rw [hml]
  cases hmv : mayLate r now
  · have HN : Seal (lateAt s i u d now = none) := ⟨by rw [HLA.out, hmv, Bool.and_false]; rfl⟩
    clear hmv hml
    have S7 : Seal (Pt w w5 _) := ⟨Pt.close HQ.out HX1.out HQ1.out x rfl ((S6.out.tail))⟩
    have HE : Seal _ := ⟨laterR_none HO.out HN.out⟩
    have g0 := (S7.out.cellsM 1 rfl).c 0 _ rfl
    have g1 := (S7.out.cellsM 1 rfl).c 1 _ rfl
    have gl := (S7.out.cellsM 1 rfl).lt
    have r0 := (S7.out.cellsM 2 rfl).c 0 _ rfl
    have r1 := (S7.out.cellsM 2 rfl).c 1 _ rfl
    have f0 := (S7.out.cellsM 2 rfl).f 0 (by simp)
    have f1 := (S7.out.cellsM 2 rfl).f 1 (by simp)
    go_wp2
    refine bodyPost_ret (v := .tuple #[.agg #[.int .i64 s.last, .slice (some ⟨g3, 0, none⟩) s.items.length c], .bool false]) (by simp [results, Tryd.results14, go_sem, r0, r1]) rfl ⟨⟨some ⟨g3, 0, none⟩, c, qs⟩, ret_sb HE.out rfl, by rw [HE.out]; exact HQ.out, ?_⟩
    rw [HE.out]
    have s4 := ((S7.out.bring 2 rfl).set 0 (.int .i64 s.last) (by simp)).set 1 (.slice (some ⟨g3, 0, none⟩) s.items.length c) (by simp)
    have s5 := s4.bring 1 rfl
    rw [set_self' HX1.out] at s5
    exact Pt.only (Pt.prefix (As := [itemsR (some ⟨g3, 0, none⟩) c s.items qs]) (Bs := [[Res.cells (w.heap.size + 1 + 1) [.int .i64 s.last, .slice (some ⟨g3, 0, none⟩) s.items.length c]], [Res.cells w2.heap.size [.int .i64 s.last, .slice (some ⟨g3, 0, none⟩) s.items.length c]], [Res.cells (w.heap.size + 1) [.string u, .string d]], [Res.cells w.heap.size (spoolKL s ps)]]) s5)
  have HE : Seal (laterR s i u d now = (lateD s a (lateI x k r now), true)) := ⟨laterR_some HO.out (by rw [HLA.out, hmv]; unfold timeB; rw [HT.out]; rfl)⟩
  clear hmv hml
  go_upto_region 10 with fail
  have S7 : Seal (Pt w w5.drew [[Res.cells (w4.heap.size) [.string R.u, .string R.d, .int .i64 R.tries, .int .i64 R.next]], [itemRw g3 c s.items.length s.items qs], itemE.ress (s.items.take a) (qs.take a), [rcptsR (some ⟨g2, 0, none⟩) qc x.rc], [strsR qb qd x.body], itemE.ress (s.items.drop (a + 1)) (qs.drop (a + 1)), [Res.cells (w2.heap.size) [.int .i64 s.last, .slice (some ⟨g3, 0, none⟩) s.items.length c]], [Res.cells (w.heap.size + 1 + 1) [.int .i64 0, .slice none 0 0]], [Res.cells (w.heap.size + 1) [.string u, .string d]], [Res.cells (w.heap.size) [.int .i64 s.last, .slice ps.a s.items.length ps.c]]]) := ⟨S6.out.drew⟩
  refine wp_region_held_drew (S := (fun w' => w'.cell? ⟨w2.heap.size, 1, none⟩ = some (.slice (some ⟨g3, 0, none⟩) s.items.length c) ∧ w'.cell? ⟨g3, a * 5 + 3, none⟩ = some (.slice (some ⟨g2, 0, none⟩) x.rc.length qc) ∧ w'.cell? ⟨w4.heap.size, 0, none⟩ = some (.string R.u) ∧ w'.cell? ⟨w4.heap.size, 1, none⟩ = some (.string R.d) ∧ w'.cell? ⟨w4.heap.size, 2, none⟩ = some (.int .i64 R.tries) ∧ w'.cell? ⟨w4.heap.size, 3, none⟩ = some (.int .i64 R.next))) (by kernel_rfl) ⟨(S7.out.cellsM 6 rfl).c 1 _ rfl, (item_at (S7.out.nth 1 rfl _ List.mem_cons_self) rfl HX1.out HQ1.out 3 (by decide) rfl).1, (S7.out.cellsM 0 rfl).c 0 _ rfl, (S7.out.cellsM 0 rfl).c 1 _ rfl, (S7.out.cellsM 0 rfl).c 2 _ rfl, (S7.out.cellsM 0 rfl).c 3 _ rfl⟩ (fun hHeld => ?_)
  refine tkH 0 (by assumption) (h := ?_)
  refine tkH 1 (by assumption) (h := ?_)
  refine tkH 2 (by assumption) (h := ?_)
  refine tkH 3 (by assumption) (h := ?_)
  refine tkH 4 (by assumption) (h := ?_)
  refine tkH 5 (by assumption) (h := ?_)
  refine tkH 6 (by assumption) (h := ?_)
  refine tkH 7 (by assumption) (h := ?_)
  refine tkH 8 (by assumption) (h := ?_)
  refine wpAnyH_ready (rs := [9]) (by kernel_rfl) (by simp) ?_
  refine AllReadyH.cons rfl (fun K hK => ?_) AllReadyH.nil
  have f0 := (rcpt_at (S7.out.nth 3 rfl _ List.mem_cons_self) HR1.out 0 (by decide) rfl).2
  have f1 := (rcpt_at (S7.out.nth 3 rfl _ List.mem_cons_self) HR1.out 1 (by decide) rfl).2
  have f2 := (rcpt_at (S7.out.nth 3 rfl _ List.mem_cons_self) HR1.out 2 (by decide) rfl).2
  have f3 := (rcpt_at (S7.out.nth 3 rfl _ List.mem_cons_self) HR1.out 3 (by decide) rfl).2
  have v0 := (rcpt_at (S7.out.nth 3 rfl _ List.mem_cons_self) HR1.out 0 (by decide) rfl).1
  have v1 := (rcpt_at (S7.out.nth 3 rfl _ List.mem_cons_self) HR1.out 1 (by decide) rfl).1
  have v2 := (rcpt_at (S7.out.nth 3 rfl _ List.mem_cons_self) HR1.out 2 (by decide) rfl).1
  have v3 := (rcpt_at (S7.out.nth 3 rfl _ List.mem_cons_self) HR1.out 3 (by decide) rfl).1
  simp only [Nat.add_zero] at f0 v0
  have u0 : w5.cell? ⟨g2, k * 4, none⟩ = some (.string r.u) := v0
  have x0 : w5.frozen? ⟨g2, k * 4, none⟩ = false := f0
  have u1 : w5.cell? ⟨g2, k * 4 + 1, none⟩ = some (.string r.d) := v1
  have x1 : w5.frozen? ⟨g2, k * 4 + 1, none⟩ = false := f1
  have u2 : w5.cell? ⟨g2, k * 4 + 2, none⟩ = some (.int .i64 r.tries) := v2
  have x2 : w5.frozen? ⟨g2, k * 4 + 2, none⟩ = false := f2
  have u3 : w5.cell? ⟨g2, k * 4 + 3, none⟩ = some (.int .i64 r.next) := v3
  have x3 : w5.frozen? ⟨g2, k * 4 + 3, none⟩ = false := f3
  have S8 : Seal (Pt w ((((w5.setCell ⟨g2, k * 4, none⟩ (.string R.u)).setCell ⟨g2, k * 4 + 1, none⟩ (.string R.d)).setCell ⟨g2, k * 4 + 2, none⟩ (.int .i64 R.tries)).setCell ⟨g2, k * 4 + 3, none⟩ (.int .i64 R.next)).drew [[rcptsR (some ⟨g2, 0, none⟩) qc (x.rc.set k R)], [Res.cells (w4.heap.size) [.string R.u, .string R.d, .int .i64 R.tries, .int .i64 R.next]], [itemRw g3 c s.items.length s.items qs], itemE.ress (s.items.take a) (qs.take a), [strsR qb qd x.body], itemE.ress (s.items.drop (a + 1)) (qs.drop (a + 1)), [Res.cells (w2.heap.size) [.int .i64 s.last, .slice (some ⟨g3, 0, none⟩) s.items.length c]], [Res.cells (w.heap.size + 1 + 1) [.int .i64 0, .slice none 0 0]], [Res.cells (w.heap.size + 1) [.string u, .string d]], [Res.cells (w.heap.size) [.int .i64 s.last, .slice ps.a s.items.length ps.c]]]) := ⟨by
    have hs : ∀ (y : RcptD), (x.rc.set k y)[k]? = some y := fun y => List.getElem?_set_self (List.getElem?_eq_some_iff.1 HR1.out).1
    have a0 := rcpt_set (r' := ⟨R.u, r.d, r.tries, r.next⟩) (S7.out.bring 3 rfl) HR1.out 0 (by decide) (.string R.u) rfl
    have a1 := rcpt_set (r' := ⟨R.u, R.d, r.tries, r.next⟩) a0 (hs _) 1 (by decide) (.string R.d) rfl
    rw [List.set_set] at a1
    have a2 := rcpt_set (r' := ⟨R.u, R.d, R.tries, r.next⟩) a1 (hs _) 2 (by decide) (.int .i64 R.tries) rfl
    rw [List.set_set] at a2
    have a3 := rcpt_set (r' := R) a2 (hs _) 3 (by decide) (.int .i64 R.next) rfl
    rw [List.set_set] at a3
    exact a3⟩
  go_simp
  refine hK.out _ _ ⟨(S8.out.cellsM 6 rfl).c 1 _ rfl, (item_at (S8.out.nth 2 rfl _ List.mem_cons_self) rfl HX1.out HQ1.out 3 (by decide) rfl).1, (S8.out.cellsM 1 rfl).c 0 _ rfl, (S8.out.cellsM 1 rfl).c 1 _ rfl, (S8.out.cellsM 1 rfl).c 2 _ rfl, (S8.out.cellsM 1 rfl).c 3 _ rfl⟩ (fun hHeld => ?_)
  clear hK K
  try simp only [Act.put, List.getElem_toArray, List.getElem_cons_succ, List.getElem_cons_zero, List.setIfInBounds_toArray, List.set_cons_zero, List.set_cons_succ]
  clear f0 f1 f2 f3 v0 v1 v2 v3 u0 u1 u2 u3 x0 x1 x2 x3
  refine wpAnyH_done (by kernel_rfl) ?_ _
  have S7 : Seal (Pt w ((((w5.setCell ⟨g2, k * 4, none⟩ (.string R.u)).setCell ⟨g2, k * 4 + 1, none⟩ (.string R.d)).setCell ⟨g2, k * 4 + 2, none⟩ (.int .i64 R.tries)).setCell ⟨g2, k * 4 + 3, none⟩ (.int .i64 R.next)).drew [[rcptsR (some ⟨g2, 0, none⟩) qc (x.rc.set k R)], [Res.cells (w4.heap.size) [.string R.u, .string R.d, .int .i64 R.tries, .int .i64 R.next]], [itemRw g3 c s.items.length s.items qs], itemE.ress (s.items.take a) (qs.take a), [strsR qb qd x.body], itemE.ress (s.items.drop (a + 1)) (qs.drop (a + 1)), [Res.cells (w2.heap.size) [.int .i64 s.last, .slice (some ⟨g3, 0, none⟩) s.items.length c]], [Res.cells (w.heap.size + 1 + 1) [.int .i64 0, .slice none 0 0]], [Res.cells (w.heap.size + 1) [.string u, .string d]], [Res.cells (w.heap.size) [.int .i64 s.last, .slice ps.a s.items.length ps.c]]]) := ⟨S8.out⟩
  clear S6
  generalize ((((w5.setCell ⟨g2, k * 4, none⟩ (.string R.u)).setCell ⟨g2, k * 4 + 1, none⟩ (.string R.d)).setCell ⟨g2, k * 4 + 2, none⟩ (.int .i64 R.tries)).setCell ⟨g2, k * 4 + 3, none⟩ (.int .i64 R.next)).drew = w6 at *
  have g0 := (S8.out.cellsM 6 rfl).c 0 _ rfl
  have g1 := (S8.out.cellsM 6 rfl).c 1 _ rfl
  have gl := (S8.out.cellsM 6 rfl).lt
  have r0 := (S8.out.cellsM 7 rfl).c 0 _ rfl
  have r1 := (S8.out.cellsM 7 rfl).c 1 _ rfl
  have f0 := (S8.out.cellsM 7 rfl).f 0 (by simp)
  have f1 := (S8.out.cellsM 7 rfl).f 1 (by simp)
  have HLN : Seal ((lateD s a (lateI x k r now)).items.length = s.items.length) := ⟨lateD_len _ _ _⟩
  go_wp2
  refine bodyPost_ret (v := .tuple #[.agg #[.int .i64 s.last, .slice (some ⟨g3, 0, none⟩) s.items.length c], .bool true]) (by simp [results, Tryd.results14, go_sem, r0, r1]) rfl ⟨⟨some ⟨g3, 0, none⟩, c, qs⟩, ret_sb (D := lateD s a (lateI x k r now)) HE.out (by show _ = (#[Value.int .i64 s.last, Value.slice _ (lateD s a (lateI x k r now)).items.length c] : Array Value); rw [HLN.out]), by rw [HE.out]; exact HQ.out.trans HLN.out.symm, ?_⟩
  rw [HE.out]
  have s8 := ((S8.out.bring 7 rfl).set 0 (.int .i64 s.last) (by simp)).set 1 (.slice (some ⟨g3, 0, none⟩) s.items.length c) (by simp)
  have s10 := ((((s8.bring 6 rfl).bring 6 rfl).bring 3 rfl).bring 6 rfl).bring 6 rfl
  have s11 := Pt.close HQ.out HX1.out HQ1.out (lateI x k r now) (by show [_, _, _, Value.slice _ (x.rc.set k _).length _, _] = _; rw [List.length_set]; rfl) (by rw [← HRR.out] at s10; exact s10)
  exact Pt.only (Pt.prefix (As := [itemsR (some ⟨g3, 0, none⟩) c (s.items.set a (lateI x k r now)) qs]) (Bs := _) s11)
end Go.Proofs.YtcaknjdolfheaaaDoor
