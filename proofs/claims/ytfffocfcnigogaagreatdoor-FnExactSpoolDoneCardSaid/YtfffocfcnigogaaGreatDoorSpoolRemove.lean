/- Contracts: one whom a mail is for is struck from a spool, by the program. -/
import Derived.Test.YtfffocfcnigogaaGreatDoorSliceDelete
namespace Go.Proofs.YtfffocfcnigogaaGreatDoor
open Go Go.RowKit

theorem item_put {X : Nat → Prop} {w0 w : World} {g c n : Nat} {xs : List ItemD} {ps : List ItemV} {l : List Res} (h : StX X w0 w (itemRw g c n xs ps :: l)) (hl : ps.length = xs.length) {k : Nat} {x : ItemD} {p : ItemV} (hx : xs[k]? = some x) (hp : ps[k]? = some p) (j : Nat) (hj : j < 5) (v : Value) (y : ItemD) (e : itemL y p = (itemL x p).set j v) :
    StX X w0 (w.setCell ⟨g, k * 5 + j, none⟩ v) (itemRw g c n (xs.set k y) ps :: l) := by
  have hk := (List.getElem?_eq_some_iff.1 hx).1
  have e1 := take_drop_at hx
  have e2 := take_drop_at hp
  have s : StX X w0 w (Res.row 43 itemE.size (.slice (some ⟨g, 0, none⟩) n c) n (itemE.all (xs.take k ++ x :: xs.drop (k + 1)) (ps.take k ++ p :: ps.drop (k + 1))) :: l) := by
    rw [← e1, ← e2]
    exact h
  have s2 := s.setElem itemE (by simp; omega) (i := k) (by simp; omega) (j := j) hj v y e
  have e3 : itemE.all (xs.set k y) ps = itemE.all (xs.take k ++ y :: xs.drop (k + 1)) (ps.take k ++ p :: ps.drop (k + 1)) := by
    rw [← e2, List.set_eq_take_append_cons_drop, if_pos hk]
  show StX X w0 _ (Res.row 43 5 (.slice (some ⟨g, 0, none⟩) n c) n (itemE.all (xs.set k y) ps) :: l)
  rw [e3]
  exact s2
theorem Pt.close2 {w0 W : World} {bo : Option Addr} {c : Nat} {xs : List ItemD} {qs : List ItemV} {Ls : List (List Res)} (hl : qs.length = xs.length) {a : Nat} {x : ItemD} {q : ItemV} (hx : xs[a]? = some x) (hq : qs[a]? = some q) (y : ItemD)
    (h : Pt w0 W ([Res.row 43 5 (.slice bo xs.length c) xs.length (itemE.all (xs.set a y) qs)] :: itemE.ress (xs.take a) (qs.take a) :: [rcptsR q.a1 q.c1 y.rc] :: [strsR q.a2 q.c2 y.body] :: itemE.ress (xs.drop (a + 1)) (qs.drop (a + 1)) :: Ls)) :
    Pt w0 W (itemsR bo c (xs.set a y) qs :: Ls) := by
  have e := (ress_set hl hx hq y q).2
  rw [set_self' hq] at e
  have e2 : itemsR bo c (xs.set a y) qs = Res.row 43 5 (.slice bo xs.length c) xs.length (itemE.all (xs.set a y) qs) :: (itemE.ress (xs.take a) (qs.take a) ++ ([rcptsR q.a1 q.c1 y.rc, strsR q.a2 q.c2 y.body] ++ itemE.ress (xs.drop (a + 1)) (qs.drop (a + 1)))) := by
    unfold itemsR Elem.row
    rw [e, List.length_set]
    rfl
  rw [e2]
  unfold Pt at h ⊢
  simpa only [List.flatten_cons, List.append_assoc, List.cons_append, List.nil_append] using h
theorem rcs_at {xs : List RcptD} {k : Nat} {r : RcptD} (hr : xs[k]? = some r) : rcs xs = rcs (xs.take k) ++ (rcptL r ++ rcs (xs.drop (k + 1))) := by
  rw [← rcs_cons, ← rcs_app, ← take_drop_at hr]
theorem all_put {xs : List ItemD} {ps : List ItemV} (hl : ps.length = xs.length) {k : Nat} {x : ItemD} {p : ItemV} (hx : xs[k]? = some x) (hp : ps[k]? = some p) (y : ItemD) : itemE.all (xs.set k y) ps = itemE.all (xs.take k) (ps.take k) ++ (itemL y p ++ itemE.all (xs.drop (k + 1)) (ps.drop (k + 1))) := by
  have hk := (List.getElem?_eq_some_iff.1 hx).1
  have e2 := take_drop_at hp
  have e3 : itemE.all (xs.set k y) ps = itemE.all (xs.take k ++ y :: xs.drop (k + 1)) (ps.take k ++ p :: ps.drop (k + 1)) := by
    rw [← e2, List.set_eq_take_append_cons_drop, if_pos hk]
  rw [e3, itemE.all_split (by simp; omega)]
  rfl

set_option maxHeartbeats 6400000 in
set_option maxRecDepth 100000 in
theorem remove_any (s : SpoolD) (L c : Nat) (bo : Option Addr) (qs : List ItemV) (hl : qs.length = s.items.length) (hn : s.items.length ≤ 1048576) (a k : Nat) (x : ItemD) (r : RcptD) (hx : s.items[a]? = some x) (hr : x.rc[k]? = some r) (hz : itemN x ≤ 1048576) (w0 w : World) (Ls : List (List Res)) (h : Pt w0 w ([Res.cells L [.int .i64 s.last, .slice bo s.items.length c]] :: itemsR bo c s.items qs :: Ls)) :
    Calls Tryz.prog 105 #[.pointer (some ⟨L, 0, none⟩), .int .i64 a, .int .i64 k] w fun e w' => ∃ b2 c2 q2, e = .returned (.tuple #[]) ∧ q2.length = (doneS s a (doneI x k)).items.length ∧ Pt w0 w' ([Res.cells L [.int .i64 s.last, .slice b2 (doneS s a (doneI x k)).items.length c2]] :: itemsR b2 c2 (doneS s a (doneI x k)).items q2 :: Ls) := by
  obtain ⟨q, hq⟩ : ∃ q, qs[a]? = some q := ⟨_, List.getElem?_eq_getElem (by have := (List.getElem?_eq_some_iff.1 hx).1; omega)⟩
  have HL : Seal _ := ⟨hl⟩
  have HX : Seal _ := ⟨hx⟩
  have HR : Seal _ := ⟨hr⟩
  have HQ : Seal _ := ⟨hq⟩
  have hik := (List.getElem?_eq_some_iff.1 hx).1
  have hkk := (List.getElem?_eq_some_iff.1 hr).1
  have hrl : x.rc.length ≤ 1048576 := (itemN_parts hz).2.2.1
  have s4 := (h.bring 1 rfl).open hl hx hq
  obtain ⟨g2, hg2⟩ : ∃ g2, q.a1 = some ⟨g2, 0, none⟩ := by
    rcases slice_or (s4.nth 2 rfl _ List.mem_cons_self) with h | h
    · omega
    · exact h
  obtain ⟨g3, rfl⟩ : ∃ g3, bo = some ⟨g3, 0, none⟩ := by
    rcases slice_or (s4.nth 0 rfl _ List.mem_cons_self) with h | h
    · omega
    · exact h
  obtain ⟨qa, qc, qb, qd⟩ := q
  dsimp only at hg2
  subst hg2
  have S4 : Seal (Pt w0 w ([itemRw g3 c s.items.length s.items qs] :: itemE.ress (s.items.take a) (qs.take a) :: [rcptsR (some ⟨g2, 0, none⟩) qc x.rc] :: [strsR qb qd x.body] :: itemE.ress (s.items.drop (a + 1)) (qs.drop (a + 1)) :: [Res.cells L [.int .i64 s.last, .slice (some ⟨g3, 0, none⟩) s.items.length c]] :: Ls)) := ⟨s4⟩
  clear h hl hx hr hq s4 hz
  obtain ⟨M, hM⟩ : ∃ M, k + (x.rc.length - (k + 1)) = M := ⟨_, rfl⟩
  obtain ⟨RC, hRC⟩ : ∃ RC, x.rc.take k ++ x.rc.drop (k + 1) = RC := ⟨_, rfl⟩
  have HM : Seal _ := ⟨hM⟩
  have HRC : Seal _ := ⟨hRC⟩
  have HML : Seal (RC.length = M) := ⟨by rw [← hRC, ← hM, List.length_append, List.length_take, List.length_drop, Nat.min_eq_left (by omega)]⟩
  have hMl : M < x.rc.length := by omega
  clear hM hRC
  have CD : Seal (Calls Tryz.prog 161 #[.slice (some ⟨g2, 0, none⟩) x.rc.length qc, .int .i64 k, .int .i64 ((k : Int) + 1)] w fun e w' => e = .returned (.slice (some ⟨g2, 0, none⟩) M qc) ∧ Pt w0 w' ([Res.row 105 4 (.slice (some ⟨g2, 0, none⟩) M qc) M (rcs RC)] :: [itemRw g3 c s.items.length s.items qs] :: itemE.ress (s.items.take a) (qs.take a) :: [strsR qb qd x.body] :: itemE.ress (s.items.drop (a + 1)) (qs.drop (a + 1)) :: [Res.cells L [.int .i64 s.last, .slice (some ⟨g3, 0, none⟩) s.items.length c]] :: Ls)) := ⟨by
    have h0 : Pt w0 w ([Res.row 105 4 (.slice (some ⟨g2, 0, none⟩) x.rc.length qc) x.rc.length (rcs x.rc)] :: [itemRw g3 c s.items.length s.items qs] :: itemE.ress (s.items.take a) (qs.take a) :: [strsR qb qd x.body] :: itemE.ress (s.items.drop (a + 1)) (qs.drop (a + 1)) :: [Res.cells L [.int .i64 s.last, .slice (some ⟨g3, 0, none⟩) s.items.length c]] :: Ls) := S4.out.bring 2 rfl
    rw [rcs_at HR.out] at h0
    refine (deleteRcpt_any _ g2 qc x.rc.length k (rcs (x.rc.take k)) (rcptL r) (rcs (x.rc.drop (k + 1))) w0 w h0 (rcs_lenT (Nat.le_of_lt hkk)) rfl hkk (rcs_one _)).mono ?_
    rintro e w' ⟨rfl, hs⟩
    rw [HM.out, ← rcs_app, HRC.out] at hs
    exact ⟨by rw [HM.out], hs⟩⟩
  have ha0 : (0 : Int) ≤ (a : Int) := by omega
  have ha1 : (a : Int) < (s.items.length : Int) := by omega
  have hwk : IntKind.i64.wrap ((k : Int) + 1) = (k : Int) + 1 := IntWalk.i64_in _ (by omega)
  have u1 := (S4.out.cellsM 5 rfl).c 1 _ rfl
  have ul := (S4.out.cellsM 5 rfl).lt
  have i3 := (item_at (S4.out.nth 0 rfl _ List.mem_cons_self) rfl HX.out HQ.out 3 (by decide) rfl).1
  go_enter Tryz.func105, Tryz.ntmps105
  go_wp2_with fail
  refine CD.out.mono ?_
  rintro e w1 ⟨rfl, hs⟩
  have S5 : Seal _ := ⟨hs⟩
  clear hs S4 CD u1 ul i3
  have i3 := item_at (S5.out.nth 1 rfl _ List.mem_cons_self) rfl HX.out HQ.out 3 (by decide) rfl
  obtain ⟨i3a, i3b⟩ := i3
  have hy : (doneI x k).rc = RC := HRC.out
  have eL : itemL (doneI x k) ⟨some ⟨g2, 0, none⟩, qc, qb, qd⟩ = (itemL x ⟨some ⟨g2, 0, none⟩, qc, qb, qd⟩).set 3 (.slice (some ⟨g2, 0, none⟩) M qc) := by
    show [Value.int .i64 x.id, .string x.fu, .string x.fd, .slice (some ⟨g2, 0, none⟩) (doneI x k).rc.length qc, .slice qb x.body.length qd] = [Value.int .i64 x.id, .string x.fu, .string x.fd, .slice (some ⟨g2, 0, none⟩) M qc, .slice qb x.body.length qd]
    rw [hy, HML.out]
  have S6 : Seal (Pt w0 (w1.setCell ⟨g3, a * 5 + 3, none⟩ (.slice (some ⟨g2, 0, none⟩) M qc)) ([itemRw g3 c s.items.length (s.items.set a (doneI x k)) qs] :: [Res.row 105 4 (.slice (some ⟨g2, 0, none⟩) M qc) M (rcs RC)] :: itemE.ress (s.items.take a) (qs.take a) :: [strsR qb qd x.body] :: itemE.ress (s.items.drop (a + 1)) (qs.drop (a + 1)) :: [Res.cells L [.int .i64 s.last, .slice (some ⟨g3, 0, none⟩) s.items.length c]] :: Ls)) := ⟨item_put (S5.out.bring 1 rfl) HL.out HX.out HQ.out 3 (by decide) _ (doneI x k) eL⟩
  have HYL : Seal (itemL (doneI x k) ⟨some ⟨g2, 0, none⟩, qc, qb, qd⟩ = [.int .i64 x.id, .string x.fu, .string x.fd, .slice (some ⟨g2, 0, none⟩) M qc, .slice qb x.body.length qd]) := ⟨eL⟩
  go_upto_region 2 with fail
  clear S5 i3a i3b eL
  generalize w1.setCell ⟨g3, a * 5 + 3, none⟩ (.slice (some ⟨g2, 0, none⟩) M qc) = w2 at *
  have i3 := (item_at (S6.out.nth 0 rfl _ List.mem_cons_self) List.length_set.symm (List.getElem?_set_self hik) HQ.out 3 (by decide) (v := .slice (some ⟨g2, 0, none⟩) M qc) (by rw [HYL.out]; rfl)).1
  by_cases hM0 : M = 0
  · have hMz : ((M : Int) == 0) = true := by rw [beq_iff_eq]; omega
    have hy0 : (doneI x k).rc = [] := hy.trans (List.eq_nil_of_length_eq_zero (HML.out.trans hM0))
    have hD : Seal (doneS s a (doneI x k) = ⟨s.last, s.items.take a ++ s.items.drop (a + 1)⟩) := ⟨by unfold doneS; rw [hy0, if_pos rfl]⟩
    obtain ⟨N, hN⟩ : ∃ N, a + (s.items.length - (a + 1)) = N := ⟨_, rfl⟩
    have HN : Seal _ := ⟨hN⟩
    clear hN
    have CI : Seal (Calls Tryz.prog 162 #[.slice (some ⟨g3, 0, none⟩) s.items.length c, .int .i64 a, .int .i64 ((a : Int) + 1)] w2 fun e w' => e = .returned (.slice (some ⟨g3, 0, none⟩) N c) ∧ Pt w0 w' ([Res.row 43 5 (.slice (some ⟨g3, 0, none⟩) N c) N (itemE.all (s.items.take a) (qs.take a) ++ itemE.all (s.items.drop (a + 1)) (qs.drop (a + 1)))] :: [Res.row 105 4 (.slice (some ⟨g2, 0, none⟩) M qc) M (rcs RC)] :: itemE.ress (s.items.take a) (qs.take a) :: [strsR qb qd x.body] :: itemE.ress (s.items.drop (a + 1)) (qs.drop (a + 1)) :: [Res.cells L [.int .i64 s.last, .slice (some ⟨g3, 0, none⟩) s.items.length c]] :: Ls)) := ⟨by
      have h0 := S6.out
      unfold itemRw at h0
      rw [show itemE.all (s.items.set a (doneI x k)) qs = itemE.all (s.items.take a) (qs.take a) ++ (itemL (doneI x k) ⟨some ⟨g2, 0, none⟩, qc, qb, qd⟩ ++ itemE.all (s.items.drop (a + 1)) (qs.drop (a + 1))) from all_put HL.out HX.out HQ.out _] at h0
      refine (deleteItem_any _ g3 c s.items.length a (itemE.all (s.items.take a) (qs.take a)) (itemL (doneI x k) ⟨some ⟨g2, 0, none⟩, qc, qb, qd⟩) (itemE.all (s.items.drop (a + 1)) (qs.drop (a + 1))) w0 w2 h0 (items_lenT HL.out (Nat.le_of_lt hik)) rfl hik (items_all_one _ _)).mono ?_
      rintro e w' ⟨rfl, hs⟩
      rw [HN.out] at hs
      exact ⟨by rw [HN.out], hs⟩⟩
    have hwa : IntKind.i64.wrap ((a : Int) + 1) = (a : Int) + 1 := IntWalk.i64_in _ (by omega)
    have u1 := (S6.out.cellsM 5 rfl).c 1 _ rfl
    have ul := (S6.out.cellsM 5 rfl).lt
    go_wp2_with fail
    refine CI.out.mono ?_
    rintro e w3 ⟨rfl, hs⟩
    have S7 : Seal _ := ⟨hs⟩
    clear hs S6 CI u1 ul i3
    have u1 := (S7.out.cellsM 5 rfl).c 1 _ rfl
    have uf := (S7.out.cellsM 5 rfl).f 1 (by simp)
    go_wp2
    have hNn : (s.items.take a ++ s.items.drop (a + 1)).length = N := by rw [← HN.out, List.length_append, List.length_take, List.length_drop, Nat.min_eq_left (by omega)]
    refine bodyPost_end (v := .tuple #[]) (by simp [results, Tryz.results105, go_sem]) rfl ⟨some ⟨g3, 0, none⟩, c, qs.take a ++ qs.drop (a + 1), rfl, by rw [hD.out, hNn, ← HN.out, List.length_append, List.length_take, List.length_drop, HL.out, Nat.min_eq_left (by omega)], ?_⟩
    rw [hD.out]
    have s8 := (S7.out.bring 5 rfl).set 1 (.slice (some ⟨g3, 0, none⟩) N c) (by simp)
    have s9 : Pt w0 (w3.setCell ⟨L, 1, none⟩ (.slice (some ⟨g3, 0, none⟩) N c)) ([Res.cells L [.int .i64 s.last, .slice (some ⟨g3, 0, none⟩) N c]] :: [Res.row 43 5 (.slice (some ⟨g3, 0, none⟩) N c) N (itemE.all (s.items.take a) (qs.take a) ++ itemE.all (s.items.drop (a + 1)) (qs.drop (a + 1)))] :: itemE.ress (s.items.take a) (qs.take a) :: itemE.ress (s.items.drop (a + 1)) (qs.drop (a + 1)) :: Ls) := ((s8.bring 2 rfl).tail.bring 3 rfl).tail
    have ht : (qs.take a).length = (s.items.take a).length := by have := HL.out; simp; omega
    have er : itemsR (some ⟨g3, 0, none⟩) c (s.items.take a ++ s.items.drop (a + 1)) (qs.take a ++ qs.drop (a + 1)) = Res.row 43 5 (.slice (some ⟨g3, 0, none⟩) N c) N (itemE.all (s.items.take a) (qs.take a) ++ itemE.all (s.items.drop (a + 1)) (qs.drop (a + 1))) :: (itemE.ress (s.items.take a) (qs.take a) ++ itemE.ress (s.items.drop (a + 1)) (qs.drop (a + 1))) := by
      unfold itemsR Elem.row
      rw [items_app ht, ress_app ht, hNn]
      rfl
    rw [er, hNn]
    unfold Pt at s9 ⊢
    simpa only [List.flatten_cons, List.append_assoc, List.cons_append, List.nil_append] using s9
  · have hMz : ((M : Int) == 0) = false := by rw [beq_eq_false_iff_ne]; omega
    have hne : RC ≠ [] := by
      intro e
      have h := HML.out
      rw [e] at h
      simp at h
      omega
    have hD : Seal (doneS s a (doneI x k) = ⟨s.last, s.items.set a (doneI x k)⟩) := ⟨by unfold doneS; rw [hy, if_neg hne]⟩
    go_wp2
    refine bodyPost_end (v := .tuple #[]) (by simp [results, Tryz.results105, go_sem]) rfl ⟨some ⟨g3, 0, none⟩, c, qs, rfl, by rw [hD.out, List.length_set]; exact HL.out, ?_⟩
    rw [hD.out, List.length_set]
    have s8 := (S6.out.bring 2 rfl).bring 1 rfl
    have er : Res.row 105 4 (.slice (some ⟨g2, 0, none⟩) M qc) M (rcs RC) = rcptsR (some ⟨g2, 0, none⟩) qc (doneI x k).rc := by
      rw [hy]
      show _ = Res.row 105 4 (.slice (some ⟨g2, 0, none⟩) RC.length qc) RC.length (rcs RC)
      rw [HML.out]
    rw [er] at s8
    exact (Pt.close2 HL.out HX.out HQ.out (doneI x k) s8).bring 1 rfl
end Go.Proofs.YtfffocfcnigogaaGreatDoor
