/- The walk of FnSpoolAdd. -/
import Derived.Test.YtcaknjdolfheaaaGreatDoorTk
import Derived.Test.YtcaknjdolfheaaaGreatDoorDrawSpAdd
import Derived.Test.YtcaknjdolfheaaaGreatDoorSaSpools
import Derived.Test.YtcaknjdolfheaaaGreatDoorSpoolAdds
import Derived.Test.YtcaknjdolfheaaaGreatDoorSpoolDue
import Derived.Test.YtcaknjdolfheaaaGreatDoorDrawSpools
import Derived.Test.YtcaknjdolfheaaaGreatDoorKindSpool
import Derived.Deep.RegionHeld3
namespace Go.Proofs.YtcaknjdolfheaaaGreatDoor
open Go Go.RowKit

theorem addR_flag {s : SpoolD} {m : MailD} {now : Int} (h : spoolB s = true) (hq : (addR s m now).2 = false) : (addR s m now).1 = s := by
  cases e : mayAdd s m now with
  | false => rw [addR_no h e]
  | true => rw [addR_yes h e] at hq; cases hq
theorem addR_all {s : SpoolD} {m : MailD} {now : Int} (h : spoolB s = true) (hq : (addR s m now).2 = true) :
    spoolB (addR s m now).1 = true ∧ manyR (addR s m now).1 = manyR s + m.rc.length ∧ (addR s m now).1.last = s.last + 1 ∧ dueR (addR s m now).1 now = dueR s now ++ [s.last + 1] ∧ ∃ y, (addR s m now).1.items = s.items ++ [y] := by
  cases e : mayAdd s m now with
  | false => rw [addR_no h e] at hq; cases hq
  | true =>
    rw [addR_yes h e]
    exact ⟨addD_ok h e, addD_many h e, rfl, addD_due h e, _, rfl⟩
theorem many_low {s : SpoolD} (h : spoolB s = true) : 0 ≤ manyR s ∧ manyR s ≤ 10100 := by
  have h1 := (spool_small h).1
  have h2 := many_le s s.items.length
  rw [List.take_length] at h2
  unfold manyR
  rw [if_pos h]
  omega
theorem ints_last {w : World} {g c k : Nat} {xs : List Int} {x : Int} (h : (intsR (some ⟨g, 0, none⟩) c xs).P w) (hx : xs[k]? = some x) : w.cell? ⟨g, k, none⟩ = some (.int .i64 x) := by
  obtain ⟨b, off, e, h1⟩ := IntRow.of_own h k x hx
  simp only [Option.some.injEq, Addr.mk.injEq, and_true] at e
  obtain ⟨rfl, rfl⟩ := e
  rwa [Nat.zero_add] at h1
theorem mail_of_parts {w : World} {m : MailD} {p : MailP} (h : ∀ r ∈ mailKR m p, r.P w) : MailAt w m p.a1 p.a2 := mailK_read trivial h

set_option maxHeartbeats 12800000 in
set_option maxRecDepth 100000 in
theorem wFnSpoolAdd.walk (ao : Option Addr) (len cap : Nat) (w : World) (hr : ByteRow w ao len) (hl : len ≤ cap) (hc : cap ≤ maxLen) (hm : HasMax w) :
    Calls Tryz.prog 3 #[.slice ao len cap] w fun e w' => e = .returned (.bool true) ∧ Below w.heap.size w w' := by
  have HM : Seal _ := ⟨hm⟩
  have C : Seal _ := ⟨drawAdd_any ao len cap w hr hl hc⟩
  clear hm hr
  go_enter Tryz.func3, Tryz.ntmps3
  by_cases hlen : len > 1048576
  · go_wp2
    go_ret
    exact ⟨rfl, Below.refl _ _⟩
  go_wp2_with fail
  refine C.out.mono ?_
  rintro e w1 ⟨s, bo, d, ps, m, a1, c1, a2, c2, now, rfl, hs, hpl, hdr, htm, hk⟩
  have HZ : Seal (spoolKZ s) := ⟨by have := hs.small; unfold spoolKZ; omega⟩
  have HMZ : Seal (mailKZ m) := ⟨mailSz_up hdr.sz (by decide)⟩
  have h10 := hs.len
  have hrc5 := hdr.rc
  have S1 : Seal (Pt w ((w1.alloc (.cells #[.int .i64 s.last, .slice bo s.items.length d] 25)).alloc (.cells #[.string m.fu, .string m.fd, .slice a1 m.rc.length c1, .slice a2 m.body.length c2] 31)) [[Res.cells (w1.heap.size + 1) [.string m.fu, .string m.fd, .slice a1 m.rc.length c1, .slice a2 m.body.length c2]], [Res.cells w1.heap.size [.int .i64 s.last, .slice bo s.items.length d]], mailKR m ⟨a1, c1, a2, c2⟩, spoolKR s ⟨bo, d, ps⟩]) := ⟨by
    have h0 : Pt w w1 [mailKR m ⟨a1, c1, a2, c2⟩, spoolKR s ⟨bo, d, ps⟩] := by show St _ _ _; simpa using hk
    have h := (h0.alloc #[.int .i64 s.last, .slice bo s.items.length d] 25).alloc #[.string m.fu, .string m.fd, .slice a1 m.rc.length c1, .slice a2 m.body.length c2] 31
    simp only [World.size_alloc] at h
    exact h⟩
  have HF : Seal (spoolKF s ⟨bo, d, ps⟩) := ⟨hpl⟩
  clear hs hk C hl hc hpl htm hdr
  obtain ⟨D, hD⟩ : ∃ D, (addR s m now).1 = D := ⟨_, rfl⟩
  obtain ⟨q, hq⟩ : ∃ q, (addR s m now).2 = q := ⟨_, rfl⟩
  have HD : Seal _ := ⟨hD⟩
  have HQ : Seal _ := ⟨hq⟩
  have HZD : Seal (spoolKZ D) := ⟨hD ▸ addR_sz s m now HZ.out⟩
  clear hD hq
  have CS : Seal (∀ (W : World) (Ls : List (List Res)) (p : SpoolP) (pm : MailP) (i j : Nat), Pt w W Ls → Ls[i]? = some (spoolKR s p) → Ls[j]? = some (mailKR m pm) → spoolKF s p → Calls Tryz.prog 17 #[.agg (spoolKV s p), .agg (mailKV m pm), .int .i64 now] W fun e w' => ∃ r, e = .returned (.tuple #[.agg (spoolKV D r), .bool q]) ∧ spoolKF D r ∧ St W w' (spoolKR D r)) := ⟨fun W Ls p pm i j h hi hj hf => by rw [← HD.out, ← HQ.out]; exact specSpoolAdd_K s m now HZ.out HMZ.out w W Ls p pm i j h hi hj hf trivial⟩
  have CI : Seal (∀ (W : World) (Ls : List (List Res)) (p : SpoolP) (pm : MailP) (i j : Nat), HasMax W → Pt w W Ls → Ls[i]? = some (spoolKR s p) → Ls[j]? = some (mailKR m pm) → spoolKF s p → Calls Tryz.prog 16 #[.agg (spoolKV s p), .agg (mailKV m pm), .int .i64 now] W fun e w' => ∃ r, e = .returned (.tuple #[.agg (spoolKV D r), .bool q]) ∧ spoolKF D r ∧ St W w' (spoolKR D r)) := ⟨fun W Ls p pm i j hx h hi hj hf => by rw [← HD.out, ← HQ.out]; exact implSpoolAdd_K s m now HZ.out HMZ.out w W Ls hx p pm i j h hi hj hf trivial⟩
  have qq : (q != q) = false := by cases q <;> rfl
  have qe : (q == q) = true := by cases q <;> rfl
  have g0 := (S1.out.cellsM 1 rfl).c 0 _ rfl
  have g1 := (S1.out.cellsM 1 rfl).c 1 _ rfl
  have h0 := (S1.out.cellsM 0 rfl).c 0 _ rfl
  have h1 := (S1.out.cellsM 0 rfl).c 1 _ rfl
  have h2 := (S1.out.cellsM 0 rfl).c 2 _ rfl
  have h3 := (S1.out.cellsM 0 rfl).c 3 _ rfl
  go_wp2_with fail
  refine (CI.out _ _ ⟨bo, d, ps⟩ ⟨a1, c1, a2, c2⟩ 3 2 (HM.out.below S1.out.below (Nat.le_refl _)) S1.out rfl rfl HF.out).mono ?_
  rintro e w2 ⟨r, rfl, hrf, hk⟩
  have HR : Seal _ := ⟨hrf⟩
  have S2 : Seal (Pt w (w2.alloc (.cells #[.int .i64 D.last, .slice r.a D.items.length r.c] 25)) [[Res.cells w2.heap.size [.int .i64 D.last, .slice r.a D.items.length r.c]], spoolKR D r, [Res.cells (w1.heap.size + 1) [.string m.fu, .string m.fd, .slice a1 m.rc.length c1, .slice a2 m.body.length c2]], [Res.cells w1.heap.size [.int .i64 s.last, .slice bo s.items.length d]], mailKR m ⟨a1, c1, a2, c2⟩, spoolKR s ⟨bo, d, ps⟩]) := ⟨(Pt.join S1.out hk).alloc #[.int .i64 D.last, .slice r.a D.items.length r.c] 25⟩
  clear hk hrf S1 g0 g1 h0 h1 h2 h3 CI
  have g0 := (S2.out.cellsM 3 rfl).c 0 _ rfl
  have g1 := (S2.out.cellsM 3 rfl).c 1 _ rfl
  have h0 := (S2.out.cellsM 2 rfl).c 0 _ rfl
  have h1 := (S2.out.cellsM 2 rfl).c 1 _ rfl
  have h2 := (S2.out.cellsM 2 rfl).c 2 _ rfl
  have h3 := (S2.out.cellsM 2 rfl).c 3 _ rfl
  go_wp2_with fail
  refine (CS.out _ _ ⟨bo, d, ps⟩ ⟨a1, c1, a2, c2⟩ 5 4 S2.out rfl rfl HF.out).mono ?_
  rintro e w3 ⟨t, rfl, htf, hk⟩
  have HT : Seal _ := ⟨htf⟩
  have S3 : Seal (Pt w (w3.alloc (.cells #[.int .i64 D.last, .slice t.a D.items.length t.c] 25)) [[Res.cells w3.heap.size [.int .i64 D.last, .slice t.a D.items.length t.c]], spoolKR D t, [Res.cells w2.heap.size [.int .i64 D.last, .slice r.a D.items.length r.c]], spoolKR D r, [Res.cells (w1.heap.size + 1) [.string m.fu, .string m.fd, .slice a1 m.rc.length c1, .slice a2 m.body.length c2]], [Res.cells w1.heap.size [.int .i64 s.last, .slice bo s.items.length d]], mailKR m ⟨a1, c1, a2, c2⟩, spoolKR s ⟨bo, d, ps⟩]) := ⟨(Pt.join S2.out hk).alloc #[.int .i64 D.last, .slice t.a D.items.length t.c] 25⟩
  clear hk htf S2 g0 g1 h0 h1 h2 h3 CS
  go_upto_region 6 with fail
  generalize w3.alloc (.cells #[.int .i64 D.last, .slice t.a D.items.length t.c] 25) = w4 at *
  cases hok : spoolB s
  · have HOK : Seal _ := ⟨hok⟩
    clear hok
    have S4 : Seal (Pt w w4.drew [[Res.cells (w3.heap.size) [.int .i64 D.last, .slice t.a D.items.length t.c]], spoolKR D t, [Res.cells (w2.heap.size) [.int .i64 D.last, .slice r.a D.items.length r.c]], spoolKR D r, [Res.cells (w1.heap.size + 1) [.string m.fu, .string m.fd, .slice a1 m.rc.length c1, .slice a2 m.body.length c2]], [Res.cells (w1.heap.size) [.int .i64 s.last, .slice bo s.items.length d]], mailKR m ⟨a1, c1, a2, c2⟩, spoolKR s ⟨bo, d, ps⟩]) := ⟨S3.out.drew⟩
    refine wp_region_held_drew (S := (fun w' => w'.cell? ⟨w2.heap.size, 0, none⟩ = some (.int .i64 D.last) ∧ w'.cell? ⟨w2.heap.size, 1, none⟩ = some (.slice r.a D.items.length r.c) ∧ w'.cell? ⟨w3.heap.size, 0, none⟩ = some (.int .i64 D.last) ∧ w'.cell? ⟨w3.heap.size, 1, none⟩ = some (.slice t.a D.items.length t.c) ∧ w'.cell? ⟨w1.heap.size, 0, none⟩ = some (.int .i64 s.last) ∧ w'.cell? ⟨w1.heap.size, 1, none⟩ = some (.slice bo s.items.length d))) (by kernel_rfl) ⟨(S4.out.cellsM 2 rfl).c 0 _ rfl, (S4.out.cellsM 2 rfl).c 1 _ rfl, (S4.out.cellsM 0 rfl).c 0 _ rfl, (S4.out.cellsM 0 rfl).c 1 _ rfl, (S4.out.cellsM 5 rfl).c 0 _ rfl, (S4.out.cellsM 5 rfl).c 1 _ rfl⟩ (fun hHeld => ?_)
    refine tkH 0 (by assumption) (h := ?_)
    refine tkH 1 (by assumption) (h := ?_)
    refine tkH 2 (by assumption) (h := ?_)
    refine tkH 3 (by assumption) (h := ?_)
    refine tkH 4 (by assumption) (h := ?_)
    refine tkH 5 (by assumption) (h := ?_)
    refine wpAnyH_ready (rs := [6]) (by kernel_rfl) (by simp) ?_
    refine AllReadyH.cons rfl (fun K hK => ?_) AllReadyH.nil
    try dsimp only at hHeld
    go_split_ands
    go_simp
    refine (saSpoolEq D r.a t.a r.c t.c _ (spoolK_read HR.out (S4.out.nth 3 rfl)) (spoolK_read HT.out (S4.out.nth 1 rfl)) HZD.out).mono ?_
    rintro e u1 ⟨rfl, hb⟩
    have S5 : Seal (Pt w u1 [[Res.cells (w3.heap.size) [.int .i64 D.last, .slice t.a D.items.length t.c]], spoolKR D t, [Res.cells (w2.heap.size) [.int .i64 D.last, .slice r.a D.items.length r.c]], spoolKR D r, [Res.cells (w1.heap.size + 1) [.string m.fu, .string m.fd, .slice a1 m.rc.length c1, .slice a2 m.body.length c2]], [Res.cells (w1.heap.size) [.int .i64 s.last, .slice bo s.items.length d]], mailKR m ⟨a1, c1, a2, c2⟩, spoolKR s ⟨bo, d, ps⟩]) := ⟨S4.out.later hb⟩
    clear hb
    refine hK.out _ _ ⟨(S5.out.cellsM 2 rfl).c 0 _ rfl, (S5.out.cellsM 2 rfl).c 1 _ rfl, (S5.out.cellsM 0 rfl).c 0 _ rfl, (S5.out.cellsM 0 rfl).c 1 _ rfl, (S5.out.cellsM 5 rfl).c 0 _ rfl, (S5.out.cellsM 5 rfl).c 1 _ rfl⟩ (fun hHeld => ?_)
    clear hK K
    try simp only [Act.put, List.getElem_toArray, List.getElem_cons_succ, List.getElem_cons_zero, List.setIfInBounds_toArray, List.set_cons_zero, List.set_cons_succ]
    refine tkH 7 (by assumption) (h := ?_)
    refine tkH 8 (by assumption) (h := ?_)
    refine tkH 9 (by assumption) (h := ?_)
    refine tkH 10 (by assumption) (h := ?_)
    refine tkH 12 (by assumption) (h := ?_)
    refine wpAnyH_ready (rs := [11]) (by kernel_rfl) (by simp) ?_
    refine AllReadyH.cons rfl (fun K hK => ?_) AllReadyH.nil
    try dsimp only at hHeld
    go_split_ands
    go_simp
    refine (implSpoolOk_any s bo d _ (HM.out.below S5.out.below (Nat.le_refl _)) (spoolK_read HF.out (S5.out.nth 7 rfl)) HZ.out).mono ?_
    rintro e u2 ⟨rfl, hb⟩
    rw [HOK.out]
    have S6 : Seal (Pt w u2 [[Res.cells (w3.heap.size) [.int .i64 D.last, .slice t.a D.items.length t.c]], spoolKR D t, [Res.cells (w2.heap.size) [.int .i64 D.last, .slice r.a D.items.length r.c]], spoolKR D r, [Res.cells (w1.heap.size + 1) [.string m.fu, .string m.fd, .slice a1 m.rc.length c1, .slice a2 m.body.length c2]], [Res.cells (w1.heap.size) [.int .i64 s.last, .slice bo s.items.length d]], mailKR m ⟨a1, c1, a2, c2⟩, spoolKR s ⟨bo, d, ps⟩]) := ⟨S5.out.later hb⟩
    clear hb
    refine hK.out _ _ ⟨(S6.out.cellsM 2 rfl).c 0 _ rfl, (S6.out.cellsM 2 rfl).c 1 _ rfl, (S6.out.cellsM 0 rfl).c 0 _ rfl, (S6.out.cellsM 0 rfl).c 1 _ rfl, (S6.out.cellsM 5 rfl).c 0 _ rfl, (S6.out.cellsM 5 rfl).c 1 _ rfl⟩ (fun hHeld => ?_)
    clear hK K
    try simp only [Act.put, List.getElem_toArray, List.getElem_cons_succ, List.getElem_cons_zero, List.setIfInBounds_toArray, List.set_cons_zero, List.set_cons_succ]
    refine wpAnyH_ready (rs := [13]) (by kernel_rfl) (by simp) ?_
    refine AllReadyH.cons rfl (fun K hK => ?_) AllReadyH.nil
    try dsimp only at hHeld
    go_split_ands
    go_simp
    refine (specSpoolOk_any s bo d _ (spoolK_read HF.out (S6.out.nth 7 rfl)) HZ.out).mono ?_
    rintro e u3 ⟨rfl, hb⟩
    rw [HOK.out]
    have S7 : Seal (Pt w u3 [[Res.cells (w3.heap.size) [.int .i64 D.last, .slice t.a D.items.length t.c]], spoolKR D t, [Res.cells (w2.heap.size) [.int .i64 D.last, .slice r.a D.items.length r.c]], spoolKR D r, [Res.cells (w1.heap.size + 1) [.string m.fu, .string m.fd, .slice a1 m.rc.length c1, .slice a2 m.body.length c2]], [Res.cells (w1.heap.size) [.int .i64 s.last, .slice bo s.items.length d]], mailKR m ⟨a1, c1, a2, c2⟩, spoolKR s ⟨bo, d, ps⟩]) := ⟨S6.out.later hb⟩
    clear hb
    refine hK.out _ _ ⟨(S7.out.cellsM 2 rfl).c 0 _ rfl, (S7.out.cellsM 2 rfl).c 1 _ rfl, (S7.out.cellsM 0 rfl).c 0 _ rfl, (S7.out.cellsM 0 rfl).c 1 _ rfl, (S7.out.cellsM 5 rfl).c 0 _ rfl, (S7.out.cellsM 5 rfl).c 1 _ rfl⟩ (fun hHeld => ?_)
    clear hK K
    try simp only [Act.put, List.getElem_toArray, List.getElem_cons_succ, List.getElem_cons_zero, List.setIfInBounds_toArray, List.set_cons_zero, List.set_cons_succ]
    refine tkH 14 (by assumption) (h := ?_)
    refine tkH 15 (by assumption) (h := ?_)
    refine tkH 16 (by assumption) (h := ?_)
    refine tkH 17 (by assumption) (h := ?_)
    refine wpAnyH_ready (rs := [18]) (by kernel_rfl) (by simp) ?_
    refine AllReadyH.cons rfl (fun K hK => ?_) AllReadyH.nil
    try dsimp only at hHeld
    go_split_ands
    go_simp
    refine (implSpoolOk_any s bo d _ (HM.out.below S7.out.below (Nat.le_refl _)) (spoolK_read HF.out (S7.out.nth 7 rfl)) HZ.out).mono ?_
    rintro e u4 ⟨rfl, hb⟩
    rw [HOK.out]
    have S8 : Seal (Pt w u4 [[Res.cells (w3.heap.size) [.int .i64 D.last, .slice t.a D.items.length t.c]], spoolKR D t, [Res.cells (w2.heap.size) [.int .i64 D.last, .slice r.a D.items.length r.c]], spoolKR D r, [Res.cells (w1.heap.size + 1) [.string m.fu, .string m.fd, .slice a1 m.rc.length c1, .slice a2 m.body.length c2]], [Res.cells (w1.heap.size) [.int .i64 s.last, .slice bo s.items.length d]], mailKR m ⟨a1, c1, a2, c2⟩, spoolKR s ⟨bo, d, ps⟩]) := ⟨S7.out.later hb⟩
    clear hb
    refine hK.out _ _ ⟨(S8.out.cellsM 2 rfl).c 0 _ rfl, (S8.out.cellsM 2 rfl).c 1 _ rfl, (S8.out.cellsM 0 rfl).c 0 _ rfl, (S8.out.cellsM 0 rfl).c 1 _ rfl, (S8.out.cellsM 5 rfl).c 0 _ rfl, (S8.out.cellsM 5 rfl).c 1 _ rfl⟩ (fun hHeld => ?_)
    clear hK K
    try simp only [Act.put, List.getElem_toArray, List.getElem_cons_succ, List.getElem_cons_zero, List.setIfInBounds_toArray, List.set_cons_zero, List.set_cons_succ]
    refine tkH 19 (by assumption) (h := ?_)
    refine tkH 20 (by assumption) (h := ?_)
    refine wpAnyH_done (by kernel_rfl) ?_ _
    go_upto_region 7 with fail
    have S9 : Seal (Pt w u4.drew [[Res.cells (w3.heap.size) [.int .i64 D.last, .slice t.a D.items.length t.c]], spoolKR D t, [Res.cells (w2.heap.size) [.int .i64 D.last, .slice r.a D.items.length r.c]], spoolKR D r, [Res.cells (w1.heap.size + 1) [.string m.fu, .string m.fd, .slice a1 m.rc.length c1, .slice a2 m.body.length c2]], [Res.cells (w1.heap.size) [.int .i64 s.last, .slice bo s.items.length d]], mailKR m ⟨a1, c1, a2, c2⟩, spoolKR s ⟨bo, d, ps⟩]) := ⟨S8.out.drew⟩
    refine wp_region_held_drew (S := (fun w' => w'.cell? ⟨w2.heap.size, 0, none⟩ = some (.int .i64 D.last) ∧ w'.cell? ⟨w2.heap.size, 1, none⟩ = some (.slice r.a D.items.length r.c) ∧ w'.cell? ⟨w3.heap.size, 0, none⟩ = some (.int .i64 D.last) ∧ w'.cell? ⟨w3.heap.size, 1, none⟩ = some (.slice t.a D.items.length t.c) ∧ w'.cell? ⟨w1.heap.size, 0, none⟩ = some (.int .i64 s.last) ∧ w'.cell? ⟨w1.heap.size, 1, none⟩ = some (.slice bo s.items.length d))) (by kernel_rfl) ⟨(S9.out.cellsM 2 rfl).c 0 _ rfl, (S9.out.cellsM 2 rfl).c 1 _ rfl, (S9.out.cellsM 0 rfl).c 0 _ rfl, (S9.out.cellsM 0 rfl).c 1 _ rfl, (S9.out.cellsM 5 rfl).c 0 _ rfl, (S9.out.cellsM 5 rfl).c 1 _ rfl⟩ (fun hHeld => ?_)
    refine tkH 0 (by assumption) (h := ?_)
    refine tkH 1 (by assumption) (h := ?_)
    refine tkH 2 (by assumption) (h := ?_)
    refine tkH 3 (by assumption) (h := ?_)
    refine tkH 4 (by assumption) (h := ?_)
    refine tkH 5 (by assumption) (h := ?_)
    refine wpAnyH_ready (rs := [6]) (by kernel_rfl) (by simp) ?_
    refine AllReadyH.cons rfl (fun K hK => ?_) AllReadyH.nil
    try dsimp only at hHeld
    go_split_ands
    go_simp
    refine (saSpoolEq D r.a t.a r.c t.c _ (spoolK_read HR.out (S9.out.nth 3 rfl)) (spoolK_read HT.out (S9.out.nth 1 rfl)) HZD.out).mono ?_
    rintro e u5 ⟨rfl, hb⟩
    have S10 : Seal (Pt w u5 [[Res.cells (w3.heap.size) [.int .i64 D.last, .slice t.a D.items.length t.c]], spoolKR D t, [Res.cells (w2.heap.size) [.int .i64 D.last, .slice r.a D.items.length r.c]], spoolKR D r, [Res.cells (w1.heap.size + 1) [.string m.fu, .string m.fd, .slice a1 m.rc.length c1, .slice a2 m.body.length c2]], [Res.cells (w1.heap.size) [.int .i64 s.last, .slice bo s.items.length d]], mailKR m ⟨a1, c1, a2, c2⟩, spoolKR s ⟨bo, d, ps⟩]) := ⟨S9.out.later hb⟩
    clear hb
    refine hK.out _ _ ⟨(S10.out.cellsM 2 rfl).c 0 _ rfl, (S10.out.cellsM 2 rfl).c 1 _ rfl, (S10.out.cellsM 0 rfl).c 0 _ rfl, (S10.out.cellsM 0 rfl).c 1 _ rfl, (S10.out.cellsM 5 rfl).c 0 _ rfl, (S10.out.cellsM 5 rfl).c 1 _ rfl⟩ (fun hHeld => ?_)
    clear hK K
    try simp only [Act.put, List.getElem_toArray, List.getElem_cons_succ, List.getElem_cons_zero, List.setIfInBounds_toArray, List.set_cons_zero, List.set_cons_succ]
    refine tkH 7 (by assumption) (h := ?_)
    refine tkH 8 (by assumption) (h := ?_)
    refine tkH 9 (by assumption) (h := ?_)
    refine tkH 11 (by assumption) (h := ?_)
    refine wpAnyH_ready (rs := [10]) (by kernel_rfl) (by simp) ?_
    refine AllReadyH.cons rfl (fun K hK => ?_) AllReadyH.nil
    try dsimp only at hHeld
    go_split_ands
    go_simp
    refine (implSpoolOk_any s bo d _ (HM.out.below S10.out.below (Nat.le_refl _)) (spoolK_read HF.out (S10.out.nth 7 rfl)) HZ.out).mono ?_
    rintro e u6 ⟨rfl, hb⟩
    rw [HOK.out]
    have S11 : Seal (Pt w u6 [[Res.cells (w3.heap.size) [.int .i64 D.last, .slice t.a D.items.length t.c]], spoolKR D t, [Res.cells (w2.heap.size) [.int .i64 D.last, .slice r.a D.items.length r.c]], spoolKR D r, [Res.cells (w1.heap.size + 1) [.string m.fu, .string m.fd, .slice a1 m.rc.length c1, .slice a2 m.body.length c2]], [Res.cells (w1.heap.size) [.int .i64 s.last, .slice bo s.items.length d]], mailKR m ⟨a1, c1, a2, c2⟩, spoolKR s ⟨bo, d, ps⟩]) := ⟨S10.out.later hb⟩
    clear hb
    refine hK.out _ _ ⟨(S11.out.cellsM 2 rfl).c 0 _ rfl, (S11.out.cellsM 2 rfl).c 1 _ rfl, (S11.out.cellsM 0 rfl).c 0 _ rfl, (S11.out.cellsM 0 rfl).c 1 _ rfl, (S11.out.cellsM 5 rfl).c 0 _ rfl, (S11.out.cellsM 5 rfl).c 1 _ rfl⟩ (fun hHeld => ?_)
    clear hK K
    try simp only [Act.put, List.getElem_toArray, List.getElem_cons_succ, List.getElem_cons_zero, List.setIfInBounds_toArray, List.set_cons_zero, List.set_cons_succ]
    refine wpAnyH_ready (rs := [12]) (by kernel_rfl) (by simp) ?_
    refine AllReadyH.cons rfl (fun K hK => ?_) AllReadyH.nil
    try dsimp only at hHeld
    go_split_ands
    go_simp
    refine (specSpoolOk_any s bo d _ (spoolK_read HF.out (S11.out.nth 7 rfl)) HZ.out).mono ?_
    rintro e u7 ⟨rfl, hb⟩
    rw [HOK.out]
    have S12 : Seal (Pt w u7 [[Res.cells (w3.heap.size) [.int .i64 D.last, .slice t.a D.items.length t.c]], spoolKR D t, [Res.cells (w2.heap.size) [.int .i64 D.last, .slice r.a D.items.length r.c]], spoolKR D r, [Res.cells (w1.heap.size + 1) [.string m.fu, .string m.fd, .slice a1 m.rc.length c1, .slice a2 m.body.length c2]], [Res.cells (w1.heap.size) [.int .i64 s.last, .slice bo s.items.length d]], mailKR m ⟨a1, c1, a2, c2⟩, spoolKR s ⟨bo, d, ps⟩]) := ⟨S11.out.later hb⟩
    clear hb
    refine hK.out _ _ ⟨(S12.out.cellsM 2 rfl).c 0 _ rfl, (S12.out.cellsM 2 rfl).c 1 _ rfl, (S12.out.cellsM 0 rfl).c 0 _ rfl, (S12.out.cellsM 0 rfl).c 1 _ rfl, (S12.out.cellsM 5 rfl).c 0 _ rfl, (S12.out.cellsM 5 rfl).c 1 _ rfl⟩ (fun hHeld => ?_)
    clear hK K
    try simp only [Act.put, List.getElem_toArray, List.getElem_cons_succ, List.getElem_cons_zero, List.setIfInBounds_toArray, List.set_cons_zero, List.set_cons_succ]
    refine tkH 13 (by assumption) (h := ?_)
    refine tkH 14 (by assumption) (h := ?_)
    refine wpAnyH_ready (rs := [15]) (by kernel_rfl) (by simp) ?_
    refine AllReadyH.cons rfl (fun K hK => ?_) AllReadyH.nil
    go_simp
    refine hK.out _ _ (by assumption) (fun hHeld => ?_)
    clear hK K
    try simp only [Act.put, List.getElem_toArray, List.getElem_cons_succ, List.getElem_cons_zero, List.setIfInBounds_toArray, List.set_cons_zero, List.set_cons_succ]
    refine wpAnyH_done (by kernel_rfl) ?_ _
    go_wp2
    go_ret
    exact ⟨rfl, S12.out.below⟩
  have HOK : Seal _ := ⟨hok⟩
  clear hok
  have S4 : Seal (Pt w w4.drew [[Res.cells (w3.heap.size) [.int .i64 D.last, .slice t.a D.items.length t.c]], spoolKR D t, [Res.cells (w2.heap.size) [.int .i64 D.last, .slice r.a D.items.length r.c]], spoolKR D r, [Res.cells (w1.heap.size + 1) [.string m.fu, .string m.fd, .slice a1 m.rc.length c1, .slice a2 m.body.length c2]], [Res.cells (w1.heap.size) [.int .i64 s.last, .slice bo s.items.length d]], mailKR m ⟨a1, c1, a2, c2⟩, spoolKR s ⟨bo, d, ps⟩]) := ⟨S3.out.drew⟩
  refine wp_region_held_drew (S := (fun w' => w'.cell? ⟨w2.heap.size, 0, none⟩ = some (.int .i64 D.last) ∧ w'.cell? ⟨w2.heap.size, 1, none⟩ = some (.slice r.a D.items.length r.c) ∧ w'.cell? ⟨w3.heap.size, 0, none⟩ = some (.int .i64 D.last) ∧ w'.cell? ⟨w3.heap.size, 1, none⟩ = some (.slice t.a D.items.length t.c) ∧ w'.cell? ⟨w1.heap.size, 0, none⟩ = some (.int .i64 s.last) ∧ w'.cell? ⟨w1.heap.size, 1, none⟩ = some (.slice bo s.items.length d))) (by kernel_rfl) ⟨(S4.out.cellsM 2 rfl).c 0 _ rfl, (S4.out.cellsM 2 rfl).c 1 _ rfl, (S4.out.cellsM 0 rfl).c 0 _ rfl, (S4.out.cellsM 0 rfl).c 1 _ rfl, (S4.out.cellsM 5 rfl).c 0 _ rfl, (S4.out.cellsM 5 rfl).c 1 _ rfl⟩ (fun hHeld => ?_)
  refine tkH 0 (by assumption) (h := ?_)
  refine tkH 1 (by assumption) (h := ?_)
  refine tkH 2 (by assumption) (h := ?_)
  refine tkH 3 (by assumption) (h := ?_)
  refine tkH 4 (by assumption) (h := ?_)
  refine tkH 5 (by assumption) (h := ?_)
  refine wpAnyH_ready (rs := [6]) (by kernel_rfl) (by simp) ?_
  refine AllReadyH.cons rfl (fun K hK => ?_) AllReadyH.nil
  try dsimp only at hHeld
  go_split_ands
  go_simp
  refine (saSpoolEq D r.a t.a r.c t.c _ (spoolK_read HR.out (S4.out.nth 3 rfl)) (spoolK_read HT.out (S4.out.nth 1 rfl)) HZD.out).mono ?_
  rintro e u8 ⟨rfl, hb⟩
  have S5 : Seal (Pt w u8 [[Res.cells (w3.heap.size) [.int .i64 D.last, .slice t.a D.items.length t.c]], spoolKR D t, [Res.cells (w2.heap.size) [.int .i64 D.last, .slice r.a D.items.length r.c]], spoolKR D r, [Res.cells (w1.heap.size + 1) [.string m.fu, .string m.fd, .slice a1 m.rc.length c1, .slice a2 m.body.length c2]], [Res.cells (w1.heap.size) [.int .i64 s.last, .slice bo s.items.length d]], mailKR m ⟨a1, c1, a2, c2⟩, spoolKR s ⟨bo, d, ps⟩]) := ⟨S4.out.later hb⟩
  clear hb
  refine hK.out _ _ ⟨(S5.out.cellsM 2 rfl).c 0 _ rfl, (S5.out.cellsM 2 rfl).c 1 _ rfl, (S5.out.cellsM 0 rfl).c 0 _ rfl, (S5.out.cellsM 0 rfl).c 1 _ rfl, (S5.out.cellsM 5 rfl).c 0 _ rfl, (S5.out.cellsM 5 rfl).c 1 _ rfl⟩ (fun hHeld => ?_)
  clear hK K
  try simp only [Act.put, List.getElem_toArray, List.getElem_cons_succ, List.getElem_cons_zero, List.setIfInBounds_toArray, List.set_cons_zero, List.set_cons_succ]
  refine tkH 7 (by assumption) (h := ?_)
  refine tkH 8 (by assumption) (h := ?_)
  refine tkH 9 (by assumption) (h := ?_)
  refine tkH 10 (by assumption) (h := ?_)
  refine tkH 12 (by assumption) (h := ?_)
  refine wpAnyH_ready (rs := [11]) (by kernel_rfl) (by simp) ?_
  refine AllReadyH.cons rfl (fun K hK => ?_) AllReadyH.nil
  try dsimp only at hHeld
  go_split_ands
  go_simp
  refine (implSpoolOk_any s bo d _ (HM.out.below S5.out.below (Nat.le_refl _)) (spoolK_read HF.out (S5.out.nth 7 rfl)) HZ.out).mono ?_
  rintro e u9 ⟨rfl, hb⟩
  rw [HOK.out]
  have S6 : Seal (Pt w u9 [[Res.cells (w3.heap.size) [.int .i64 D.last, .slice t.a D.items.length t.c]], spoolKR D t, [Res.cells (w2.heap.size) [.int .i64 D.last, .slice r.a D.items.length r.c]], spoolKR D r, [Res.cells (w1.heap.size + 1) [.string m.fu, .string m.fd, .slice a1 m.rc.length c1, .slice a2 m.body.length c2]], [Res.cells (w1.heap.size) [.int .i64 s.last, .slice bo s.items.length d]], mailKR m ⟨a1, c1, a2, c2⟩, spoolKR s ⟨bo, d, ps⟩]) := ⟨S5.out.later hb⟩
  clear hb
  refine hK.out _ _ ⟨(S6.out.cellsM 2 rfl).c 0 _ rfl, (S6.out.cellsM 2 rfl).c 1 _ rfl, (S6.out.cellsM 0 rfl).c 0 _ rfl, (S6.out.cellsM 0 rfl).c 1 _ rfl, (S6.out.cellsM 5 rfl).c 0 _ rfl, (S6.out.cellsM 5 rfl).c 1 _ rfl⟩ (fun hHeld => ?_)
  clear hK K
  try simp only [Act.put, List.getElem_toArray, List.getElem_cons_succ, List.getElem_cons_zero, List.setIfInBounds_toArray, List.set_cons_zero, List.set_cons_succ]
  refine wpAnyH_ready (rs := [13]) (by kernel_rfl) (by simp) ?_
  refine AllReadyH.cons rfl (fun K hK => ?_) AllReadyH.nil
  try dsimp only at hHeld
  go_split_ands
  go_simp
  refine (specSpoolOk_any s bo d _ (spoolK_read HF.out (S6.out.nth 7 rfl)) HZ.out).mono ?_
  rintro e u10 ⟨rfl, hb⟩
  rw [HOK.out]
  have S7 : Seal (Pt w u10 [[Res.cells (w3.heap.size) [.int .i64 D.last, .slice t.a D.items.length t.c]], spoolKR D t, [Res.cells (w2.heap.size) [.int .i64 D.last, .slice r.a D.items.length r.c]], spoolKR D r, [Res.cells (w1.heap.size + 1) [.string m.fu, .string m.fd, .slice a1 m.rc.length c1, .slice a2 m.body.length c2]], [Res.cells (w1.heap.size) [.int .i64 s.last, .slice bo s.items.length d]], mailKR m ⟨a1, c1, a2, c2⟩, spoolKR s ⟨bo, d, ps⟩]) := ⟨S6.out.later hb⟩
  clear hb
  refine hK.out _ _ ⟨(S7.out.cellsM 2 rfl).c 0 _ rfl, (S7.out.cellsM 2 rfl).c 1 _ rfl, (S7.out.cellsM 0 rfl).c 0 _ rfl, (S7.out.cellsM 0 rfl).c 1 _ rfl, (S7.out.cellsM 5 rfl).c 0 _ rfl, (S7.out.cellsM 5 rfl).c 1 _ rfl⟩ (fun hHeld => ?_)
  clear hK K
  try simp only [Act.put, List.getElem_toArray, List.getElem_cons_succ, List.getElem_cons_zero, List.setIfInBounds_toArray, List.set_cons_zero, List.set_cons_succ]
  refine tkH 14 (by assumption) (h := ?_)
  refine tkH 15 (by assumption) (h := ?_)
  refine tkH 16 (by assumption) (h := ?_)
  refine tkH 17 (by assumption) (h := ?_)
  refine wpAnyH_ready (rs := [18]) (by kernel_rfl) (by simp) ?_
  refine AllReadyH.cons rfl (fun K hK => ?_) AllReadyH.nil
  try dsimp only at hHeld
  go_split_ands
  go_simp
  refine (implSpoolOk_any s bo d _ (HM.out.below S7.out.below (Nat.le_refl _)) (spoolK_read HF.out (S7.out.nth 7 rfl)) HZ.out).mono ?_
  rintro e u11 ⟨rfl, hb⟩
  rw [HOK.out]
  have S8 : Seal (Pt w u11 [[Res.cells (w3.heap.size) [.int .i64 D.last, .slice t.a D.items.length t.c]], spoolKR D t, [Res.cells (w2.heap.size) [.int .i64 D.last, .slice r.a D.items.length r.c]], spoolKR D r, [Res.cells (w1.heap.size + 1) [.string m.fu, .string m.fd, .slice a1 m.rc.length c1, .slice a2 m.body.length c2]], [Res.cells (w1.heap.size) [.int .i64 s.last, .slice bo s.items.length d]], mailKR m ⟨a1, c1, a2, c2⟩, spoolKR s ⟨bo, d, ps⟩]) := ⟨S7.out.later hb⟩
  clear hb
  refine hK.out _ _ ⟨(S8.out.cellsM 2 rfl).c 0 _ rfl, (S8.out.cellsM 2 rfl).c 1 _ rfl, (S8.out.cellsM 0 rfl).c 0 _ rfl, (S8.out.cellsM 0 rfl).c 1 _ rfl, (S8.out.cellsM 5 rfl).c 0 _ rfl, (S8.out.cellsM 5 rfl).c 1 _ rfl⟩ (fun hHeld => ?_)
  clear hK K
  try simp only [Act.put, List.getElem_toArray, List.getElem_cons_succ, List.getElem_cons_zero, List.setIfInBounds_toArray, List.set_cons_zero, List.set_cons_succ]
  refine tkH 19 (by assumption) (h := ?_)
  refine tkH 20 (by assumption) (h := ?_)
  refine wpAnyH_done (by kernel_rfl) ?_ _
  skip
  cases q
  · have e : D = s := by rw [← HD.out]; exact addR_flag HOK.out HQ.out
    clear HD HQ
    subst e
    have g0 := (S8.out.cellsM 2 rfl).c 0 _ rfl
    have g1 := (S8.out.cellsM 2 rfl).c 1 _ rfl
    have h0 := (S8.out.cellsM 5 rfl).c 0 _ rfl
    have h1 := (S8.out.cellsM 5 rfl).c 1 _ rfl
    go_wp2_with fail
    refine (saSpoolEq D r.a bo r.c d _ (spoolK_read HR.out (S8.out.nth 3 rfl)) (spoolK_read HF.out (S8.out.nth 7 rfl)) HZD.out).mono ?_
    rintro e w7 ⟨rfl, hb⟩
    have S7 : Seal _ := ⟨S8.out.later hb⟩
    clear hb g0 g1 h0 h1
    go_wp2
    go_ret
    exact ⟨rfl, S7.out.below⟩
  have hag := addR_all HOK.out HQ.out
  rw [HD.out] at hag
  obtain ⟨e1, e2, e3, e4, y, e5⟩ := hag
  obtain ⟨b1, b2⟩ := many_low HOK.out
  obtain ⟨M, hM⟩ : ∃ M, manyR s = M := ⟨_, rfl⟩
  rw [hM] at e2 b1 b2
  have hW : IntKind.i64.wrap (M + (m.rc.length : Int)) = M + (m.rc.length : Int) := IntWalk.i64_in _ (by omega)
  have hlast := ((spoolG_iff s).1 HOK.out).last
  have hW2 : IntKind.i64.wrap (s.last + 1) = s.last + 1 := IntWalk.i64_in _ (by omega)
  clear hlast
  have HA1 : Seal _ := ⟨e1⟩
  have HA2 : Seal _ := ⟨e2⟩
  have HMM : Seal _ := ⟨hM⟩
  obtain ⟨L, hL⟩ : ∃ L, dueR s now = L := ⟨_, rfl⟩
  obtain ⟨k0, hk0⟩ : ∃ k, L.length = k := ⟨_, rfl⟩
  obtain ⟨n1, hn1⟩ : ∃ n, k0 + 1 = n := ⟨_, rfl⟩
  have hk10 : k0 ≤ 10 := by rw [← hk0, ← hL]; exact Nat.le_trans (dueR_le s now) h10
  have HDU : Seal (dueR D now = L ++ [s.last + 1]) := ⟨by rw [e4, hL]⟩
  have HLN : Seal ((dueR D now).length = n1) := ⟨by rw [HDU.out, List.length_append, List.length_singleton, hk0, hn1]⟩
  have HLST : Seal ((dueR D now)[k0]? = some (s.last + 1)) := ⟨by rw [HDU.out, ← hk0, List.getElem?_append_right (Nat.le_refl _), Nat.sub_self]; rfl⟩
  have HIT : Seal _ := ⟨e5⟩
  have HDL : Seal (D.items.length = s.items.length + 1) := ⟨by rw [e5, List.length_append, List.length_singleton]⟩
  have ql : (D.last == s.last + 1) = true := by rw [beq_iff_eq]; exact e3
  have ql2 : (s.last + 1 == D.last) = true := by rw [beq_iff_eq]; exact e3.symm
  have hn1p : 0 < n1 := by omega
  have hW3 : IntKind.i64.wrap ((n1 : Int) - 1) = (k0 : Int) := by rw [show (n1 : Int) - 1 = (k0 : Int) by omega]; exact IntWalk.i64_in _ (by omega)
  have hkn : k0 < n1 := by omega
  clear e1 e2 e3 e4 e5 b1 b2 hM hL hk0 hn1
  have g0 := (S8.out.cellsM 2 rfl).c 0 _ rfl
  have g1 := (S8.out.cellsM 2 rfl).c 1 _ rfl
  go_wp2_with fail
  refine (implSpoolDue_any D r.a r.c now _ (HM.out.below S8.out.below (Nat.le_refl _)) (spoolK_read HR.out (S8.out.nth 3 rfl)) HZD.out).mono ?_
  rintro e w7 ⟨uo, uc, rfl, hk⟩
  have S9 : Seal (Pt w w7 [[intsR uo uc (dueR D now)], [Res.cells (w3.heap.size) [.int .i64 D.last, .slice t.a D.items.length t.c]], spoolKR D t, [Res.cells (w2.heap.size) [.int .i64 D.last, .slice r.a D.items.length r.c]], spoolKR D r, [Res.cells (w1.heap.size + 1) [.string m.fu, .string m.fd, .slice a1 m.rc.length c1, .slice a2 m.body.length c2]], [Res.cells (w1.heap.size) [.int .i64 s.last, .slice bo s.items.length d]], mailKR m ⟨a1, c1, a2, c2⟩, spoolKR s ⟨bo, d, ps⟩]) := ⟨Pt.join S8.out hk⟩
  clear hk g0 g1
  obtain ⟨gd, hgd⟩ : ∃ g, uo = some ⟨g, 0, none⟩ := by
    rcases slice_or (S9.out.nth 0 rfl _ (List.mem_singleton.2 rfl) : World.ownsRow _ _ _ _ _ _ _) with hz | ⟨g, hg⟩
    · rw [HLN.out] at hz; omega
    · exact ⟨g, hg⟩
  subst hgd
  rw [HLN.out]
  have h1 := (S9.out.cellsM 6 rfl).c 1 _ rfl
  go_wp2
  go_loopw [11] (fun i wr => ∃ k : Nat, k ≤ s.items.length ∧ i = .int .i64 k ∧ Seal (Pt w wr [[intsR (some ⟨gd, 0, none⟩) uc (dueR D now)], [Res.cells (w3.heap.size) [.int .i64 D.last, .slice t.a D.items.length t.c]], spoolKR D t, [Res.cells (w2.heap.size) [.int .i64 D.last, .slice r.a D.items.length r.c]], spoolKR D r, [Res.cells (w1.heap.size + 1) [.string m.fu, .string m.fd, .slice a1 m.rc.length c1, .slice a2 m.body.length c2]], [Res.cells (w1.heap.size) [.int .i64 s.last, .slice bo s.items.length d]], mailKR m ⟨a1, c1, a2, c2⟩, spoolKR s ⟨bo, d, ps⟩])) (fun i _ => s.items.length - (intOf i).toNat)
  case atStart => exact ⟨0, Nat.zero_le _, rfl, ⟨S9.out⟩⟩
  case round =>
    obtain ⟨k, hk, rfl, S⟩ := hrel
    clear S9 h1
    have a1' := (S.out.cellsM 3 rfl).c 1 _ rfl
    have b1' := (S.out.cellsM 6 rfl).c 1 _ rfl
    by_cases hlt : k < s.items.length
    · obtain ⟨z, hz⟩ : ∃ z, s.items[k]? = some z := ⟨_, List.getElem?_eq_getElem hlt⟩
      have hz2 : D.items[k]? = some z := by rw [HIT.out, List.getElem?_append_left hlt]; exact hz
      obtain ⟨b, off, p, hra, c0, c1', c2', c3, c4, ia⟩ := itemAt (spoolK_read HR.out (S.out.nth 4 rfl)) hz2
      obtain ⟨b', off', p', hbo, d0, d1, d2, d3, d4, ib⟩ := itemAt (spoolK_read HF.out (S.out.nth 8 rfl)) hz
      rw [hra] at a1'
      have hbo' : bo = some ⟨b', off', none⟩ := hbo
      rw [hbo'] at b1'
      obtain ⟨_, _, z3, _, z5, _⟩ := itemN_parts ((spoolN_parts HZ.out).2 z (List.mem_of_getElem? hz))
      have IA : Seal _ := ⟨ia⟩
      have IB : Seal _ := ⟨ib⟩
      have hlD : k < D.items.length := by have := HDL.out; omega
      clear hz hz2 ia ib hra hbo hbo'
      go_wp2_with fail
      go_region_held3 (fun w' => w'.cell? ⟨w2.heap.size, 1, none⟩ = some (.slice (some ⟨b, off, none⟩) D.items.length r.c) ∧ w'.cell? ⟨w1.heap.size, 1, none⟩ = some (.slice (some ⟨b', off', none⟩) s.items.length d) ∧ w'.cell? ⟨b, off + k * 5, none⟩ = some (.int .i64 z.id) ∧ w'.cell? ⟨b, off + k * 5 + 1, none⟩ = some (.string z.fu) ∧ w'.cell? ⟨b, off + k * 5 + 2, none⟩ = some (.string z.fd) ∧ w'.cell? ⟨b, off + k * 5 + 3, none⟩ = some (.slice p.a1 z.rc.length p.c1) ∧ w'.cell? ⟨b, off + k * 5 + 4, none⟩ = some (.slice p.a2 z.body.length p.c2) ∧ w'.cell? ⟨b', off' + k * 5, none⟩ = some (.int .i64 z.id) ∧ w'.cell? ⟨b', off' + k * 5 + 1, none⟩ = some (.string z.fu) ∧ w'.cell? ⟨b', off' + k * 5 + 2, none⟩ = some (.string z.fd) ∧ w'.cell? ⟨b', off' + k * 5 + 3, none⟩ = some (.slice p'.a1 z.rc.length p'.c1) ∧ w'.cell? ⟨b', off' + k * 5 + 4, none⟩ = some (.slice p'.a2 z.body.length p'.c2) ∧ Below wr.heap.size wr w') (first | exact ⟨a1', b1', c0, c1', c2', c3, c4, d0, d1, d2, d3, d4, (Below.refl _ _).drew⟩ | (go_split_ands; exact ⟨heldc (by assumption) hb1, heldc (by assumption) hb1, heldc (by assumption) hb1, heldc (by assumption) hb1, heldc (by assumption) hb1, heldc (by assumption) hb1, heldc (by assumption) hb1, heldc (by assumption) hb1, heldc (by assumption) hb1, heldc (by assumption) hb1, heldc (by assumption) hb1, heldc (by assumption) hb1, (by assumption : Below wr.heap.size wr _).trans (hb1.mono (by assumption : Below wr.heap.size wr _).size)⟩) | (go_split_ands; exact ⟨by assumption, by assumption, by assumption, by assumption, by assumption, by assumption, by assumption, by assumption, by assumption, by assumption, by assumption, by assumption, Below.drew (by assumption)⟩) | (go_split_ands; exact ⟨by assumption, by assumption, by assumption, by assumption, by assumption, by assumption, by assumption, by assumption, by assumption, by assumption, by assumption, by assumption, by assumption⟩)) (first | (go_at_call 22; go_split_ands; refine (saItemEq z p p' _ (IA.out.later (by assumption : Below wr.heap.size wr _)) (IB.out.later (by assumption : Below wr.heap.size wr _)) z3 z5).mono ?_; rintro e w1 ⟨rfl, hb1⟩))
      go_split_ands
      have hbx := (by assumption : Below wr.heap.size wr _)
      have S2' : Seal _ := ⟨S.out.later hbx⟩
      clear S
      go_wp2
      go_roundw
      case rel => exact ⟨k + 1, by omega, by go_num, S2'⟩
      case measure => simp [intOf]; omega
    have S20 : Seal (Pt w wr [[intsR (some ⟨gd, 0, none⟩) uc (dueR D now)], [Res.cells (w3.heap.size) [.int .i64 D.last, .slice t.a D.items.length t.c]], spoolKR D t, [Res.cells (w2.heap.size) [.int .i64 D.last, .slice r.a D.items.length r.c]], spoolKR D r, [Res.cells (w1.heap.size + 1) [.string m.fu, .string m.fd, .slice a1 m.rc.length c1, .slice a2 m.body.length c2]], [Res.cells (w1.heap.size) [.int .i64 s.last, .slice bo s.items.length d]], mailKR m ⟨a1, c1, a2, c2⟩, spoolKR s ⟨bo, d, ps⟩]) := ⟨S.out⟩
    clear S
    go_upto_region 16 with fail
    have S21 : Seal (Pt w wr.drew [[intsR (some ⟨gd, 0, none⟩) uc (dueR D now)], [Res.cells (w3.heap.size) [.int .i64 D.last, .slice t.a D.items.length t.c]], spoolKR D t, [Res.cells (w2.heap.size) [.int .i64 D.last, .slice r.a D.items.length r.c]], spoolKR D r, [Res.cells (w1.heap.size + 1) [.string m.fu, .string m.fd, .slice a1 m.rc.length c1, .slice a2 m.body.length c2]], [Res.cells (w1.heap.size) [.int .i64 s.last, .slice bo s.items.length d]], mailKR m ⟨a1, c1, a2, c2⟩, spoolKR s ⟨bo, d, ps⟩]) := ⟨S20.out.drew⟩
    refine wp_region_held_drew (S := (fun w' => w'.cell? ⟨w2.heap.size, 0, none⟩ = some (.int .i64 D.last) ∧ w'.cell? ⟨w2.heap.size, 1, none⟩ = some (.slice r.a D.items.length r.c) ∧ w'.cell? ⟨gd, k0, none⟩ = some (.int .i64 (s.last + 1)) ∧ w'.cell? ⟨w1.heap.size, 0, none⟩ = some (.int .i64 s.last) ∧ w'.cell? ⟨w1.heap.size, 1, none⟩ = some (.slice bo s.items.length d) ∧ w'.cell? ⟨w1.heap.size + 1, 2, none⟩ = some (.slice a1 m.rc.length c1))) (by kernel_rfl) ⟨(S21.out.cellsM 3 rfl).c 0 _ rfl, (S21.out.cellsM 3 rfl).c 1 _ rfl, (ints_last (S21.out.nth 0 rfl _ (List.mem_singleton.2 rfl)) HLST.out), (S21.out.cellsM 6 rfl).c 0 _ rfl, (S21.out.cellsM 6 rfl).c 1 _ rfl, (S21.out.cellsM 5 rfl).c 2 _ rfl⟩ (fun hHeld => ?_)
    refine tkH 0 (by assumption) (h := ?_)
    refine wpAnyH_ready (rs := [1]) (by kernel_rfl) (by simp) ?_
    refine AllReadyH.cons rfl (fun K hK => ?_) AllReadyH.nil
    try dsimp only at hHeld
    go_split_ands
    go_simp
    refine (implSpoolOk_any D r.a r.c _ (HM.out.below S21.out.below (Nat.le_refl _)) (spoolK_read HR.out (S21.out.nth 4 rfl)) HZD.out).mono ?_
    rintro e u12 ⟨rfl, hb⟩
    rw [HA1.out]
    have S22 : Seal (Pt w u12 [[intsR (some ⟨gd, 0, none⟩) uc (dueR D now)], [Res.cells (w3.heap.size) [.int .i64 D.last, .slice t.a D.items.length t.c]], spoolKR D t, [Res.cells (w2.heap.size) [.int .i64 D.last, .slice r.a D.items.length r.c]], spoolKR D r, [Res.cells (w1.heap.size + 1) [.string m.fu, .string m.fd, .slice a1 m.rc.length c1, .slice a2 m.body.length c2]], [Res.cells (w1.heap.size) [.int .i64 s.last, .slice bo s.items.length d]], mailKR m ⟨a1, c1, a2, c2⟩, spoolKR s ⟨bo, d, ps⟩]) := ⟨S21.out.later hb⟩
    clear hb
    refine hK.out _ _ ⟨(S22.out.cellsM 3 rfl).c 0 _ rfl, (S22.out.cellsM 3 rfl).c 1 _ rfl, (ints_last (S22.out.nth 0 rfl _ (List.mem_singleton.2 rfl)) HLST.out), (S22.out.cellsM 6 rfl).c 0 _ rfl, (S22.out.cellsM 6 rfl).c 1 _ rfl, (S22.out.cellsM 5 rfl).c 2 _ rfl⟩ (fun hHeld => ?_)
    clear hK K
    try simp only [Act.put, List.getElem_toArray, List.getElem_cons_succ, List.getElem_cons_zero, List.setIfInBounds_toArray, List.set_cons_zero, List.set_cons_succ]
    refine tkH 2 (by assumption) (h := ?_)
    refine tkH 3 (by assumption) (h := ?_)
    refine tkH 4 (by assumption) (h := ?_)
    refine tkH 5 (by assumption) (h := ?_)
    refine tkH 6 (by assumption) (h := ?_)
    refine tkH 7 (by assumption) (h := ?_)
    refine tkH 8 (by assumption) (h := ?_)
    refine tkH 9 (by assumption) (h := ?_)
    refine tkH 10 (by assumption) (h := ?_)
    refine tkH 11 (by assumption) (h := ?_)
    refine tkH 12 (by assumption) (h := ?_)
    refine tkH 13 (by assumption) (h := ?_)
    refine tkH 14 (by assumption) (h := ?_)
    refine tkH 15 (by assumption) (h := ?_)
    refine tkH 16 (by assumption) (h := ?_)
    refine tkH 17 (by assumption) (h := ?_)
    refine tkH 18 (by assumption) (h := ?_)
    refine tkH 19 (by assumption) (h := ?_)
    refine tkH 20 (by assumption) (h := ?_)
    refine tkH 21 (by assumption) (h := ?_)
    refine tkH 22 (by assumption) (h := ?_)
    refine tkH 23 (by assumption) (h := ?_)
    refine tkH 24 (by assumption) (h := ?_)
    refine tkH 25 (by assumption) (h := ?_)
    refine tkH 26 (by assumption) (h := ?_)
    refine tkH 27 (by assumption) (h := ?_)
    refine tkH 29 (by assumption) (h := ?_)
    refine tkH 31 (by assumption) (h := ?_)
    refine tkH 32 (by assumption) (h := ?_)
    refine tkH 33 (by assumption) (h := ?_)
    refine wpAnyH_ready (rs := [28]) (by kernel_rfl) (by simp) ?_
    refine AllReadyH.cons rfl (fun K hK => ?_) AllReadyH.nil
    try dsimp only at hHeld
    go_split_ands
    go_simp
    refine (implSpoolMany_any D r.a r.c _ (HM.out.below S22.out.below (Nat.le_refl _)) (spoolK_read HR.out (S22.out.nth 4 rfl)) HZD.out).mono ?_
    rintro e u13 ⟨rfl, hb⟩
    rw [HA2.out]
    have S23 : Seal (Pt w u13 [[intsR (some ⟨gd, 0, none⟩) uc (dueR D now)], [Res.cells (w3.heap.size) [.int .i64 D.last, .slice t.a D.items.length t.c]], spoolKR D t, [Res.cells (w2.heap.size) [.int .i64 D.last, .slice r.a D.items.length r.c]], spoolKR D r, [Res.cells (w1.heap.size + 1) [.string m.fu, .string m.fd, .slice a1 m.rc.length c1, .slice a2 m.body.length c2]], [Res.cells (w1.heap.size) [.int .i64 s.last, .slice bo s.items.length d]], mailKR m ⟨a1, c1, a2, c2⟩, spoolKR s ⟨bo, d, ps⟩]) := ⟨S22.out.later hb⟩
    clear hb
    refine hK.out _ _ ⟨(S23.out.cellsM 3 rfl).c 0 _ rfl, (S23.out.cellsM 3 rfl).c 1 _ rfl, (ints_last (S23.out.nth 0 rfl _ (List.mem_singleton.2 rfl)) HLST.out), (S23.out.cellsM 6 rfl).c 0 _ rfl, (S23.out.cellsM 6 rfl).c 1 _ rfl, (S23.out.cellsM 5 rfl).c 2 _ rfl⟩ (fun hHeld => ?_)
    clear hK K
    try simp only [Act.put, List.getElem_toArray, List.getElem_cons_succ, List.getElem_cons_zero, List.setIfInBounds_toArray, List.set_cons_zero, List.set_cons_succ]
    refine wpAnyH_ready (rs := [30]) (by kernel_rfl) (by simp) ?_
    refine AllReadyH.cons rfl (fun K hK => ?_) AllReadyH.nil
    try dsimp only at hHeld
    go_split_ands
    go_simp
    refine (implSpoolMany_any s bo d _ (HM.out.below S23.out.below (Nat.le_refl _)) (spoolK_read HF.out (S23.out.nth 8 rfl)) HZ.out).mono ?_
    rintro e u14 ⟨rfl, hb⟩
    rw [HMM.out]
    have S24 : Seal (Pt w u14 [[intsR (some ⟨gd, 0, none⟩) uc (dueR D now)], [Res.cells (w3.heap.size) [.int .i64 D.last, .slice t.a D.items.length t.c]], spoolKR D t, [Res.cells (w2.heap.size) [.int .i64 D.last, .slice r.a D.items.length r.c]], spoolKR D r, [Res.cells (w1.heap.size + 1) [.string m.fu, .string m.fd, .slice a1 m.rc.length c1, .slice a2 m.body.length c2]], [Res.cells (w1.heap.size) [.int .i64 s.last, .slice bo s.items.length d]], mailKR m ⟨a1, c1, a2, c2⟩, spoolKR s ⟨bo, d, ps⟩]) := ⟨S23.out.later hb⟩
    clear hb
    refine hK.out _ _ ⟨(S24.out.cellsM 3 rfl).c 0 _ rfl, (S24.out.cellsM 3 rfl).c 1 _ rfl, (ints_last (S24.out.nth 0 rfl _ (List.mem_singleton.2 rfl)) HLST.out), (S24.out.cellsM 6 rfl).c 0 _ rfl, (S24.out.cellsM 6 rfl).c 1 _ rfl, (S24.out.cellsM 5 rfl).c 2 _ rfl⟩ (fun hHeld => ?_)
    clear hK K
    try simp only [Act.put, List.getElem_toArray, List.getElem_cons_succ, List.getElem_cons_zero, List.setIfInBounds_toArray, List.set_cons_zero, List.set_cons_succ]
    refine tkH 34 (by assumption) (h := ?_)
    refine tkH 35 (by assumption) (h := ?_)
    refine tkH 36 (by assumption) (h := ?_)
    refine wpAnyH_ready (rs := [37]) (by kernel_rfl) (by simp) ?_
    refine AllReadyH.cons rfl (fun K hK => ?_) AllReadyH.nil
    go_simp
    refine hK.out _ _ (by assumption) (fun hHeld => ?_)
    clear hK K
    try simp only [Act.put, List.getElem_toArray, List.getElem_cons_succ, List.getElem_cons_zero, List.setIfInBounds_toArray, List.set_cons_zero, List.set_cons_succ]
    refine wpAnyH_done (by kernel_rfl) ?_ _
    go_wp2
    go_ret
    exact ⟨rfl, S24.out.below⟩
end Go.Proofs.YtcaknjdolfheaaaGreatDoor
