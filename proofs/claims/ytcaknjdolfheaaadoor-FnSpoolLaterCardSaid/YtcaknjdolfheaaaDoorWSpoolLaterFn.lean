/- The walk of FnSpoolLater. -/
import Derived.Test.YtcaknjdolfheaaaDoorTk
import Derived.Test.YtcaknjdolfheaaaDoorDrawSpLater
import Derived.Test.YtcaknjdolfheaaaDoorSaSpools
import Derived.Test.YtcaknjdolfheaaaDoorSpoolLaterJ
import Derived.Test.YtcaknjdolfheaaaDoorPlainLateFn
import Derived.Deep.RegionHeld3
namespace Go.Proofs.YtcaknjdolfheaaaDoor
open Go Go.RowKit

theorem Pt.dropL {w0 w : World} {As Bs : List (List Res)} (h : Pt w0 w (As ++ Bs)) : Pt w0 w Bs := by
  have h' : St w0 w (As.flatten ++ Bs.flatten) := by rw [← List.flatten_append]; exact h
  exact h'.drop
theorem many_low {s : SpoolD} (h : spoolB s = true) : 0 ≤ manyR s ∧ manyR s ≤ 10100 := by
  have h1 := (spool_small h).1
  have h2 := many_le s s.items.length
  rw [List.take_length] at h2
  unfold manyR
  rw [if_pos h]
  omega
/-- What a recipient becomes when one of them is tried later. -/
theorem late_each {s : SpoolD} {i now : Int} {u d : ByteArray} (h : spoolB s = true) (hq : (laterR s i u d now).2 = true) : (laterR s i u d now).1.items.length = s.items.length ∧ ∀ (I : Nat) (X0 : ItemD), s.items[I]? = some X0 → ∃ X1 : ItemD, (laterR s i u d now).1.items[I]? = some X1 ∧ X1.rc.length = X0.rc.length ∧ ∀ (K : Nat) (R0 : RcptD), X0.rc[K]? = some R0 → ∃ R1 : RcptD, X1.rc[K]? = some R1 ∧
    ((X1.id = i ∧ toB1 u d R1 = true ∧ R1.tries = R0.tries + 1 ∧ R1.next = now + pauseZ R1.tries ∧ 0 ≤ R0.tries ∧ R0.tries ≤ 3 ∧ 0 ≤ now ∧ now ≤ 9999 ∧ 0 ≤ pauseZ R1.tries ∧ pauseZ R1.tries ≤ 16) ∨ (X1.id ≠ i ∧ R1 = R0) ∨ (X1.id = i ∧ toB1 u d R1 = false ∧ R1 = R0)) := by
  cases e : lateAt s i u d now with
  | none => rw [laterR_none h e] at hq; cases hq
  | some v =>
    obtain ⟨a, x, k, r⟩ := v
    obtain ⟨ha, hx, hi, hk, hr, ht, hn, hm⟩ := lateAt_inv e
    rw [laterR_some h e]
    have g := (spoolG_iff s).1 h
    have gi := (itemG_iff x).1 (g.ok x (List.mem_of_getElem? hx))
    have hz := spool_rcpt h hx hr
    unfold timeB inB at hn
    rw [decide_eq_true_eq] at hn
    unfold mayLate at hm
    rw [Bool.and_eq_true, decide_eq_true_eq, decide_eq_true_eq] at hm
    have hal := (List.getElem?_eq_some_iff.1 hx).1
    have hkl := (List.getElem?_eq_some_iff.1 hr).1
    unfold idB at hi
    rw [beq_iff_eq] at hi
    refine ⟨by show (s.items.set a _).length = _; rw [List.length_set], fun I X0 hX0 => ?_⟩
    by_cases hI : a = I
    · subst hI
      obtain rfl : x = X0 := Option.some.inj (hx.symm.trans hX0)
      refine ⟨lateI x k r now, List.getElem?_set_self hal, by show (x.rc.set k _).length = _; rw [List.length_set], fun K R0 hR0 => ?_⟩
      by_cases hK : k = K
      · subst hK
        obtain rfl : r = R0 := Option.some.inj (hr.symm.trans hR0)
        refine ⟨lateR r now, List.getElem?_set_self hkl, .inl ⟨hi, ?_, rfl, rfl, hz.1, hz.2.1, hn.1, hn.2, ?_⟩⟩
        · rw [toB1_congr (show rcptPair (lateR r now) = rcptPair r from rfl)]; exact ht
        · have := pause_in (n := r.tries + 1) (by omega) (by omega)
          show 0 ≤ pauseZ (r.tries + 1) ∧ pauseZ (r.tries + 1) ≤ 16
          omega
      · refine ⟨R0, by show (x.rc.set k _)[K]? = _; rw [List.getElem?_set_ne hK]; exact hR0, .inr (.inr ⟨hi, ?_, rfl⟩)⟩
        rw [← Bool.not_eq_true, toB1_iff]
        intro e9
        have e8 := (toB1_iff u d r).1 ht
        have h1 : (x.rc.map rcptPair)[k]? = some (u, d) := by rw [List.getElem?_map, hr, ← e8]; rfl
        have h2 : (x.rc.map rcptPair)[K]? = some (u, d) := by rw [List.getElem?_map, hR0, ← e9]; rfl
        have hKl := (List.getElem?_eq_some_iff.1 hR0).1
        exact hK ((List.getElem?_inj (by simpa using hkl) gi.nd).1 (h1.trans h2.symm))
    · refine ⟨X0, by show (s.items.set a _)[I]? = _; rw [List.getElem?_set_ne hI]; exact hX0, rfl, fun K R0 hR0 => ⟨R0, hR0, .inr (.inl ⟨?_, rfl⟩)⟩⟩
      intro e9
      have h1 : (s.items.map ItemD.id)[a]? = some i := by rw [List.getElem?_map, hx, ← hi]; rfl
      have h2 : (s.items.map ItemD.id)[I]? = some i := by rw [List.getElem?_map, hX0, ← e9]; rfl
      exact hI ((List.getElem?_inj (by simpa using hal) (ids_nodup h)).1 (h1.trans h2.symm))

set_option maxHeartbeats 12800000 in
set_option maxRecDepth 100000 in
theorem wFnSpoolLater.walk (ao : Option Addr) (len cap : Nat) (w : World) (hr : ByteRow w ao len) (hl : len ≤ cap) (hc : cap ≤ maxLen) (hm : HasMax w) :
    Calls Tryd.prog 4 #[.slice ao len cap] w fun e w' => e = .returned (.bool true) ∧ Below w.heap.size w w' := by
  have HM : Seal _ := ⟨hm⟩
  have C : Seal _ := ⟨drawLater_any ao len cap w hr hl hc⟩
  clear hm hr
  go_enter Tryd.func4, Tryd.ntmps4
  by_cases hlen : len > 1048576
  · go_wp2
    go_ret
    exact ⟨rfl, Below.refl _ _⟩
  go_wp2_with fail
  refine C.out.mono ?_
  rintro e w1 ⟨s, bo, d, ps, i, u, v, now, rfl, hs, hpl, zu, zv, htm, hk⟩
  have HZ : Seal (spoolKZ s) := ⟨by have := hs.small; unfold spoolKZ; omega⟩
  have HU : Seal (u.size ≤ 1048576 ∧ v.size ≤ 1048576) := ⟨by omega⟩
  have S1 : Seal (Pt w ((w1.alloc (.cells #[.int .i64 s.last, .slice bo s.items.length d] 25)).alloc (.cells #[.string u, .string v] 27)) [[Res.cells (w1.heap.size + 1) [.string u, .string v]], [Res.cells w1.heap.size [.int .i64 s.last, .slice bo s.items.length d]], spoolKR s ⟨bo, d, ps⟩]) := ⟨by
    have h0 : Pt w w1 [spoolKR s ⟨bo, d, ps⟩] := by show St _ _ _; simpa using hk
    have h := (h0.alloc #[.int .i64 s.last, .slice bo s.items.length d] 25).alloc #[.string u, .string v] 27
    simp only [World.size_alloc] at h
    exact h⟩
  have HF : Seal (spoolKF s ⟨bo, d, ps⟩) := ⟨hpl⟩
  clear hs hk C hl hc hpl zu zv htm
  obtain ⟨D, hD⟩ : ∃ D, (laterR s i u v now).1 = D := ⟨_, rfl⟩
  obtain ⟨q, hq⟩ : ∃ q, (laterR s i u v now).2 = q := ⟨_, rfl⟩
  have HD : Seal _ := ⟨hD⟩
  have HQ : Seal _ := ⟨hq⟩
  have HZD : Seal (spoolKZ D) := ⟨hD ▸ laterR_sz s i u v now HZ.out⟩
  clear hD hq
  have CL : Seal (∀ (Y : SpoolD) (_ : spoolKZ Y) (W : World) (Ls : List (List Res)) (p : SpoolP) (j : Nat), HasMax W → Pt w W Ls → Ls[j]? = some (spoolKR Y p) → spoolKF Y p → Calls Tryd.prog 14 #[.agg (spoolKV Y p), .int .i64 i, .agg #[.string u, .string v], .int .i64 now] W fun e w' => ∃ r, e = .returned (.tuple #[.agg (spoolKV (laterR Y i u v now).1 r), .bool (laterR Y i u v now).2]) ∧ spoolKF (laterR Y i u v now).1 r ∧ St W w' (spoolKR (laterR Y i u v now).1 r)) := ⟨fun Y hz W Ls p j hx h hj hf => implSpoolLater_K Y i u v now hz HU.out w W Ls hx p j h hj hf⟩
  have CS : Seal (∀ (W : World) (Ls : List (List Res)) (p : SpoolP) (j : Nat), Pt w W Ls → Ls[j]? = some (spoolKR s p) → spoolKF s p → Calls Tryd.prog 15 #[.agg (spoolKV s p), .int .i64 i, .agg #[.string u, .string v], .int .i64 now] W fun e w' => ∃ r, e = .returned (.tuple #[.agg (spoolKV D r), .bool q]) ∧ spoolKF D r ∧ St W w' (spoolKR D r)) := ⟨fun W Ls p j h hj hf => by rw [← HD.out, ← HQ.out]; exact specSpoolLater_K s i u v now HZ.out HU.out w W Ls p j h hj hf⟩
  have CI : Seal (∀ (W : World) (Ls : List (List Res)) (p : SpoolP) (j : Nat), HasMax W → Pt w W Ls → Ls[j]? = some (spoolKR s p) → spoolKF s p → Calls Tryd.prog 14 #[.agg (spoolKV s p), .int .i64 i, .agg #[.string u, .string v], .int .i64 now] W fun e w' => ∃ r, e = .returned (.tuple #[.agg (spoolKV D r), .bool q]) ∧ spoolKF D r ∧ St W w' (spoolKR D r)) := ⟨fun W Ls p j hx h hj hf => by rw [← HD.out, ← HQ.out]; exact CL.out s HZ.out W Ls p j hx h hj hf⟩
  have qq : (q != q) = false := by cases q <;> rfl
  have qe : (q == q) = true := by cases q <;> rfl
  have g0 := (S1.out.cellsM 1 rfl).c 0 _ rfl
  have g1 := (S1.out.cellsM 1 rfl).c 1 _ rfl
  have h0 := (S1.out.cellsM 0 rfl).c 0 _ rfl
  have h1 := (S1.out.cellsM 0 rfl).c 1 _ rfl
  go_wp2_with fail
  refine (CI.out _ _ ⟨bo, d, ps⟩ 2 (HM.out.below S1.out.below (Nat.le_refl _)) S1.out rfl HF.out).mono ?_
  rintro e w2 ⟨⟨ra, rd, rps⟩, rfl, hrf, hk⟩
  have HR : Seal (spoolKF D ⟨ra, rd, rps⟩) := ⟨hrf⟩
  have S2 : Seal (Pt w (w2.alloc (.cells #[.int .i64 D.last, .slice ra D.items.length rd] 25)) [[Res.cells w2.heap.size [.int .i64 D.last, .slice ra D.items.length rd]], spoolKR D ⟨ra, rd, rps⟩, [Res.cells (w1.heap.size + 1) [.string u, .string v]], [Res.cells w1.heap.size [.int .i64 s.last, .slice bo s.items.length d]], spoolKR s ⟨bo, d, ps⟩]) := ⟨(Pt.join S1.out hk).alloc #[.int .i64 D.last, .slice ra D.items.length rd] 25⟩
  clear hk hrf S1 g0 g1 h0 h1 CI
  have g0 := (S2.out.cellsM 3 rfl).c 0 _ rfl
  have g1 := (S2.out.cellsM 3 rfl).c 1 _ rfl
  have h0 := (S2.out.cellsM 2 rfl).c 0 _ rfl
  have h1 := (S2.out.cellsM 2 rfl).c 1 _ rfl
  go_wp2_with fail
  refine (CS.out _ _ ⟨bo, d, ps⟩ 4 S2.out rfl HF.out).mono ?_
  rintro e w3 ⟨t, rfl, htf, hk⟩
  have HT : Seal _ := ⟨htf⟩
  have S3 : Seal (Pt w (w3.alloc (.cells #[.int .i64 D.last, .slice t.a D.items.length t.c] 25)) [[Res.cells w3.heap.size [.int .i64 D.last, .slice t.a D.items.length t.c]], spoolKR D t, [Res.cells w2.heap.size [.int .i64 D.last, .slice ra D.items.length rd]], spoolKR D ⟨ra, rd, rps⟩, [Res.cells (w1.heap.size + 1) [.string u, .string v]], [Res.cells w1.heap.size [.int .i64 s.last, .slice bo s.items.length d]], spoolKR s ⟨bo, d, ps⟩]) := ⟨(Pt.join S2.out hk).alloc #[.int .i64 D.last, .slice t.a D.items.length t.c] 25⟩
  clear hk htf S2 g0 g1 h0 h1 CS
  have g0 := (S3.out.cellsM 0 rfl).c 0 _ rfl
  have g1 := (S3.out.cellsM 0 rfl).c 1 _ rfl
  have h0 := (S3.out.cellsM 2 rfl).c 0 _ rfl
  have h1 := (S3.out.cellsM 2 rfl).c 1 _ rfl
  go_wp2_with fail
  refine (saSpoolEq D ra t.a rd t.c _ (spoolK_read HR.out (S3.out.nth 3 rfl)) (spoolK_read HT.out (S3.out.nth 1 rfl)) HZD.out).mono ?_
  rintro e w4 ⟨rfl, hb⟩
  have S4 : Seal (Pt w w4 _) := ⟨S3.out.later hb⟩
  clear hb S3 g0 g1 h0 h1
  have g0 := (S4.out.cellsM 5 rfl).c 0 _ rfl
  have g1 := (S4.out.cellsM 5 rfl).c 1 _ rfl
  go_wp2_with fail
  refine (implSpoolOk_any s bo d _ (HM.out.below S4.out.below (Nat.le_refl _)) (spoolK_read HF.out (S4.out.nth 6 rfl)) HZ.out).mono ?_
  rintro e w5 ⟨rfl, hb⟩
  have S5 : Seal (Pt w w5 [[Res.cells w3.heap.size [.int .i64 D.last, .slice t.a D.items.length t.c]], spoolKR D t, [Res.cells w2.heap.size [.int .i64 D.last, .slice ra D.items.length rd]], spoolKR D ⟨ra, rd, rps⟩, [Res.cells (w1.heap.size + 1) [.string u, .string v]], [Res.cells w1.heap.size [.int .i64 s.last, .slice bo s.items.length d]], spoolKR s ⟨bo, d, ps⟩]) := ⟨S4.out.later hb⟩
  clear hb S4 g0 g1
  cases hok : spoolB s
  · have g0 := (S5.out.cellsM 0 rfl).c 0 _ rfl
    have g1 := (S5.out.cellsM 0 rfl).c 1 _ rfl
    have h0 := (S5.out.cellsM 2 rfl).c 0 _ rfl
    have h1 := (S5.out.cellsM 2 rfl).c 1 _ rfl
    go_wp2_with fail
    refine (saSpoolEq D ra t.a rd t.c _ (spoolK_read HR.out (S5.out.nth 3 rfl)) (spoolK_read HT.out (S5.out.nth 1 rfl)) HZD.out).mono ?_
    rintro e w6 ⟨rfl, hb⟩
    have S6 : Seal _ := ⟨S5.out.later hb⟩
    clear hb S5 g0 g1 h0 h1
    go_wp2
    go_ret
    exact ⟨rfl, S6.out.below⟩
  cases q
  · have e : D = s := by rw [← HD.out]; exact laterR_no hok HQ.out
    clear HD HQ
    subst e
    have g0 := (S5.out.cellsM 2 rfl).c 0 _ rfl
    have g1 := (S5.out.cellsM 2 rfl).c 1 _ rfl
    have h0 := (S5.out.cellsM 5 rfl).c 0 _ rfl
    have h1 := (S5.out.cellsM 5 rfl).c 1 _ rfl
    clear hok
    go_wp2_with fail
    refine (saSpoolEq D ra bo rd d _ (spoolK_read HR.out (S5.out.nth 3 rfl)) (spoolK_read HF.out (S5.out.nth 6 rfl)) HZD.out).mono ?_
    rintro e w6 ⟨rfl, hb⟩
    have S6 : Seal _ := ⟨S5.out.later hb⟩
    clear hb S5 g0 g1 h0 h1
    go_wp2
    go_ret
    exact ⟨rfl, S6.out.below⟩
  have hl0 := laterR_yes hok HQ.out
  have hle := late_each hok HQ.out
  have hst := Tired.start false hok HQ.out
  rw [HD.out] at hl0 hle hst
  obtain ⟨b1, b2⟩ := many_low hok
  obtain ⟨M, hM⟩ : ∃ M, manyR s = M := ⟨_, rfl⟩
  have HA1 : Seal (spoolB D = true) := ⟨hl0.1⟩
  have HA2 : Seal (manyR D = M) := ⟨by rw [← hM]; exact hl0.2.1⟩
  have HMM : Seal (manyR s = M) := ⟨hM⟩
  have HLE : Seal _ := ⟨hle.2⟩
  have HDL : Seal _ := ⟨hle.1⟩
  have HST : Seal (∀ ok, Tired i u v now 0 D ok) := ⟨fun ok => by rcases hst with ⟨h1, _⟩ | h1; exact absurd h1 (by omega); exact .inr h1⟩
  have h10 : s.items.length ≤ 10 := ((spoolG_iff s).1 hok).len
  clear hl0 hle hst b1 b2 hM hok
  have g1 := (S5.out.cellsM 2 rfl).c 1 _ rfl
  go_wp2
  go_loopw [11] (fun ii wr => ∃ I : Nat, I ≤ D.items.length ∧ ii = .int .i64 I ∧ Seal (Pt w wr [[Res.cells w3.heap.size [.int .i64 D.last, .slice t.a D.items.length t.c]], spoolKR D t, [Res.cells w2.heap.size [.int .i64 D.last, .slice ra D.items.length rd]], spoolKR D ⟨ra, rd, rps⟩, [Res.cells (w1.heap.size + 1) [.string u, .string v]], [Res.cells w1.heap.size [.int .i64 s.last, .slice bo s.items.length d]], spoolKR s ⟨bo, d, ps⟩])) (fun ii _ => D.items.length - (intOf ii).toNat)
  case atStart => exact ⟨0, Nat.zero_le _, rfl, ⟨S5.out⟩⟩
  case round =>
    obtain ⟨I, hI, rfl, S⟩ := hrel
    clear S5 g1
    have g1 := (S.out.cellsM 2 rfl).c 1 _ rfl
    by_cases hlt : I < D.items.length
    · obtain ⟨X0, hX0⟩ : ∃ x, s.items[I]? = some x := ⟨_, List.getElem?_eq_getElem (by have := HDL.out; omega)⟩
      obtain ⟨X1, hX1, hXl, hXr⟩ := HLE.out I X0 hX0
      have HXL : Seal _ := ⟨hXl⟩
      have HX0 : Seal _ := ⟨hX0⟩
      have HX1 : Seal _ := ⟨hX1⟩
      have HXR : Seal _ := ⟨hXr⟩
      obtain ⟨_, _, z3, _, _, _⟩ := itemN_parts ((spoolN_parts HZ.out).2 X0 (List.mem_of_getElem? hX0))
      clear hX0 hX1 hXr hXl
      have hlI : I < s.items.length := by have := HDL.out; omega
      go_wp2
      go_loopw [12] (fun jj wx => ∃ K : Nat, K ≤ X1.rc.length ∧ jj = .int .i64 K ∧ Seal (Pt w wx [[Res.cells w3.heap.size [.int .i64 D.last, .slice t.a D.items.length t.c]], spoolKR D t, [Res.cells w2.heap.size [.int .i64 D.last, .slice ra D.items.length rd]], spoolKR D ⟨ra, rd, rps⟩, [Res.cells (w1.heap.size + 1) [.string u, .string v]], [Res.cells w1.heap.size [.int .i64 s.last, .slice bo s.items.length d]], spoolKR s ⟨bo, d, ps⟩])) (fun jj _ => X1.rc.length - (intOf jj).toNat)
      case atStart => exact ⟨0, Nat.zero_le _, rfl, ⟨S.out⟩⟩
      case round =>
        obtain ⟨K, hK, rfl, S'⟩ := hrel
        clear S g1
        have S6 : Seal (Pt w wr [[Res.cells w3.heap.size [.int .i64 D.last, .slice t.a D.items.length t.c]], spoolKR D t, [Res.cells w2.heap.size [.int .i64 D.last, .slice ra D.items.length rd]], spoolKR D ⟨ra, rd, rps⟩, [Res.cells (w1.heap.size + 1) [.string u, .string v]], [Res.cells w1.heap.size [.int .i64 s.last, .slice bo s.items.length d]], spoolKR s ⟨bo, d, ps⟩]) := ⟨S'.out⟩
        clear S'
        obtain ⟨P0, hP0⟩ : ∃ p, ps[I]? = some p := ⟨_, List.getElem?_eq_getElem (by have h9 := HF.out; unfold spoolKF at h9; dsimp only at h9; have := HDL.out; omega)⟩
        obtain ⟨P1, hP1⟩ : ∃ p, rps[I]? = some p := ⟨_, List.getElem?_eq_getElem (by have h9 := HR.out; unfold spoolKF at h9; dsimp only at h9; have := HDL.out; omega)⟩
        obtain ⟨gx, hgx, xc0, _, _, xc3, _⟩ := itemCells (S6.out.bring 3 rfl) HX1.out hP1
        obtain ⟨gs, hgs, _, _, _, sc3, _⟩ := itemCells (S6.out.bring 6 rfl) HX0.out hP0
        have HP1 : Seal _ := ⟨hP1⟩
        have i1 : ItemAt wr X1 P1 := item_read fun r hr => S6.out.nth 3 rfl r (List.mem_cons_of_mem _ (itemE.mem_ress HX1.out hP1 hr))
        have i0 : ItemAt wr X0 P0 := item_read fun r hr => S6.out.nth 6 rfl r (List.mem_cons_of_mem _ (itemE.mem_ress HX0.out hP0 hr))
        have I1 : Seal _ := ⟨i1⟩
        have I0 : Seal _ := ⟨i0⟩
        clear i1 i0 hP0 hP1
        dsimp only at hgx hgs
        subst hgx
        subst hgs
        have g1 := (S6.out.cellsM 2 rfl).c 1 _ rfl
        have h1 := (S6.out.cellsM 5 rfl).c 1 _ rfl
        by_cases hltK : K < X1.rc.length
        · obtain ⟨R0, hR0⟩ : ∃ r, X0.rc[K]? = some r := ⟨_, List.getElem?_eq_getElem (by have := HXL.out; omega)⟩
          obtain ⟨R1, hR1, hway⟩ := HXR.out K R0 hR0
          obtain ⟨f1, o1, e1, k0, k1, k2, k3⟩ := rcptAt I1.out.rc hR1
          obtain ⟨f0, o0, e0, l0, l1, l2, l3⟩ := rcptAt I0.out.rc hR0
          rw [e1] at xc3
          rw [e0] at sc3
          have hKl : K < X0.rc.length := by have := HXL.out; omega
          have HWAY : Seal _ := ⟨hway⟩
          clear hR0 hR1 e1 e0 hway
          have ba : Below wr.heap.size wr (wr.alloc (.cells #[.string R0.u, .string R0.d, .int .i64 R0.tries, .int .i64 R0.next] 44)) := (Below.refl _ _).alloc (Nat.le_refl _) _
          have BA : Seal _ := ⟨ba⟩
          have g1a := heldc g1 ba
          have xc3a := heldc xc3 ba
          have k0a := heldc k0 ba
          have k1a := heldc k1 ba
          have k2a := heldc k2 ba
          have k3a := heldc k3 ba
          clear ba
          go_upto_region 18 with fail
          clear g1a xc3a k0a k1a k2a k3a BA
          have S7 : Seal (Pt w ((wr.alloc (.cells #[.string R0.u, .string R0.d, .int .i64 R0.tries, .int .i64 R0.next] 44)).alloc (.cells #[.string R1.u, .string R1.d, .int .i64 R1.tries, .int .i64 R1.next] 44)) ([Res.cells (wr.heap.size + 1) [.string R1.u, .string R1.d, .int .i64 R1.tries, .int .i64 R1.next]] :: [Res.cells wr.heap.size [.string R0.u, .string R0.d, .int .i64 R0.tries, .int .i64 R0.next]] :: _)) := ⟨by
            have h := (S6.out.alloc #[.string R0.u, .string R0.d, .int .i64 R0.tries, .int .i64 R0.next] 44).alloc #[.string R1.u, .string R1.d, .int .i64 R1.tries, .int .i64 R1.next] 44
            simp only [World.size_alloc] at h
            exact h⟩
          clear S6 xc0 xc3 sc3 g1 h1 k0 k1 k2 k3 l0 l1 l2 l3 I0 I1
          generalize (wr.alloc (.cells #[.string R0.u, .string R0.d, .int .i64 R0.tries, .int .i64 R0.next] 44)).alloc (.cells #[.string R1.u, .string R1.d, .int .i64 R1.tries, .int .i64 R1.next] 44) = w7 at *
          rcases HWAY.out with ⟨c1, c2, c3, c4, c5, c6, c7, c8, c9, c10⟩ | ⟨c1, c2⟩ | ⟨c1, c2, c3⟩
          · have q1 : (X1.id == i) = true := by rw [beq_iff_eq]; exact c1
            have hsp := c2
            unfold toB1 at hsp
            rw [Bool.and_eq_true] at hsp
            obtain ⟨su, sd⟩ := hsp
            obtain ⟨PZ, hPZ⟩ : ∃ z, pauseZ R1.tries = z := ⟨_, rfl⟩
            rw [hPZ] at c4 c9 c10
            have HPZ : Seal _ := ⟨hPZ⟩
            have w1' : IntKind.i64.wrap (R0.tries + 1) = R0.tries + 1 := IntWalk.i64_in _ (by omega)
            have w2' : IntKind.i64.wrap (now + PZ) = now + PZ := IntWalk.i64_in _ (by omega)
            have q2 : (X1.id != i) = false := by rw [bne_eq_false_iff_eq]; exact c1
            have q3 : (R1.tries != R0.tries + 1) = false := by rw [bne_eq_false_iff_eq]; exact c3
            have q4 : (R1.next != now + PZ) = false := by rw [bne_eq_false_iff_eq]; exact c4
            clear c1 c2 c3 c4 c5 c6 c7 c8 c9 c10 hPZ HWAY
            have S8 : Seal (Pt w w7.drew [[Res.cells (wr.heap.size + 1) [.string R1.u, .string R1.d, .int .i64 R1.tries, .int .i64 R1.next]], [Res.cells (wr.heap.size) [.string R0.u, .string R0.d, .int .i64 R0.tries, .int .i64 R0.next]], [Res.cells (w3.heap.size) [.int .i64 D.last, .slice t.a D.items.length t.c]], spoolKR D t, [Res.cells (w2.heap.size) [.int .i64 D.last, .slice (some ⟨gx, 0, none⟩) D.items.length rd]], spoolKR D ⟨some ⟨gx, 0, none⟩, rd, rps⟩, [Res.cells (w1.heap.size + 1) [.string u, .string v]], [Res.cells (w1.heap.size) [.int .i64 s.last, .slice (some ⟨gs, 0, none⟩) s.items.length d]], spoolKR s ⟨some ⟨gs, 0, none⟩, d, ps⟩]) := ⟨S7.out.drew⟩
            refine wp_region_held_drew (S := (fun w' => w'.cell? ⟨w2.heap.size, 1, none⟩ = some (.slice (some ⟨gx, 0, none⟩) D.items.length rd) ∧ w'.cell? ⟨gx, I * 5, none⟩ = some (.int .i64 X1.id) ∧ w'.cell? ⟨wr.heap.size + 1, 0, none⟩ = some (.string R1.u) ∧ w'.cell? ⟨wr.heap.size + 1, 1, none⟩ = some (.string R1.d) ∧ w'.cell? ⟨w1.heap.size + 1, 0, none⟩ = some (.string u) ∧ w'.cell? ⟨w1.heap.size + 1, 1, none⟩ = some (.string v) ∧ w'.cell? ⟨wr.heap.size + 1, 2, none⟩ = some (.int .i64 R1.tries) ∧ w'.cell? ⟨wr.heap.size, 2, none⟩ = some (.int .i64 R0.tries) ∧ w'.cell? ⟨wr.heap.size + 1, 3, none⟩ = some (.int .i64 R1.next))) (by kernel_rfl) ⟨(S8.out.cellsM 4 rfl).c 1 _ rfl, (Nat.add_zero (I * 5) ▸ (item_at (S8.out.nth 5 rfl _ List.mem_cons_self : (itemRw gx rd D.items.length D.items rps).P _) rfl HX1.out HP1.out 0 (by decide) rfl).1), (S8.out.cellsM 0 rfl).c 0 _ rfl, (S8.out.cellsM 0 rfl).c 1 _ rfl, (S8.out.cellsM 6 rfl).c 0 _ rfl, (S8.out.cellsM 6 rfl).c 1 _ rfl, (S8.out.cellsM 0 rfl).c 2 _ rfl, (S8.out.cellsM 1 rfl).c 2 _ rfl, (S8.out.cellsM 0 rfl).c 3 _ rfl⟩ (fun hHeld => ?_)
            refine tkH 0 (by assumption) (h := ?_)
            refine tkH 1 (by assumption) (h := ?_)
            refine tkH 2 (by assumption) (h := ?_)
            refine tkH 3 (by assumption) (h := ?_)
            refine tkH 4 (by assumption) (h := ?_)
            refine tkH 5 (by assumption) (h := ?_)
            refine tkH 6 (by assumption) (h := ?_)
            refine tkH 7 (by assumption) (h := ?_)
            refine tkH 8 (by assumption) (h := ?_)
            refine tkH 9 (by assumption) (h := ?_)
            refine tkH 10 (by assumption) (h := ?_)
            refine tkH 11 (by assumption) (h := ?_)
            refine tkH 12 (by assumption) (h := ?_)
            refine tkH 13 (by assumption) (h := ?_)
            refine tkH 14 (by assumption) (h := ?_)
            refine tkH 15 (by assumption) (h := ?_)
            refine tkH 16 (by assumption) (h := ?_)
            refine tkH 17 (by assumption) (h := ?_)
            refine tkH 18 (by assumption) (h := ?_)
            refine tkH 19 (by assumption) (h := ?_)
            refine tkH 20 (by assumption) (h := ?_)
            refine tkH 21 (by assumption) (h := ?_)
            refine tkH 22 (by assumption) (h := ?_)
            refine tkH 23 (by assumption) (h := ?_)
            refine tkH 24 (by assumption) (h := ?_)
            refine tkH 25 (by assumption) (h := ?_)
            refine tkH 26 (by assumption) (h := ?_)
            refine wpAnyH_ready (rs := [27]) (by kernel_rfl) (by simp) ?_
            refine AllReadyH.cons rfl (fun K hK => ?_) AllReadyH.nil
            try dsimp only at hHeld
            go_split_ands
            go_simp
            refine (implSpoolPause_any R1.tries _).mono ?_
            rintro e u9 ⟨rfl, hw⟩
            rw [HPZ.out]
            have S8' := S8
            rw [hw] at S8'
            have S9 : Seal (Pt w u9 [[Res.cells (wr.heap.size + 1) [.string R1.u, .string R1.d, .int .i64 R1.tries, .int .i64 R1.next]], [Res.cells (wr.heap.size) [.string R0.u, .string R0.d, .int .i64 R0.tries, .int .i64 R0.next]], [Res.cells (w3.heap.size) [.int .i64 D.last, .slice t.a D.items.length t.c]], spoolKR D t, [Res.cells (w2.heap.size) [.int .i64 D.last, .slice (some ⟨gx, 0, none⟩) D.items.length rd]], spoolKR D ⟨some ⟨gx, 0, none⟩, rd, rps⟩, [Res.cells (w1.heap.size + 1) [.string u, .string v]], [Res.cells (w1.heap.size) [.int .i64 s.last, .slice (some ⟨gs, 0, none⟩) s.items.length d]], spoolKR s ⟨some ⟨gs, 0, none⟩, d, ps⟩]) := ⟨S8'.out⟩
            clear hw
            refine hK.out _ _ ⟨(S9.out.cellsM 4 rfl).c 1 _ rfl, (Nat.add_zero (I * 5) ▸ (item_at (S9.out.nth 5 rfl _ List.mem_cons_self : (itemRw gx rd D.items.length D.items rps).P _) rfl HX1.out HP1.out 0 (by decide) rfl).1), (S9.out.cellsM 0 rfl).c 0 _ rfl, (S9.out.cellsM 0 rfl).c 1 _ rfl, (S9.out.cellsM 6 rfl).c 0 _ rfl, (S9.out.cellsM 6 rfl).c 1 _ rfl, (S9.out.cellsM 0 rfl).c 2 _ rfl, (S9.out.cellsM 1 rfl).c 2 _ rfl, (S9.out.cellsM 0 rfl).c 3 _ rfl⟩ (fun hHeld => ?_)
            clear hK K
            try simp only [Act.put, List.getElem_toArray, List.getElem_cons_succ, List.getElem_cons_zero, List.setIfInBounds_toArray, List.set_cons_zero, List.set_cons_succ]
            refine tkH 28 (by assumption) (h := ?_)
            refine tkH 29 (by assumption) (h := ?_)
            refine tkH 30 (by assumption) (h := ?_)
            refine tkH 31 (by assumption) (h := ?_)
            refine tkH 32 (by assumption) (h := ?_)
            refine tkH 33 (by assumption) (h := ?_)
            refine tkH 34 (by assumption) (h := ?_)
            refine tkH 35 (by assumption) (h := ?_)
            refine tkH 36 (by assumption) (h := ?_)
            refine tkH 37 (by assumption) (h := ?_)
            refine tkH 38 (by assumption) (h := ?_)
            refine tkH 39 (by assumption) (h := ?_)
            refine tkH 40 (by assumption) (h := ?_)
            refine tkH 41 (by assumption) (h := ?_)
            refine tkH 42 (by assumption) (h := ?_)
            refine tkH 43 (by assumption) (h := ?_)
            refine tkH 44 (by assumption) (h := ?_)
            refine tkH 45 (by assumption) (h := ?_)
            refine tkH 46 (by assumption) (h := ?_)
            refine tkH 47 (by assumption) (h := ?_)
            refine tkN 48 (by assumption) (h := ?_)
            refine tkN 49 (by assumption) (h := ?_)
            refine tkN 50 (by assumption) (h := ?_)
            refine tkH 51 (by assumption) (h := ?_)
            refine tkH 52 (by assumption) (h := ?_)
            refine wpAnyH_done (by kernel_rfl) ?_ _
            have S30 : Seal _ := ⟨S9.out.tail.tail⟩
            go_wp2
            go_roundw
            case rel => exact ⟨K + 1, by omega, by go_num, ⟨S30.out⟩⟩
            case measure => simp [intOf]; omega
          · have q1 : (X1.id == i) = false := by rw [beq_eq_false_iff_ne]; exact c1
            have q2 : (X1.id != i) = true := by rw [bne_iff_ne]; exact c1
            have e1' : (R1.u.toList == R0.u.toList) = true := by rw [c2]; simp
            have e2' : (R1.d.toList == R0.d.toList) = true := by rw [c2]; simp
            have q3 : (R1.tries == R0.tries) = true := by rw [c2]; simp
            have q4 : (R1.next == R0.next) = true := by rw [c2]; simp
            clear c1 c2 HWAY
            have S8 : Seal (Pt w w7.drew [[Res.cells (wr.heap.size + 1) [.string R1.u, .string R1.d, .int .i64 R1.tries, .int .i64 R1.next]], [Res.cells (wr.heap.size) [.string R0.u, .string R0.d, .int .i64 R0.tries, .int .i64 R0.next]], [Res.cells (w3.heap.size) [.int .i64 D.last, .slice t.a D.items.length t.c]], spoolKR D t, [Res.cells (w2.heap.size) [.int .i64 D.last, .slice (some ⟨gx, 0, none⟩) D.items.length rd]], spoolKR D ⟨some ⟨gx, 0, none⟩, rd, rps⟩, [Res.cells (w1.heap.size + 1) [.string u, .string v]], [Res.cells (w1.heap.size) [.int .i64 s.last, .slice (some ⟨gs, 0, none⟩) s.items.length d]], spoolKR s ⟨some ⟨gs, 0, none⟩, d, ps⟩]) := ⟨S7.out.drew⟩
            refine wp_region_held_drew (S := (fun w' => w'.cell? ⟨w2.heap.size, 1, none⟩ = some (.slice (some ⟨gx, 0, none⟩) D.items.length rd) ∧ w'.cell? ⟨gx, I * 5, none⟩ = some (.int .i64 X1.id) ∧ w'.cell? ⟨wr.heap.size + 1, 0, none⟩ = some (.string R1.u) ∧ w'.cell? ⟨wr.heap.size + 1, 1, none⟩ = some (.string R1.d) ∧ w'.cell? ⟨wr.heap.size + 1, 2, none⟩ = some (.int .i64 R1.tries) ∧ w'.cell? ⟨wr.heap.size + 1, 3, none⟩ = some (.int .i64 R1.next) ∧ w'.cell? ⟨wr.heap.size, 0, none⟩ = some (.string R0.u) ∧ w'.cell? ⟨wr.heap.size, 1, none⟩ = some (.string R0.d) ∧ w'.cell? ⟨wr.heap.size, 2, none⟩ = some (.int .i64 R0.tries) ∧ w'.cell? ⟨wr.heap.size, 3, none⟩ = some (.int .i64 R0.next))) (by kernel_rfl) ⟨(S8.out.cellsM 4 rfl).c 1 _ rfl, (Nat.add_zero (I * 5) ▸ (item_at (S8.out.nth 5 rfl _ List.mem_cons_self : (itemRw gx rd D.items.length D.items rps).P _) rfl HX1.out HP1.out 0 (by decide) rfl).1), (S8.out.cellsM 0 rfl).c 0 _ rfl, (S8.out.cellsM 0 rfl).c 1 _ rfl, (S8.out.cellsM 0 rfl).c 2 _ rfl, (S8.out.cellsM 0 rfl).c 3 _ rfl, (S8.out.cellsM 1 rfl).c 0 _ rfl, (S8.out.cellsM 1 rfl).c 1 _ rfl, (S8.out.cellsM 1 rfl).c 2 _ rfl, (S8.out.cellsM 1 rfl).c 3 _ rfl⟩ (fun hHeld => ?_)
            refine tkH 0 (by assumption) (h := ?_)
            refine tkH 1 (by assumption) (h := ?_)
            refine tkH 2 (by assumption) (h := ?_)
            refine tkH 3 (by assumption) (h := ?_)
            refine tkH 4 (by assumption) (h := ?_)
            refine tkH 5 (by assumption) (h := ?_)
            refine tkH 6 (by assumption) (h := ?_)
            refine tkH 7 (by assumption) (h := ?_)
            refine tkH 8 (by assumption) (h := ?_)
            refine tkN 9 (by assumption) (h := ?_)
            refine tkN 10 (by assumption) (h := ?_)
            refine tkN 11 (by assumption) (h := ?_)
            refine tkN 12 (by assumption) (h := ?_)
            refine tkH 13 (by assumption) (h := ?_)
            refine tkH 14 (by assumption) (h := ?_)
            refine tkN 15 (by assumption) (h := ?_)
            refine tkN 16 (by assumption) (h := ?_)
            refine tkN 17 (by assumption) (h := ?_)
            refine tkN 18 (by assumption) (h := ?_)
            refine tkN 19 (by assumption) (h := ?_)
            refine tkN 20 (by assumption) (h := ?_)
            refine tkN 21 (by assumption) (h := ?_)
            refine tkN 22 (by assumption) (h := ?_)
            refine tkN 23 (by assumption) (h := ?_)
            refine tkN 24 (by assumption) (h := ?_)
            refine tkN 25 (by assumption) (h := ?_)
            refine tkN 26 (by assumption) (h := ?_)
            refine wpAnyH_ready (rs := [27]) (by kernel_rfl) (by simp) ?_
            refine AllReadyH.cons rfl (fun K hK => ?_) AllReadyH.nil
            go_simp
            refine hK.out _ _ (by assumption) (fun hHeld => ?_)
            clear hK K
            try simp only [Act.put, List.getElem_toArray, List.getElem_cons_succ, List.getElem_cons_zero, List.setIfInBounds_toArray, List.set_cons_zero, List.set_cons_succ]
            refine tkN 28 (by assumption) (h := ?_)
            refine tkN 29 (by assumption) (h := ?_)
            refine tkN 30 (by assumption) (h := ?_)
            refine tkH 31 (by assumption) (h := ?_)
            refine tkH 32 (by assumption) (h := ?_)
            refine tkH 33 (by assumption) (h := ?_)
            refine tkH 34 (by assumption) (h := ?_)
            refine tkH 35 (by assumption) (h := ?_)
            refine tkH 36 (by assumption) (h := ?_)
            refine tkH 37 (by assumption) (h := ?_)
            refine tkH 38 (by assumption) (h := ?_)
            refine tkH 39 (by assumption) (h := ?_)
            refine tkH 40 (by assumption) (h := ?_)
            refine tkH 41 (by assumption) (h := ?_)
            refine tkN 42 (by assumption) (h := ?_)
            refine tkN 43 (by assumption) (h := ?_)
            refine tkN 44 (by assumption) (h := ?_)
            refine tkN 45 (by assumption) (h := ?_)
            refine tkH 46 (by assumption) (h := ?_)
            refine tkH 47 (by assumption) (h := ?_)
            refine tkH 48 (by assumption) (h := ?_)
            refine tkH 49 (by assumption) (h := ?_)
            refine tkH 50 (by assumption) (h := ?_)
            refine tkH 51 (by assumption) (h := ?_)
            refine tkH 52 (by assumption) (h := ?_)
            refine wpAnyH_done (by kernel_rfl) ?_ _
            have S30 : Seal _ := ⟨S8.out.tail.tail⟩
            go_wp2
            go_roundw
            case rel => exact ⟨K + 1, by omega, by go_num, ⟨S30.out⟩⟩
            case measure => simp [intOf]; omega
          · have q1 : (X1.id == i) = true := by rw [beq_iff_eq]; exact c1
            have q2 : (X1.id != i) = false := by rw [bne_eq_false_iff_eq]; exact c1
            have e1' : (R1.u.toList == R0.u.toList) = true := by rw [c3]; simp
            have e2' : (R1.d.toList == R0.d.toList) = true := by rw [c3]; simp
            have q3 : (R1.tries == R0.tries) = true := by rw [c3]; simp
            have q4 : (R1.next == R0.next) = true := by rw [c3]; simp
            unfold toB1 at c2
            clear c1 c3 HWAY
            cases su : (R1.u.toList == u.toList)
            · clear c2
              have S8 : Seal (Pt w w7.drew [[Res.cells (wr.heap.size + 1) [.string R1.u, .string R1.d, .int .i64 R1.tries, .int .i64 R1.next]], [Res.cells (wr.heap.size) [.string R0.u, .string R0.d, .int .i64 R0.tries, .int .i64 R0.next]], [Res.cells (w3.heap.size) [.int .i64 D.last, .slice t.a D.items.length t.c]], spoolKR D t, [Res.cells (w2.heap.size) [.int .i64 D.last, .slice (some ⟨gx, 0, none⟩) D.items.length rd]], spoolKR D ⟨some ⟨gx, 0, none⟩, rd, rps⟩, [Res.cells (w1.heap.size + 1) [.string u, .string v]], [Res.cells (w1.heap.size) [.int .i64 s.last, .slice (some ⟨gs, 0, none⟩) s.items.length d]], spoolKR s ⟨some ⟨gs, 0, none⟩, d, ps⟩]) := ⟨S7.out.drew⟩
              refine wp_region_held_drew (S := (fun w' => w'.cell? ⟨w2.heap.size, 1, none⟩ = some (.slice (some ⟨gx, 0, none⟩) D.items.length rd) ∧ w'.cell? ⟨gx, I * 5, none⟩ = some (.int .i64 X1.id) ∧ w'.cell? ⟨wr.heap.size + 1, 0, none⟩ = some (.string R1.u) ∧ w'.cell? ⟨wr.heap.size + 1, 1, none⟩ = some (.string R1.d) ∧ w'.cell? ⟨w1.heap.size + 1, 0, none⟩ = some (.string u) ∧ w'.cell? ⟨w1.heap.size + 1, 1, none⟩ = some (.string v) ∧ w'.cell? ⟨wr.heap.size + 1, 2, none⟩ = some (.int .i64 R1.tries) ∧ w'.cell? ⟨wr.heap.size + 1, 3, none⟩ = some (.int .i64 R1.next) ∧ w'.cell? ⟨wr.heap.size, 0, none⟩ = some (.string R0.u) ∧ w'.cell? ⟨wr.heap.size, 1, none⟩ = some (.string R0.d) ∧ w'.cell? ⟨wr.heap.size, 2, none⟩ = some (.int .i64 R0.tries) ∧ w'.cell? ⟨wr.heap.size, 3, none⟩ = some (.int .i64 R0.next))) (by kernel_rfl) ⟨(S8.out.cellsM 4 rfl).c 1 _ rfl, (Nat.add_zero (I * 5) ▸ (item_at (S8.out.nth 5 rfl _ List.mem_cons_self : (itemRw gx rd D.items.length D.items rps).P _) rfl HX1.out HP1.out 0 (by decide) rfl).1), (S8.out.cellsM 0 rfl).c 0 _ rfl, (S8.out.cellsM 0 rfl).c 1 _ rfl, (S8.out.cellsM 6 rfl).c 0 _ rfl, (S8.out.cellsM 6 rfl).c 1 _ rfl, (S8.out.cellsM 0 rfl).c 2 _ rfl, (S8.out.cellsM 0 rfl).c 3 _ rfl, (S8.out.cellsM 1 rfl).c 0 _ rfl, (S8.out.cellsM 1 rfl).c 1 _ rfl, (S8.out.cellsM 1 rfl).c 2 _ rfl, (S8.out.cellsM 1 rfl).c 3 _ rfl⟩ (fun hHeld => ?_)
              refine tkH 0 (by assumption) (h := ?_)
              refine tkH 1 (by assumption) (h := ?_)
              refine tkH 2 (by assumption) (h := ?_)
              refine tkH 3 (by assumption) (h := ?_)
              refine tkH 4 (by assumption) (h := ?_)
              refine tkH 5 (by assumption) (h := ?_)
              refine tkH 6 (by assumption) (h := ?_)
              refine tkH 7 (by assumption) (h := ?_)
              refine tkH 8 (by assumption) (h := ?_)
              refine tkH 9 (by assumption) (h := ?_)
              refine tkH 10 (by assumption) (h := ?_)
              refine tkH 11 (by assumption) (h := ?_)
              refine tkH 12 (by assumption) (h := ?_)
              refine tkH 13 (by assumption) (h := ?_)
              refine tkH 14 (by assumption) (h := ?_)
              refine tkN 15 (by assumption) (h := ?_)
              refine tkN 16 (by assumption) (h := ?_)
              refine tkN 17 (by assumption) (h := ?_)
              refine tkN 18 (by assumption) (h := ?_)
              refine tkN 19 (by assumption) (h := ?_)
              refine tkN 20 (by assumption) (h := ?_)
              refine tkN 21 (by assumption) (h := ?_)
              refine tkN 22 (by assumption) (h := ?_)
              refine tkN 23 (by assumption) (h := ?_)
              refine tkN 24 (by assumption) (h := ?_)
              refine tkN 25 (by assumption) (h := ?_)
              refine tkN 26 (by assumption) (h := ?_)
              refine wpAnyH_ready (rs := [27]) (by kernel_rfl) (by simp) ?_
              refine AllReadyH.cons rfl (fun K hK => ?_) AllReadyH.nil
              go_simp
              refine hK.out _ _ (by assumption) (fun hHeld => ?_)
              clear hK K
              try simp only [Act.put, List.getElem_toArray, List.getElem_cons_succ, List.getElem_cons_zero, List.setIfInBounds_toArray, List.set_cons_zero, List.set_cons_succ]
              refine tkN 28 (by assumption) (h := ?_)
              refine tkN 29 (by assumption) (h := ?_)
              refine tkN 30 (by assumption) (h := ?_)
              refine tkH 31 (by assumption) (h := ?_)
              refine tkH 32 (by assumption) (h := ?_)
              refine tkH 33 (by assumption) (h := ?_)
              refine tkH 34 (by assumption) (h := ?_)
              refine tkH 35 (by assumption) (h := ?_)
              refine tkH 36 (by assumption) (h := ?_)
              refine tkH 37 (by assumption) (h := ?_)
              refine tkH 38 (by assumption) (h := ?_)
              refine tkH 39 (by assumption) (h := ?_)
              refine tkH 40 (by assumption) (h := ?_)
              refine tkH 41 (by assumption) (h := ?_)
              refine tkH 42 (by assumption) (h := ?_)
              refine tkH 43 (by assumption) (h := ?_)
              refine tkH 44 (by assumption) (h := ?_)
              refine tkH 45 (by assumption) (h := ?_)
              refine tkH 46 (by assumption) (h := ?_)
              refine tkH 47 (by assumption) (h := ?_)
              refine tkH 48 (by assumption) (h := ?_)
              refine tkH 49 (by assumption) (h := ?_)
              refine tkH 50 (by assumption) (h := ?_)
              refine tkH 51 (by assumption) (h := ?_)
              refine tkH 52 (by assumption) (h := ?_)
              refine wpAnyH_done (by kernel_rfl) ?_ _
              have S30 : Seal _ := ⟨S8.out.tail.tail⟩
              go_wp2
              go_roundw
              case rel => exact ⟨K + 1, by omega, by go_num, ⟨S30.out⟩⟩
              case measure => simp [intOf]; omega
            · have sd : (R1.d.toList == v.toList) = false := by rw [su, Bool.true_and] at c2; exact c2
              clear c2
              have S8 : Seal (Pt w w7.drew [[Res.cells (wr.heap.size + 1) [.string R1.u, .string R1.d, .int .i64 R1.tries, .int .i64 R1.next]], [Res.cells (wr.heap.size) [.string R0.u, .string R0.d, .int .i64 R0.tries, .int .i64 R0.next]], [Res.cells (w3.heap.size) [.int .i64 D.last, .slice t.a D.items.length t.c]], spoolKR D t, [Res.cells (w2.heap.size) [.int .i64 D.last, .slice (some ⟨gx, 0, none⟩) D.items.length rd]], spoolKR D ⟨some ⟨gx, 0, none⟩, rd, rps⟩, [Res.cells (w1.heap.size + 1) [.string u, .string v]], [Res.cells (w1.heap.size) [.int .i64 s.last, .slice (some ⟨gs, 0, none⟩) s.items.length d]], spoolKR s ⟨some ⟨gs, 0, none⟩, d, ps⟩]) := ⟨S7.out.drew⟩
              refine wp_region_held_drew (S := (fun w' => w'.cell? ⟨w2.heap.size, 1, none⟩ = some (.slice (some ⟨gx, 0, none⟩) D.items.length rd) ∧ w'.cell? ⟨gx, I * 5, none⟩ = some (.int .i64 X1.id) ∧ w'.cell? ⟨wr.heap.size + 1, 0, none⟩ = some (.string R1.u) ∧ w'.cell? ⟨wr.heap.size + 1, 1, none⟩ = some (.string R1.d) ∧ w'.cell? ⟨w1.heap.size + 1, 0, none⟩ = some (.string u) ∧ w'.cell? ⟨w1.heap.size + 1, 1, none⟩ = some (.string v) ∧ w'.cell? ⟨wr.heap.size + 1, 2, none⟩ = some (.int .i64 R1.tries) ∧ w'.cell? ⟨wr.heap.size + 1, 3, none⟩ = some (.int .i64 R1.next) ∧ w'.cell? ⟨wr.heap.size, 0, none⟩ = some (.string R0.u) ∧ w'.cell? ⟨wr.heap.size, 1, none⟩ = some (.string R0.d) ∧ w'.cell? ⟨wr.heap.size, 2, none⟩ = some (.int .i64 R0.tries) ∧ w'.cell? ⟨wr.heap.size, 3, none⟩ = some (.int .i64 R0.next))) (by kernel_rfl) ⟨(S8.out.cellsM 4 rfl).c 1 _ rfl, (Nat.add_zero (I * 5) ▸ (item_at (S8.out.nth 5 rfl _ List.mem_cons_self : (itemRw gx rd D.items.length D.items rps).P _) rfl HX1.out HP1.out 0 (by decide) rfl).1), (S8.out.cellsM 0 rfl).c 0 _ rfl, (S8.out.cellsM 0 rfl).c 1 _ rfl, (S8.out.cellsM 6 rfl).c 0 _ rfl, (S8.out.cellsM 6 rfl).c 1 _ rfl, (S8.out.cellsM 0 rfl).c 2 _ rfl, (S8.out.cellsM 0 rfl).c 3 _ rfl, (S8.out.cellsM 1 rfl).c 0 _ rfl, (S8.out.cellsM 1 rfl).c 1 _ rfl, (S8.out.cellsM 1 rfl).c 2 _ rfl, (S8.out.cellsM 1 rfl).c 3 _ rfl⟩ (fun hHeld => ?_)
              refine tkH 0 (by assumption) (h := ?_)
              refine tkH 1 (by assumption) (h := ?_)
              refine tkH 2 (by assumption) (h := ?_)
              refine tkH 3 (by assumption) (h := ?_)
              refine tkH 4 (by assumption) (h := ?_)
              refine tkH 5 (by assumption) (h := ?_)
              refine tkH 6 (by assumption) (h := ?_)
              refine tkH 7 (by assumption) (h := ?_)
              refine tkH 8 (by assumption) (h := ?_)
              refine tkH 9 (by assumption) (h := ?_)
              refine tkH 10 (by assumption) (h := ?_)
              refine tkH 11 (by assumption) (h := ?_)
              refine tkH 12 (by assumption) (h := ?_)
              refine tkH 13 (by assumption) (h := ?_)
              refine tkH 14 (by assumption) (h := ?_)
              refine tkN 15 (by assumption) (h := ?_)
              refine tkN 16 (by assumption) (h := ?_)
              refine tkN 17 (by assumption) (h := ?_)
              refine tkN 18 (by assumption) (h := ?_)
              refine tkN 19 (by assumption) (h := ?_)
              refine tkN 20 (by assumption) (h := ?_)
              refine tkN 21 (by assumption) (h := ?_)
              refine tkN 22 (by assumption) (h := ?_)
              refine tkN 23 (by assumption) (h := ?_)
              refine tkN 24 (by assumption) (h := ?_)
              refine tkN 25 (by assumption) (h := ?_)
              refine tkN 26 (by assumption) (h := ?_)
              refine wpAnyH_ready (rs := [27]) (by kernel_rfl) (by simp) ?_
              refine AllReadyH.cons rfl (fun K hK => ?_) AllReadyH.nil
              go_simp
              refine hK.out _ _ (by assumption) (fun hHeld => ?_)
              clear hK K
              try simp only [Act.put, List.getElem_toArray, List.getElem_cons_succ, List.getElem_cons_zero, List.setIfInBounds_toArray, List.set_cons_zero, List.set_cons_succ]
              refine tkN 28 (by assumption) (h := ?_)
              refine tkN 29 (by assumption) (h := ?_)
              refine tkN 30 (by assumption) (h := ?_)
              refine tkH 31 (by assumption) (h := ?_)
              refine tkH 32 (by assumption) (h := ?_)
              refine tkH 33 (by assumption) (h := ?_)
              refine tkH 34 (by assumption) (h := ?_)
              refine tkH 35 (by assumption) (h := ?_)
              refine tkH 36 (by assumption) (h := ?_)
              refine tkH 37 (by assumption) (h := ?_)
              refine tkH 38 (by assumption) (h := ?_)
              refine tkH 39 (by assumption) (h := ?_)
              refine tkH 40 (by assumption) (h := ?_)
              refine tkH 41 (by assumption) (h := ?_)
              refine tkH 42 (by assumption) (h := ?_)
              refine tkH 43 (by assumption) (h := ?_)
              refine tkH 44 (by assumption) (h := ?_)
              refine tkH 45 (by assumption) (h := ?_)
              refine tkH 46 (by assumption) (h := ?_)
              refine tkH 47 (by assumption) (h := ?_)
              refine tkH 48 (by assumption) (h := ?_)
              refine tkH 49 (by assumption) (h := ?_)
              refine tkH 50 (by assumption) (h := ?_)
              refine tkH 51 (by assumption) (h := ?_)
              refine tkH 52 (by assumption) (h := ?_)
              refine wpAnyH_done (by kernel_rfl) ?_ _
              have S30 : Seal _ := ⟨S8.out.tail.tail⟩
              go_wp2
              go_roundw
              case rel => exact ⟨K + 1, by omega, by go_num, ⟨S30.out⟩⟩
              case measure => simp [intOf]; omega
        · go_wp2
          go_roundw
          case rel => exact ⟨I + 1, by omega, by go_num, ⟨S6.out⟩⟩
          case measure => simp [intOf]; omega
    · have S8 : Seal (Pt w (wr.alloc (.cells #[.int .i64 D.last, .slice ra D.items.length rd] 25)) ([Res.cells wr.heap.size [.int .i64 D.last, .slice ra D.items.length rd]] :: [[Res.cells w3.heap.size [.int .i64 D.last, .slice t.a D.items.length t.c]], spoolKR D t, [Res.cells w2.heap.size [.int .i64 D.last, .slice ra D.items.length rd]], spoolKR D ⟨ra, rd, rps⟩, [Res.cells (w1.heap.size + 1) [.string u, .string v]], [Res.cells w1.heap.size [.int .i64 s.last, .slice bo s.items.length d]], spoolKR s ⟨bo, d, ps⟩])) := ⟨S.out.alloc #[.int .i64 D.last, .slice ra D.items.length rd] 25⟩
      have g0 := (S.out.cellsM 2 rfl).c 0 _ rfl
      go_wp2
      obtain ⟨B, hB⟩ : ∃ B, wr.heap.size = B := ⟨_, rfl⟩
      have S9 : Seal (Pt w (wr.alloc (.cells #[.int .i64 D.last, .slice ra D.items.length rd] 25)) ([Res.cells B [.int .i64 D.last, .slice ra D.items.length rd]] :: ([] ++ [[Res.cells w3.heap.size [.int .i64 D.last, .slice t.a D.items.length t.c]], spoolKR D t, [Res.cells w2.heap.size [.int .i64 D.last, .slice ra D.items.length rd]], spoolKR D ⟨ra, rd, rps⟩, [Res.cells (w1.heap.size + 1) [.string u, .string v]], [Res.cells w1.heap.size [.int .i64 s.last, .slice bo s.items.length d]], spoolKR s ⟨bo, d, ps⟩]))) := ⟨by rw [← hB]; exact S8.out⟩
      rw [hB]
      clear g0 g1 S8 hB
      go_loopw [16, 8] (fun nn kk wx => ∃ (n : Nat) (ok : Bool) (Y : SpoolD) (y : SpoolP) (L : List (List Res)) (j : Nat), n ≤ 4 ∧ nn = .int .i64 n ∧ kk = .bool ok ∧ Seal (Tired i u v now n Y ok) ∧ Seal (spoolKZ Y) ∧ Seal (spoolKF Y y) ∧ Seal ((L ++ [[Res.cells w3.heap.size [.int .i64 D.last, .slice t.a D.items.length t.c]], spoolKR D t, [Res.cells w2.heap.size [.int .i64 D.last, .slice ra D.items.length rd]], spoolKR D ⟨ra, rd, rps⟩, [Res.cells (w1.heap.size + 1) [.string u, .string v]], [Res.cells w1.heap.size [.int .i64 s.last, .slice bo s.items.length d]], spoolKR s ⟨bo, d, ps⟩])[j]? = some (spoolKR Y y)) ∧ Seal (Pt w wx ([Res.cells B [.int .i64 Y.last, .slice y.a Y.items.length y.c]] :: (L ++ [[Res.cells w3.heap.size [.int .i64 D.last, .slice t.a D.items.length t.c]], spoolKR D t, [Res.cells w2.heap.size [.int .i64 D.last, .slice ra D.items.length rd]], spoolKR D ⟨ra, rd, rps⟩, [Res.cells (w1.heap.size + 1) [.string u, .string v]], [Res.cells w1.heap.size [.int .i64 s.last, .slice bo s.items.length d]], spoolKR s ⟨bo, d, ps⟩])))) (fun nn _ _ => 4 - (intOf nn).toNat)
      case atStart => exact ⟨0, true, D, ⟨ra, rd, rps⟩, [], 3, by omega, rfl, rfl, ⟨HST.out true⟩, HZD, HR, ⟨rfl⟩, ⟨S9.out⟩⟩
      case round =>
        obtain ⟨n, ok, Y, y, L, j, hn, rfl, rfl, HTI, HYZ, HYF, HYJ, SY⟩ := hrel
        clear S S9
        have SB : Seal (Pt w wr [[Res.cells w3.heap.size [.int .i64 D.last, .slice t.a D.items.length t.c]], spoolKR D t, [Res.cells w2.heap.size [.int .i64 D.last, .slice ra D.items.length rd]], spoolKR D ⟨ra, rd, rps⟩, [Res.cells (w1.heap.size + 1) [.string u, .string v]], [Res.cells w1.heap.size [.int .i64 s.last, .slice bo s.items.length d]], spoolKR s ⟨bo, d, ps⟩]) := ⟨Pt.dropL SY.out.tail⟩
        by_cases hn4 : n < 4
        · have hn4' : (n : Int) < 4 := by omega
          obtain ⟨E, hE⟩ : ∃ E, (laterR Y i u v now).1 = E := ⟨_, rfl⟩
          obtain ⟨q', hq'⟩ : ∃ q, (laterR Y i u v now).2 = q := ⟨_, rfl⟩
          have HTN : Seal (Tired i u v now (n + 1) E q') := ⟨by rw [← hE, ← hq']; exact HTI.out.next⟩
          have HEZ : Seal (spoolKZ E) := ⟨by rw [← hE]; exact laterR_sz Y i u v now HYZ.out⟩
          have HE : Seal _ := ⟨hE⟩
          have HQ' : Seal _ := ⟨hq'⟩
          clear hE hq'
          have g0 := (SY.out.cellsM 0 rfl).c 0 _ rfl
          have g1 := (SY.out.cellsM 0 rfl).c 1 _ rfl
          have h0 := (SB.out.cellsM 4 rfl).c 0 _ rfl
          have h1 := (SB.out.cellsM 4 rfl).c 1 _ rfl
          go_wp2_with fail
          refine (CL.out Y HYZ.out _ _ y (j + 1) (HM.out.below SY.out.below (Nat.le_refl _)) SY.out HYJ.out HYF.out).mono ?_
          rintro e w8 ⟨z, rfl, hzf, hk⟩
          rw [HE.out] at hzf hk
          rw [HE.out, HQ'.out]
          have HZF : Seal _ := ⟨hzf⟩
          have S3 : Seal (Pt w w8 ([Res.cells B [.int .i64 Y.last, .slice y.a Y.items.length y.c]] :: ((spoolKR E z :: L) ++ [[Res.cells w3.heap.size [.int .i64 D.last, .slice t.a D.items.length t.c]], spoolKR D t, [Res.cells w2.heap.size [.int .i64 D.last, .slice ra D.items.length rd]], spoolKR D ⟨ra, rd, rps⟩, [Res.cells (w1.heap.size + 1) [.string u, .string v]], [Res.cells w1.heap.size [.int .i64 s.last, .slice bo s.items.length d]], spoolKR s ⟨bo, d, ps⟩]))) := ⟨(Pt.join SY.out hk).bring 1 rfl⟩
          clear hk hzf g0 g1 h0 h1 SY SB
          have KB := S3.out.cellsM 0 rfl
          have oc0 := KB.c 0 _ rfl
          have oc1 := KB.c 1 _ rfl
          have of0 := KB.f 0 (by simp)
          have of1 := KB.f 1 (by simp)
          clear KB
          have S4 : Seal (Pt w ((w8.setCell ⟨B, 0, none⟩ (.int .i64 E.last)).setCell ⟨B, 1, none⟩ (.slice z.a E.items.length z.c)) ([Res.cells B [.int .i64 E.last, .slice z.a E.items.length z.c]] :: ((spoolKR E z :: L) ++ [[Res.cells w3.heap.size [.int .i64 D.last, .slice t.a D.items.length t.c]], spoolKR D t, [Res.cells w2.heap.size [.int .i64 D.last, .slice ra D.items.length rd]], spoolKR D ⟨ra, rd, rps⟩, [Res.cells (w1.heap.size + 1) [.string u, .string v]], [Res.cells w1.heap.size [.int .i64 s.last, .slice bo s.items.length d]], spoolKR s ⟨bo, d, ps⟩]))) := ⟨(S3.out.set 0 (.int .i64 E.last) (by simp)).set 1 (.slice z.a E.items.length z.c) (by simp)⟩
          clear S3
          go_wp2
          go_roundw
          case rel => exact ⟨n + 1, q', E, z, spoolKR E z :: L, 0, by omega, by go_num, rfl, HTN, HEZ, HZF, ⟨rfl⟩, S4⟩
          case measure => simp [intOf]; omega
        · have e4 : n = 4 := by omega
          subst e4
          have eo : ok = false := HTI.out.end
          subst eo
          clear SY
          go_upto_region 25 with fail
          have S40 : Seal (Pt w wr [[Res.cells w3.heap.size [.int .i64 D.last, .slice t.a D.items.length t.c]], spoolKR D t, [Res.cells w2.heap.size [.int .i64 D.last, .slice ra D.items.length rd]], spoolKR D ⟨ra, rd, rps⟩, [Res.cells (w1.heap.size + 1) [.string u, .string v]], [Res.cells w1.heap.size [.int .i64 s.last, .slice bo s.items.length d]], spoolKR s ⟨bo, d, ps⟩]) := ⟨SB.out⟩
          clear SB
          have S41 : Seal (Pt w wr.drew [[Res.cells (w3.heap.size) [.int .i64 D.last, .slice t.a D.items.length t.c]], spoolKR D t, [Res.cells (w2.heap.size) [.int .i64 D.last, .slice ra D.items.length rd]], spoolKR D ⟨ra, rd, rps⟩, [Res.cells (w1.heap.size + 1) [.string u, .string v]], [Res.cells (w1.heap.size) [.int .i64 s.last, .slice bo s.items.length d]], spoolKR s ⟨bo, d, ps⟩]) := ⟨S40.out.drew⟩
          refine wp_region_held_drew (S := (fun w' => w'.cell? ⟨w2.heap.size, 0, none⟩ = some (.int .i64 D.last) ∧ w'.cell? ⟨w2.heap.size, 1, none⟩ = some (.slice ra D.items.length rd) ∧ w'.cell? ⟨w1.heap.size, 0, none⟩ = some (.int .i64 s.last) ∧ w'.cell? ⟨w1.heap.size, 1, none⟩ = some (.slice bo s.items.length d))) (by kernel_rfl) ⟨(S41.out.cellsM 2 rfl).c 0 _ rfl, (S41.out.cellsM 2 rfl).c 1 _ rfl, (S41.out.cellsM 5 rfl).c 0 _ rfl, (S41.out.cellsM 5 rfl).c 1 _ rfl⟩ (fun hHeld => ?_)
          refine tkH 0 (by assumption) (h := ?_)
          refine wpAnyH_ready (rs := [1]) (by kernel_rfl) (by simp) ?_
          refine AllReadyH.cons rfl (fun K hK => ?_) AllReadyH.nil
          try dsimp only at hHeld
          go_split_ands
          go_simp
          refine (implSpoolOk_any D ra rd _ (HM.out.below S41.out.below (Nat.le_refl _)) (spoolK_read HR.out (S41.out.nth 3 rfl)) HZD.out).mono ?_
          rintro e x1 ⟨rfl, hb⟩
          rw [HA1.out]
          have S42 : Seal (Pt w x1 [[Res.cells (w3.heap.size) [.int .i64 D.last, .slice t.a D.items.length t.c]], spoolKR D t, [Res.cells (w2.heap.size) [.int .i64 D.last, .slice ra D.items.length rd]], spoolKR D ⟨ra, rd, rps⟩, [Res.cells (w1.heap.size + 1) [.string u, .string v]], [Res.cells (w1.heap.size) [.int .i64 s.last, .slice bo s.items.length d]], spoolKR s ⟨bo, d, ps⟩]) := ⟨S41.out.later hb⟩
          clear hb
          refine hK.out _ _ ⟨(S42.out.cellsM 2 rfl).c 0 _ rfl, (S42.out.cellsM 2 rfl).c 1 _ rfl, (S42.out.cellsM 5 rfl).c 0 _ rfl, (S42.out.cellsM 5 rfl).c 1 _ rfl⟩ (fun hHeld => ?_)
          clear hK K
          try simp only [Act.put, List.getElem_toArray, List.getElem_cons_succ, List.getElem_cons_zero, List.setIfInBounds_toArray, List.set_cons_zero, List.set_cons_succ]
          refine tkH 2 (by assumption) (h := ?_)
          refine tkH 3 (by assumption) (h := ?_)
          refine tkH 5 (by assumption) (h := ?_)
          refine wpAnyH_ready (rs := [4]) (by kernel_rfl) (by simp) ?_
          refine AllReadyH.cons rfl (fun K hK => ?_) AllReadyH.nil
          try dsimp only at hHeld
          go_split_ands
          go_simp
          refine (implSpoolMany_any D ra rd _ (HM.out.below S42.out.below (Nat.le_refl _)) (spoolK_read HR.out (S42.out.nth 3 rfl)) HZD.out).mono ?_
          rintro e x2 ⟨rfl, hb⟩
          rw [HA2.out]
          have S43 : Seal (Pt w x2 [[Res.cells (w3.heap.size) [.int .i64 D.last, .slice t.a D.items.length t.c]], spoolKR D t, [Res.cells (w2.heap.size) [.int .i64 D.last, .slice ra D.items.length rd]], spoolKR D ⟨ra, rd, rps⟩, [Res.cells (w1.heap.size + 1) [.string u, .string v]], [Res.cells (w1.heap.size) [.int .i64 s.last, .slice bo s.items.length d]], spoolKR s ⟨bo, d, ps⟩]) := ⟨S42.out.later hb⟩
          clear hb
          refine hK.out _ _ ⟨(S43.out.cellsM 2 rfl).c 0 _ rfl, (S43.out.cellsM 2 rfl).c 1 _ rfl, (S43.out.cellsM 5 rfl).c 0 _ rfl, (S43.out.cellsM 5 rfl).c 1 _ rfl⟩ (fun hHeld => ?_)
          clear hK K
          try simp only [Act.put, List.getElem_toArray, List.getElem_cons_succ, List.getElem_cons_zero, List.setIfInBounds_toArray, List.set_cons_zero, List.set_cons_succ]
          refine wpAnyH_ready (rs := [6]) (by kernel_rfl) (by simp) ?_
          refine AllReadyH.cons rfl (fun K hK => ?_) AllReadyH.nil
          try dsimp only at hHeld
          go_split_ands
          go_simp
          refine (implSpoolMany_any s bo d _ (HM.out.below S43.out.below (Nat.le_refl _)) (spoolK_read HF.out (S43.out.nth 6 rfl)) HZ.out).mono ?_
          rintro e x3 ⟨rfl, hb⟩
          rw [HMM.out]
          have S44 : Seal (Pt w x3 [[Res.cells (w3.heap.size) [.int .i64 D.last, .slice t.a D.items.length t.c]], spoolKR D t, [Res.cells (w2.heap.size) [.int .i64 D.last, .slice ra D.items.length rd]], spoolKR D ⟨ra, rd, rps⟩, [Res.cells (w1.heap.size + 1) [.string u, .string v]], [Res.cells (w1.heap.size) [.int .i64 s.last, .slice bo s.items.length d]], spoolKR s ⟨bo, d, ps⟩]) := ⟨S43.out.later hb⟩
          clear hb
          refine hK.out _ _ ⟨(S44.out.cellsM 2 rfl).c 0 _ rfl, (S44.out.cellsM 2 rfl).c 1 _ rfl, (S44.out.cellsM 5 rfl).c 0 _ rfl, (S44.out.cellsM 5 rfl).c 1 _ rfl⟩ (fun hHeld => ?_)
          clear hK K
          try simp only [Act.put, List.getElem_toArray, List.getElem_cons_succ, List.getElem_cons_zero, List.setIfInBounds_toArray, List.set_cons_zero, List.set_cons_succ]
          refine tkH 7 (by assumption) (h := ?_)
          refine tkH 8 (by assumption) (h := ?_)
          refine tkH 9 (by assumption) (h := ?_)
          refine tkH 10 (by assumption) (h := ?_)
          refine tkH 11 (by assumption) (h := ?_)
          refine tkH 12 (by assumption) (h := ?_)
          refine wpAnyH_ready (rs := [13]) (by kernel_rfl) (by simp) ?_
          refine AllReadyH.cons rfl (fun K hK => ?_) AllReadyH.nil
          go_simp
          refine hK.out _ _ (by assumption) (fun hHeld => ?_)
          clear hK K
          try simp only [Act.put, List.getElem_toArray, List.getElem_cons_succ, List.getElem_cons_zero, List.setIfInBounds_toArray, List.set_cons_zero, List.set_cons_succ]
          refine wpAnyH_done (by kernel_rfl) ?_ _
          go_wp2
          go_ret
          exact ⟨rfl, S44.out.below⟩
end Go.Proofs.YtcaknjdolfheaaaDoor
