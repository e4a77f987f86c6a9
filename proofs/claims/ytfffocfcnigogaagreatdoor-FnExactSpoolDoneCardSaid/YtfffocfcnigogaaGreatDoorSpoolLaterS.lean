/- Contracts: one whom a mail is for is tried later, by the model. -/
import Derived.Test.YtfffocfcnigogaaGreatDoorSpoolSet
import Derived.Test.YtfffocfcnigogaaGreatDoorPause
import Derived.Deep.DeepCutAuto
namespace Go.Proofs.YtfffocfcnigogaaGreatDoor
open Go Go.RowKit

/-! ### plain facts -/
def nextR (r : RcptD) (now : Int) : Int := now + pauseZ (r.tries + 1)
def lateR (r : RcptD) (now : Int) : RcptD := ⟨r.u, r.d, r.tries + 1, nextR r now⟩
def lateI (x : ItemD) (k : Nat) (r : RcptD) (now : Int) : ItemD := ⟨x.id, x.fu, x.fd, x.rc.set k (lateR r now), x.body⟩
def lateD (s : SpoolD) (i : Nat) (y : ItemD) : SpoolD := ⟨s.last, s.items.set i y⟩
def mayLate (r : RcptD) (now : Int) : Bool := decide (r.tries + 1 < 4) && decide (nextR r now ≤ 9999)
theorem pause_in {n : Int} (h1 : 1 ≤ n) (h4 : n ≤ 4) : 2 ≤ pauseZ n ∧ pauseZ n ≤ 16 := by
  rcases (show n = 1 ∨ n = 2 ∨ n = 3 ∨ n = 4 by omega) with rfl | rfl | rfl | rfl <;> decide
theorem l5Pause_Z (n : Int) (h1 : 1 ≤ n) (h4 : n ≤ 4) (w : World) : Calls Tryz.prog 163 #[.int .i64 n] w fun e w' => e = .returned (.int .i64 (pauseZ n)) ∧ w = w' := by
  obtain ⟨N, rfl⟩ := Int.eq_ofNat_of_zero_le (by omega : 0 ≤ n)
  exact l5Pause_in N (by omega) (by omega) w

theorem perm_pull {α : Type} (A R B l : List α) : ((A ++ (R ++ B)) ++ l).Perm (R ++ ((A ++ B) ++ l)) := by
  rw [← List.append_assoc R]
  refine List.Perm.append_right l ?_
  rw [← List.append_assoc, ← List.append_assoc]
  exact List.perm_append_comm.append_right B
theorem perm_put {α : Type} (A R B l : List α) : (R ++ ((A ++ B) ++ l)).Perm ((A ++ (R ++ B)) ++ l) := (perm_pull A R B l).symm

set_option maxHeartbeats 12800000 in
set_option maxRecDepth 100000 in
theorem l5Later_no {X : Nat → Prop} (l : List Res) (s : SpoolD) (ao : Option Addr) (cap : Nat) (ps : List ItemV) (hl : ps.length = s.items.length) (i k : Nat) (x : ItemD) (r : RcptD) (hx : s.items[i]? = some x) (hr : x.rc[k]? = some r) (now : Int) (w0 w : World) (h : StX X w0 w (itemsR ao cap s.items ps ++ l)) (hz : itemN x ≤ 1048576) (h0 : 0 ≤ r.tries) (h1 : r.tries ≤ 3) (n0 : 0 ≤ now) (n1 : now ≤ 9999) (hno : mayLate r now = false) :
    Calls Tryz.prog 106 #[.agg (spoolV s ao cap), .int .i64 i, .int .i64 k, .int .i64 now] w fun e w' => e = .returned (.tuple #[.agg (spoolV s ao cap), .bool false]) ∧ StX X w0 w' (itemsR ao cap s.items ps ++ l) := by
  have HS : Seal _ := ⟨h⟩
  have HL : Seal _ := ⟨hl⟩
  have HX : Seal _ := ⟨hx⟩
  have HR : Seal _ := ⟨hr⟩
  have HZ : Seal _ := ⟨hz⟩
  obtain ⟨P, hP⟩ : ∃ P, pauseZ (r.tries + 1) = P := ⟨_, rfl⟩
  have HP : Seal _ := ⟨hP⟩
  obtain ⟨hP1, hP2⟩ : 2 ≤ P ∧ P ≤ 16 := hP ▸ pause_in (by omega) (by omega)
  have CP : Seal (∀ W, Calls Tryz.prog 163 #[.int .i64 (r.tries + 1)] W fun e w' => e = .returned (.int .i64 P) ∧ W = w') := ⟨fun W => HP.out ▸ l5Pause_Z (r.tries + 1) (by omega) (by omega) W⟩
  have hik := (List.getElem?_eq_some_iff.1 hx).1
  have hkk := (List.getElem?_eq_some_iff.1 hr).1
  obtain ⟨p, hp⟩ : ∃ p, ps[i]? = some p := ⟨_, List.getElem?_eq_getElem (by omega)⟩
  have HPI : Seal (∃ p, ps[i]? = some p) := ⟨⟨p, hp⟩⟩
  have CC : Seal (∀ W, Below w.heap.size w W → Calls Tryz.prog 122 #[.agg (itemV x p)] W fun e w' => ∃ q, e = .returned (.agg (itemV x q)) ∧ St W w' (itemE.res x q)) := ⟨fun W hW => l5CopyItem_any _ x p w0 W (HS.out.later hW) (fun r hr => List.mem_append_left _ (List.mem_cons_of_mem _ (itemE.mem_ress hx hp hr))) HZ.out⟩
  have S0 : Seal (Pt w ((w.alloc (.cells (spoolV s ao cap) 25)).alloc (.cells #[.int .i64 0, .slice none 0 0] 25)) [[Res.cells (w.heap.size + 1) [.int .i64 0, .slice none 0 0]], [Res.cells w.heap.size [.int .i64 s.last, .slice ao s.items.length cap]]]) := ⟨by
    have h := ((Pt.start w).alloc (spoolV s ao cap) 25).alloc #[.int .i64 0, .slice none 0 0] 25
    simp only [World.size_alloc] at h
    exact h⟩
  obtain ⟨g, rfl, c0, c1, c2, c3, c4⟩ := itemCells (StX.later HS.out S0.out.below) hx hp
  have hi0 : (0 : Int) ≤ (i : Int) := by omega
  have hi1 : (i : Int) < (s.items.length : Int) := by omega
  have hk0 : (0 : Int) ≤ (k : Int) := by omega
  have hk1 : (k : Int) < (x.rc.length : Int) := by omega
  have hw1 : IntKind.i64.wrap (r.tries + 1) = r.tries + 1 := IntWalk.i64_in _ (by omega)
  have hw2 : IntKind.i64.wrap (now + P) = now + P := IntWalk.i64_in _ (by omega)
  have u1 := (S0.out.cellsM 1 rfl).c 1 _ rfl
  clear h hl hx hr hz hp hP
  go_enter Tryz.func106, Tryz.ntmps106
  go_wp2_with fail
  refine (CC.out _ S0.out.below).mono ?_
  rintro e w1 ⟨⟨qa, qc, qb, qd⟩, rfl, hk⟩
  obtain ⟨g2, rfl⟩ : ∃ g2, qa = some ⟨g2, 0, none⟩ := by
    rcases slice_or (hk.get List.mem_cons_self : (rcptsR qa qc x.rc).P w1) with h | h
    · omega
    · exact h
  obtain ⟨L, hL⟩ : ∃ L, w1.heap.size = L := ⟨_, rfl⟩
  have S1 : Seal (Pt w (w1.alloc (.cells #[.int .i64 x.id, .string x.fu, .string x.fd, .slice (some ⟨g2, 0, none⟩) x.rc.length qc, .slice qb x.body.length qd] 43)) [[Res.cells L [.int .i64 x.id, .string x.fu, .string x.fd, .slice (some ⟨g2, 0, none⟩) x.rc.length qc, .slice qb x.body.length qd]], [rcptsR (some ⟨g2, 0, none⟩) qc x.rc, strsR qb qd x.body], [Res.cells (w.heap.size + 1) [.int .i64 0, .slice none 0 0]], [Res.cells w.heap.size [.int .i64 s.last, .slice (some ⟨g, 0, none⟩) s.items.length cap]]]) := ⟨hL ▸ Pt.alloc (Pt.join S0.out hk) #[.int .i64 x.id, .string x.fu, .string x.fd, .slice (some ⟨g2, 0, none⟩) x.rc.length qc, .slice qb x.body.length qd] 43⟩
  have t2 := (rcpt_at (S1.out.nth 1 rfl _ List.mem_cons_self) HR.out 2 (by decide) rfl).1
  have x3 := (S1.out.cellsM 0 rfl).c 3 _ rfl
  clear hk S0 CC c0 c1 c2 c3 c4 u1
  go_wp2_with fail
  refine (CP.out _).mono ?_
  rintro e w2 ⟨rfl, rfl⟩
  clear CP t2 x3 hL
  have hbad : ¬ (r.tries + 1 < 4) ∨ 9999 < now + P := by
    unfold mayLate nextR at hno
    rw [HP.out, Bool.and_eq_false_iff, decide_eq_false_iff_not, decide_eq_false_iff_not] at hno
    omega
  clear hno
  have r0 := (S1.out.cellsM 2 rfl).c 0 _ rfl
  have r1 := (S1.out.cellsM 2 rfl).c 1 _ rfl
  have u0 := (S1.out.cellsM 3 rfl).c 0 _ rfl
  have u1 := (S1.out.cellsM 3 rfl).c 1 _ rfl
  have f0 := (S1.out.cellsM 2 rfl).f 0 (by simp)
  have f1 := (S1.out.cellsM 2 rfl).f 1 (by simp)
  rcases hbad with hb4 | hb4
  · go_wp2
    refine bodyPost_ret (v := .tuple #[.agg #[.int .i64 s.last, .slice (some ⟨g, 0, none⟩) s.items.length cap], .bool false]) (by simp [results, Tryz.results106, go_sem, r0, r1]) rfl ⟨rfl, ?_⟩
    exact StX.later HS.out (((S1.out.bring 2 rfl).set 0 (.int .i64 s.last) (by simp)).set 1 (.slice (some ⟨g, 0, none⟩) s.items.length cap) (by simp)).below
  · by_cases h4 : r.tries + 1 < 4
    · go_wp2
      refine bodyPost_ret (v := .tuple #[.agg #[.int .i64 s.last, .slice (some ⟨g, 0, none⟩) s.items.length cap], .bool false]) (by simp [results, Tryz.results106, go_sem, r0, r1]) rfl ⟨rfl, ?_⟩
      exact StX.later HS.out (((S1.out.bring 2 rfl).set 0 (.int .i64 s.last) (by simp)).set 1 (.slice (some ⟨g, 0, none⟩) s.items.length cap) (by simp)).below
    · go_wp2
      refine bodyPost_ret (v := .tuple #[.agg #[.int .i64 s.last, .slice (some ⟨g, 0, none⟩) s.items.length cap], .bool false]) (by simp [results, Tryz.results106, go_sem, r0, r1]) rfl ⟨rfl, ?_⟩
      exact StX.later HS.out (((S1.out.bring 2 rfl).set 0 (.int .i64 s.last) (by simp)).set 1 (.slice (some ⟨g, 0, none⟩) s.items.length cap) (by simp)).below

set_option maxHeartbeats 12800000 in
set_option maxRecDepth 100000 in
theorem l5Later_yes {X : Nat → Prop} (l : List Res) (s : SpoolD) (ao : Option Addr) (cap : Nat) (ps : List ItemV) (hl : ps.length = s.items.length) (hn : s.items.length ≤ 1048576) (i k : Nat) (x : ItemD) (r : RcptD) (hx : s.items[i]? = some x) (hr : x.rc[k]? = some r) (now : Int) (w0 w : World) (h : StX X w0 w (itemsR ao cap s.items ps ++ l)) (hz : itemN x ≤ 1048576) (h0 : 0 ≤ r.tries) (h1 : r.tries ≤ 3) (n0 : 0 ≤ now) (n1 : now ≤ 9999) (hyes : mayLate r now = true) :
    Calls Tryz.prog 106 #[.agg (spoolV s ao cap), .int .i64 i, .int .i64 k, .int .i64 now] w fun e w' => ∃ bo c q, e = .returned (.tuple #[.agg #[.int .i64 s.last, .slice bo s.items.length c], .bool true]) ∧ StX X w0 w' (itemsR bo c (s.items.set i (lateI x k r now)) (ps.set i q) ++ l) := by
  obtain ⟨i0, hi, hz0, hz1, hz2⟩ := info_parts infoItem
  have HS : Seal _ := ⟨h⟩
  have HL : Seal _ := ⟨hl⟩
  have HX : Seal _ := ⟨hx⟩
  have HR : Seal _ := ⟨hr⟩
  have HZ : Seal _ := ⟨hz⟩
  obtain ⟨P, hP⟩ : ∃ P, pauseZ (r.tries + 1) = P := ⟨_, rfl⟩
  have HP : Seal _ := ⟨hP⟩
  obtain ⟨hP1, hP2⟩ : 2 ≤ P ∧ P ≤ 16 := hP ▸ pause_in (by omega) (by omega)
  have CP : Seal (∀ W, Calls Tryz.prog 163 #[.int .i64 (r.tries + 1)] W fun e w' => e = .returned (.int .i64 P) ∧ W = w') := ⟨fun W => HP.out ▸ l5Pause_Z (r.tries + 1) (by omega) (by omega) W⟩
  have hik := (List.getElem?_eq_some_iff.1 hx).1
  have hkk := (List.getElem?_eq_some_iff.1 hr).1
  obtain ⟨p, hp⟩ : ∃ p, ps[i]? = some p := ⟨_, List.getElem?_eq_getElem (by omega)⟩
  have HPI : Seal (∃ p, ps[i]? = some p) := ⟨⟨p, hp⟩⟩
  have CC : Seal (∀ W, Below w.heap.size w W → Calls Tryz.prog 122 #[.agg (itemV x p)] W fun e w' => ∃ q, e = .returned (.agg (itemV x q)) ∧ St W w' (itemE.res x q)) := ⟨fun W hW => l5CopyItem_any _ x p w0 W (HS.out.later hW) (fun r hr => List.mem_append_left _ (List.mem_cons_of_mem _ (itemE.mem_ress hx hp hr))) HZ.out⟩
  have S0 : Seal (Pt w ((w.alloc (.cells (spoolV s ao cap) 25)).alloc (.cells #[.int .i64 0, .slice none 0 0] 25)) [[Res.cells (w.heap.size + 1) [.int .i64 0, .slice none 0 0]], [Res.cells w.heap.size [.int .i64 s.last, .slice ao s.items.length cap]]]) := ⟨by
    have h := ((Pt.start w).alloc (spoolV s ao cap) 25).alloc #[.int .i64 0, .slice none 0 0] 25
    simp only [World.size_alloc] at h
    exact h⟩
  obtain ⟨g, rfl, c0, c1, c2, c3, c4⟩ := itemCells (StX.later HS.out S0.out.below) hx hp
  have hi0 : (0 : Int) ≤ (i : Int) := by omega
  have hi1 : (i : Int) < (s.items.length : Int) := by omega
  have hk0 : (0 : Int) ≤ (k : Int) := by omega
  have hk1 : (k : Int) < (x.rc.length : Int) := by omega
  have hw1 : IntKind.i64.wrap (r.tries + 1) = r.tries + 1 := IntWalk.i64_in _ (by omega)
  have hw2 : IntKind.i64.wrap (now + P) = now + P := IntWalk.i64_in _ (by omega)
  have u1 := (S0.out.cellsM 1 rfl).c 1 _ rfl
  clear h hl hx hr hz hp hP
  go_enter Tryz.func106, Tryz.ntmps106
  go_wp2_with fail
  refine (CC.out _ S0.out.below).mono ?_
  rintro e w1 ⟨⟨qa, qc, qb, qd⟩, rfl, hk⟩
  obtain ⟨g2, rfl⟩ : ∃ g2, qa = some ⟨g2, 0, none⟩ := by
    rcases slice_or (hk.get List.mem_cons_self : (rcptsR qa qc x.rc).P w1) with h | h
    · omega
    · exact h
  obtain ⟨L, hL⟩ : ∃ L, w1.heap.size = L := ⟨_, rfl⟩
  have S1 : Seal (Pt w (w1.alloc (.cells #[.int .i64 x.id, .string x.fu, .string x.fd, .slice (some ⟨g2, 0, none⟩) x.rc.length qc, .slice qb x.body.length qd] 43)) [[Res.cells L [.int .i64 x.id, .string x.fu, .string x.fd, .slice (some ⟨g2, 0, none⟩) x.rc.length qc, .slice qb x.body.length qd]], [rcptsR (some ⟨g2, 0, none⟩) qc x.rc, strsR qb qd x.body], [Res.cells (w.heap.size + 1) [.int .i64 0, .slice none 0 0]], [Res.cells w.heap.size [.int .i64 s.last, .slice (some ⟨g, 0, none⟩) s.items.length cap]]]) := ⟨hL ▸ Pt.alloc (Pt.join S0.out hk) #[.int .i64 x.id, .string x.fu, .string x.fd, .slice (some ⟨g2, 0, none⟩) x.rc.length qc, .slice qb x.body.length qd] 43⟩
  have t2 := (rcpt_at (S1.out.nth 1 rfl _ List.mem_cons_self) HR.out 2 (by decide) rfl).1
  have x3 := (S1.out.cellsM 0 rfl).c 3 _ rfl
  clear hk S0 CC c0 c1 c2 c3 c4 u1
  go_wp2_with fail
  refine (CP.out _).mono ?_
  rintro e w2 ⟨rfl, rfl⟩
  clear CP t2 x3 hL
  have hgood : r.tries + 1 < 4 ∧ now + P ≤ 9999 := by
    unfold mayLate nextR at hyes
    rw [HP.out, Bool.and_eq_true, decide_eq_true_eq, decide_eq_true_eq] at hyes
    exact hyes
  obtain ⟨hg1, hg2⟩ := hgood
  clear hyes
  go_upto_region 6 with fail
  generalize w1.alloc (.cells #[.int .i64 x.id, .string x.fu, .string x.fd, .slice (some ⟨g2, 0, none⟩) x.rc.length qc, .slice qb x.body.length qd] 43) = W1 at *
  -- the copy is changed
  have k2 := rcpt_at (S1.out.nth 1 rfl _ List.mem_cons_self) HR.out 2 (by decide) rfl
  have k3 := rcpt_at (S1.out.nth 1 rfl _ List.mem_cons_self) HR.out 3 (by decide) rfl
  obtain ⟨k2a, k2b⟩ := k2
  obtain ⟨k3a, k3b⟩ := k3
  have x3 := (S1.out.cellsM 0 rfl).c 3 _ rfl
  have x3l := (S1.out.cellsM 0 rfl).lt
  have hne : g2 ≠ L := by
    intro e
    have h5 := (S1.out.bring 1 rfl).apart
    have h6 := List.rel_of_pairwise_cons h5 (a' := Res.cells L [.int .i64 x.id, .string x.fu, .string x.fd, .slice (some ⟨g2, 0, none⟩) x.rc.length qc, .slice qb x.body.length qd]) (by simp)
    exact h6 g2 rfl e
  have S2 : Seal (Pt w ((W1.setCell ⟨g2, k * 4 + 2, none⟩ (.int .i64 (r.tries + 1))).setCell ⟨g2, k * 4 + 3, none⟩ (.int .i64 (now + P))) [[rcptsR (some ⟨g2, 0, none⟩) qc (x.rc.set k (lateR r now)), strsR qb qd x.body], [Res.cells L [.int .i64 x.id, .string x.fu, .string x.fd, .slice (some ⟨g2, 0, none⟩) x.rc.length qc, .slice qb x.body.length qd]], [Res.cells (w.heap.size + 1) [.int .i64 0, .slice none 0 0]], [Res.cells w.heap.size [.int .i64 s.last, .slice (some ⟨g, 0, none⟩) s.items.length cap]]]) := ⟨by
    have a := rcpt_set (r' := ⟨r.u, r.d, r.tries + 1, r.next⟩) (S1.out.bring 1 rfl) HR.out 2 (by decide) (.int .i64 (r.tries + 1)) rfl
    have b := rcpt_set (r := ⟨r.u, r.d, r.tries + 1, r.next⟩) (r' := lateR r now) a (by rw [List.getElem?_set_self (List.getElem?_eq_some_iff.1 HR.out).1]) 3 (by decide) (.int .i64 (now + P)) (by unfold lateR nextR; rw [HP.out]; rfl)
    rw [List.set_set] at b
    exact b⟩
  go_upto_region 8 with fail
  clear S1 k2a k2b k3a k3b x3 x3l hne
  generalize (W1.setCell ⟨g2, k * 4 + 2, none⟩ (.int .i64 (r.tries + 1))).setCell ⟨g2, k * 4 + 3, none⟩ (.int .i64 (now + P)) = W2 at *
  -- the row of items is copied
  have S3 : Seal (Pt w (W2.alloc (.cells #[] 43)) [[Res.row 43 5 (.slice (some ⟨W2.heap.size, 0, none⟩) 0 0) 0 []], [rcptsR (some ⟨g2, 0, none⟩) qc (x.rc.set k (lateR r now)), strsR qb qd x.body], [Res.cells L [.int .i64 x.id, .string x.fu, .string x.fd, .slice (some ⟨g2, 0, none⟩) x.rc.length qc, .slice qb x.body.length qd]], [Res.cells (w.heap.size + 1) [.int .i64 0, .slice none 0 0]], [Res.cells w.heap.size [.int .i64 s.last, .slice (some ⟨g, 0, none⟩) s.items.length cap]]]) := ⟨Pt.built S2.out #[] 43 5 0 (by decide) rfl⟩
  have OW : Seal _ := ⟨Pt.row1 S3.out 0 rfl⟩
  have NW : Seal _ := ⟨own_news (HS.out.later S3.out.below).head⟩
  have HAL : Seal ((itemE.all s.items ps).length = s.items.length * 5) := ⟨itemE.all_length HL.out⟩
  have u1 := (S3.out.cellsM 4 rfl).c 1 _ rfl
  have ul := (S3.out.cellsM 4 rfl).lt
  clear S2
  go_wp2_with (at_builtin; refine wpList_append_own_at _ rfl _ _ 23 rfl 0 43 i0 (.agg #[.int .i64 0, .string ByteArray.empty, .string ByteArray.empty, .slice none 0 0, .slice none 0 0]) 5 88 Tryz.underlying23 hi hz0 hz1 hz2 rfl (by decide) _ 0 [] rfl OW.out ⟨g, 0, none⟩ s.items.length cap (itemE.all s.items ps) rfl HAL.out ?c1 ?c2 ?c3 ?c4 ?c5 ?_)
  case c1 => exact NW.out
  case c2 => exact items_all_one _ _
  case c3 => unfold maxLen; omega
  case c4 => omega
  case c5 => exact Nat.zero_le _
  intro v' w5 hown hg _ hat
  have s4 := Pt.app S3.out hown hg (by first | exact hat | (rw [World.size_alloc]; exact hat))
  obtain ⟨bo, c, rfl, _⟩ := row_value (Pt.row1 s4 0 rfl)
  have hsl := slice_or (Pt.row1 s4 0 rfl)
  obtain ⟨g3, rfl⟩ : ∃ g3, bo = some ⟨g3, 0, none⟩ := by
    rcases hsl with h | h
    · omega
    · exact h
  have S4 : Seal (Pt w w5 [[itemRw g3 c s.items.length s.items ps], [rcptsR (some ⟨g2, 0, none⟩) qc (x.rc.set k (lateR r now)), strsR qb qd x.body], [Res.cells L [.int .i64 x.id, .string x.fu, .string x.fd, .slice (some ⟨g2, 0, none⟩) x.rc.length qc, .slice qb x.body.length qd]], [Res.cells (w.heap.size + 1) [.int .i64 0, .slice none 0 0]], [Res.cells w.heap.size [.int .i64 s.last, .slice (some ⟨g, 0, none⟩) s.items.length cap]]]) := ⟨s4⟩
  clear s4 hsl hown hg hat OW NW S3 u1 ul
  have u1 := (S4.out.cellsM 4 rfl).c 1 _ rfl
  have uf := (S4.out.cellsM 4 rfl).f 1 (by simp)
  have S5 : Seal (Pt w (w5.setCell ⟨w.heap.size, 1, none⟩ (.slice (some ⟨g3, 0, none⟩) s.items.length c)) [[itemRw g3 c s.items.length s.items ps], [Res.cells w.heap.size [.int .i64 s.last, .slice (some ⟨g3, 0, none⟩) s.items.length c]], [rcptsR (some ⟨g2, 0, none⟩) qc (x.rc.set k (lateR r now)), strsR qb qd x.body], [Res.cells L [.int .i64 x.id, .string x.fu, .string x.fd, .slice (some ⟨g2, 0, none⟩) x.rc.length qc, .slice qb x.body.length qd]], [Res.cells (w.heap.size + 1) [.int .i64 0, .slice none 0 0]]]) := ⟨((S4.out.bring 4 rfl).set 1 (.slice (some ⟨g3, 0, none⟩) s.items.length c) (by simp)).bring 1 rfl⟩
  go_upto_region 9 with fail
  clear S4 u1 uf
  generalize w5.setCell ⟨w.heap.size, 1, none⟩ (.slice (some ⟨g3, 0, none⟩) s.items.length c) = W6 at *
  -- the item's place is written
  obtain ⟨p0, hp0⟩ := HPI.out
  have e0 := item_at (S5.out.nth 0 rfl _ List.mem_cons_self) rfl HX.out hp0 0 (by decide) rfl
  have e1 := item_at (S5.out.nth 0 rfl _ List.mem_cons_self) rfl HX.out hp0 1 (by decide) rfl
  have e2 := item_at (S5.out.nth 0 rfl _ List.mem_cons_self) rfl HX.out hp0 2 (by decide) rfl
  have e3 := item_at (S5.out.nth 0 rfl _ List.mem_cons_self) rfl HX.out hp0 3 (by decide) rfl
  have e4 := item_at (S5.out.nth 0 rfl _ List.mem_cons_self) rfl HX.out hp0 4 (by decide) rfl
  obtain ⟨e0a, e0b⟩ := e0
  obtain ⟨e1a, e1b⟩ := e1
  obtain ⟨e2a, e2b⟩ := e2
  obtain ⟨e3a, e3b⟩ := e3
  obtain ⟨e4a, e4b⟩ := e4
  simp only [Nat.add_zero] at e0a e0b
  have S6 : Seal (Pt w (((((W6.setCell ⟨g3, i * 5, none⟩ (.int .i64 x.id)).setCell ⟨g3, i * 5 + 1, none⟩ (.string x.fu)).setCell ⟨g3, i * 5 + 2, none⟩ (.string x.fd)).setCell ⟨g3, i * 5 + 3, none⟩ (.slice (some ⟨g2, 0, none⟩) x.rc.length qc)).setCell ⟨g3, i * 5 + 4, none⟩ (.slice qb x.body.length qd)) [[itemRw g3 c s.items.length (s.items.set i (lateI x k r now)) (ps.set i ⟨some ⟨g2, 0, none⟩, qc, qb, qd⟩)], [Res.cells w.heap.size [.int .i64 s.last, .slice (some ⟨g3, 0, none⟩) s.items.length c]], [rcptsR (some ⟨g2, 0, none⟩) qc (x.rc.set k (lateR r now)), strsR qb qd x.body], [Res.cells L [.int .i64 x.id, .string x.fu, .string x.fd, .slice (some ⟨g2, 0, none⟩) x.rc.length qc, .slice qb x.body.length qd]], [Res.cells (w.heap.size + 1) [.int .i64 0, .slice none 0 0]]]) := ⟨by
    have h := item_set S5.out HX.out hp0 (lateI x k r now) ⟨some ⟨g2, 0, none⟩, qc, qb, qd⟩
    have e9 : itemL (lateI x k r now) ⟨some ⟨g2, 0, none⟩, qc, qb, qd⟩ = [.int .i64 x.id, .string x.fu, .string x.fd, .slice (some ⟨g2, 0, none⟩) x.rc.length qc, .slice qb x.body.length qd] := by
      show [Value.int .i64 x.id, .string x.fu, .string x.fd, .slice (some ⟨g2, 0, none⟩) (x.rc.set k (lateR r now)).length qc, .slice qb x.body.length qd] = _
      rw [List.length_set]
    rw [e9] at h
    exact h⟩
  have u0 := (S5.out.cellsM 1 rfl).c 0 _ rfl
  have u1 := (S5.out.cellsM 1 rfl).c 1 _ rfl
  have ul := (S5.out.cellsM 1 rfl).lt
  have x0 := (S5.out.cellsM 3 rfl).c 0 _ rfl
  have x1 := (S5.out.cellsM 3 rfl).c 1 _ rfl
  have x2 := (S5.out.cellsM 3 rfl).c 2 _ rfl
  have x3 := (S5.out.cellsM 3 rfl).c 3 _ rfl
  have x4 := (S5.out.cellsM 3 rfl).c 4 _ rfl
  have xl := (S5.out.cellsM 3 rfl).lt
  go_upto_region 10 with fail
  clear S5 u0 u1 ul x0 x1 x2 x3 x4 xl e0a e0b e1a e1b e2a e2b e3a e3b e4a e4b
  generalize ((((W6.setCell ⟨g3, i * 5, none⟩ (.int .i64 x.id)).setCell ⟨g3, i * 5 + 1, none⟩ (.string x.fu)).setCell ⟨g3, i * 5 + 2, none⟩ (.string x.fd)).setCell ⟨g3, i * 5 + 3, none⟩ (.slice (some ⟨g2, 0, none⟩) x.rc.length qc)).setCell ⟨g3, i * 5 + 4, none⟩ (.slice qb x.body.length qd) = W7 at *
  have u0 := (S6.out.cellsM 1 rfl).c 0 _ rfl
  have u1 := (S6.out.cellsM 1 rfl).c 1 _ rfl
  have ul := (S6.out.cellsM 1 rfl).lt
  have r0 := (S6.out.cellsM 4 rfl).c 0 _ rfl
  have r1 := (S6.out.cellsM 4 rfl).c 1 _ rfl
  have f0 := (S6.out.cellsM 4 rfl).f 0 (by simp)
  have f1 := (S6.out.cellsM 4 rfl).f 1 (by simp)
  go_wp2
  refine bodyPost_ret (v := .tuple #[.agg #[.int .i64 s.last, .slice (some ⟨g3, 0, none⟩) s.items.length c], .bool true]) (by simp [results, Tryz.results106, go_sem, r0, r1]) rfl ⟨some ⟨g3, 0, none⟩, c, ⟨some ⟨g2, 0, none⟩, qc, qb, qd⟩, rfl, ?_⟩
  have s7 := ((S6.out.bring 4 rfl).set 0 (.int .i64 s.last) (by simp)).set 1 (.slice (some ⟨g3, 0, none⟩) s.items.length c) (by simp)
  have s8 := (s7.tail.bring 2 rfl).bring 1 rfl
  have k5 : St w _ [itemRw g3 c s.items.length (s.items.set i (lateI x k r now)) (ps.set i ⟨some ⟨g2, 0, none⟩, qc, qb, qd⟩), rcptsR (some ⟨g2, 0, none⟩) qc (x.rc.set k (lateR r now)), strsR qb qd x.body] := Pt.prefix (As := [[itemRw g3 c s.items.length (s.items.set i (lateI x k r now)) (ps.set i ⟨some ⟨g2, 0, none⟩, qc, qb, qd⟩)], [rcptsR (some ⟨g2, 0, none⟩) qc (x.rc.set k (lateR r now)), strsR qb qd x.body]]) (Bs := [[Res.cells w.heap.size [.int .i64 s.last, .slice (some ⟨g3, 0, none⟩) s.items.length c]], [Res.cells L [.int .i64 x.id, .string x.fu, .string x.fd, .slice (some ⟨g2, 0, none⟩) x.rc.length qc, .slice qb x.body.length qd]]]) s8
  obtain ⟨ra, rb⟩ := ress_set HL.out HX.out hp0 (lateI x k r now) ⟨some ⟨g2, 0, none⟩, qc, qb, qd⟩
  have h9 : StX X w0 w (itemE.ress s.items ps ++ l) := StX.tail HS.out
  rw [ra] at h9
  have h10 : StX X w0 w ((itemE.ress (s.items.take i) (ps.take i) ++ itemE.ress (s.items.drop (i + 1)) (ps.drop (i + 1))) ++ l) := by
    have h11 : StX X w0 w (itemE.res x p0 ++ ((itemE.ress (s.items.take i) (ps.take i) ++ itemE.ress (s.items.drop (i + 1)) (ps.drop (i + 1))) ++ l)) := h9.perm (perm_pull _ _ _ _)
    exact h11.drop
  have k6 := StX.join h10 k5
  have hlen : (s.items.set i (lateI x k r now)).length = s.items.length := List.length_set
  have er : itemsR (some ⟨g3, 0, none⟩) c (s.items.set i (lateI x k r now)) (ps.set i ⟨some ⟨g2, 0, none⟩, qc, qb, qd⟩) = itemRw g3 c s.items.length (s.items.set i (lateI x k r now)) (ps.set i ⟨some ⟨g2, 0, none⟩, qc, qb, qd⟩) :: (itemE.ress (s.items.take i) (ps.take i) ++ ([rcptsR (some ⟨g2, 0, none⟩) qc (x.rc.set k (lateR r now)), strsR qb qd x.body] ++ itemE.ress (s.items.drop (i + 1)) (ps.drop (i + 1)))) := by
    unfold itemsR Elem.row
    rw [rb, hlen]
    rfl
  rw [er]
  refine k6.perm (List.Perm.cons _ ?_)
  exact perm_put _ _ _ _
end Go.Proofs.YtfffocfcnigogaaGreatDoor
