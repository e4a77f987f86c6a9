/- Contracts: where a mail and one whom it is for lie in a spool, and one tried later, by the program. -/
import Derived.Test.YtfffocfcnigogaaGreatDoorSpoolLaterS
namespace Go.Proofs.YtfffocfcnigogaaGreatDoor
open Go Go.RowKit

/-! ### plain facts -/
def hitAt {α : Type} (f : α → Bool) (xs : List α) (k : Nat) : Bool := match xs[k]? with
  | some x => f x
  | none => false
theorem hitAt_of {α : Type} {f : α → Bool} {xs : List α} {k : Nat} {x : α} (h : xs[k]? = some x) : hitAt f xs k = f x := by unfold hitAt; rw [h]
theorem findR_hitAt {α : Type} {f : α → Bool} {xs : List α} {k : Nat} (hk : k < xs.length) (hq : hitAt f xs k = true) (hn : ∀ j, j < k → hitAt f xs j = false) : findR f xs = k := by
  obtain ⟨x, hx⟩ : ∃ x, xs[k]? = some x := ⟨_, List.getElem?_eq_getElem hk⟩
  rw [hitAt_of hx] at hq
  exact findR_hit hx hq fun j y hj hy => by have := hn j hj; rwa [hitAt_of hy] at this
theorem findR_noAt {α : Type} {f : α → Bool} {xs : List α} (hn : ∀ j, j < xs.length → hitAt f xs j = false) : findR f xs = -1 :=
  findR_none fun j y hj hy => by have := hn j hj; rwa [hitAt_of hy] at this
def findK (s : SpoolD) (i : Int) (u d : ByteArray) : Int × Int × Bool :=
  if findR (idB i) s.items < 0 then (0, 0, false) else match s.items[(findR (idB i) s.items).toNat]? with
  | none => (0, 0, false)
  | some x => if findR (toB1 u d) x.rc < 0 then (0, 0, false) else (findR (idB i) s.items, findR (toB1 u d) x.rc, true)
theorem findK_noid {s : SpoolD} {i : Int} {u d : ByteArray} (h : findR (idB i) s.items = -1) : findK s i u d = (0, 0, false) := by unfold findK; rw [h]; rfl
theorem findK_norc {s : SpoolD} {i : Int} {u d : ByteArray} {a : Nat} {x : ItemD} (h : findR (idB i) s.items = a) (hx : s.items[a]? = some x) (h2 : findR (toB1 u d) x.rc = -1) : findK s i u d = (0, 0, false) := by
  unfold findK
  rw [h, if_neg (by omega), Int.toNat_natCast, hx]
  dsimp only
  rw [h2]
  rfl
theorem findK_at {s : SpoolD} {i : Int} {u d : ByteArray} {a k : Nat} {x : ItemD} (h : findR (idB i) s.items = a) (hx : s.items[a]? = some x) (h2 : findR (toB1 u d) x.rc = k) : findK s i u d = ((a : Int), (k : Int), true) := by
  unfold findK
  rw [h, if_neg (by omega), Int.toNat_natCast, hx]
  dsimp only
  rw [h2, if_neg (by omega)]
theorem try_late {r : RcptD} {now : Int} (h0 : 0 ≤ r.tries) (h1 : r.tries ≤ 3) (n0 : 0 ≤ now) : tryB (lateR r now) = mayLate r now := by
  have hp := pause_in (n := r.tries + 1) (by omega) (by omega)
  unfold tryB mayLate lateR nextR
  dsimp only
  rw [Bool.eq_iff_iff]
  simp only [Bool.and_eq_true, decide_eq_true_eq]
  omega
theorem all_same {xs : List ItemD} {ps : List ItemV} {k : Nat} {x : ItemD} {p : ItemV} (hl : ps.length = xs.length) (hx : xs[k]? = some x) (hp : ps[k]? = some p) (y : ItemD) (e : itemL y p = itemL x p) : itemE.all (xs.set k y) ps = itemE.all xs ps := by
  have hk := (List.getElem?_eq_some_iff.1 hx).1
  have ht : (ps.take k).length = (xs.take k).length := by simp; omega
  have h1 := itemE.all_split (B := xs.drop (k + 1)) (PB := ps.drop (k + 1)) ht x p
  have h2 := itemE.all_split (B := xs.drop (k + 1)) (PB := ps.drop (k + 1)) ht y p
  rw [← take_drop_at hx, ← take_drop_at hp] at h1
  rw [← take_drop_at hp] at h2
  rw [List.set_eq_take_append_cons_drop, if_pos hk, h2, h1]
  show _ ++ (itemL y p ++ _) = _ ++ (itemL x p ++ _)
  rw [e]
theorem set_self' {α : Type} {ps : List α} {k : Nat} {p : α} (hp : ps[k]? = some p) : ps.set k p = ps := by
  obtain ⟨h, e⟩ := List.getElem?_eq_some_iff.1 hp
  rw [← e]
  exact List.set_getElem_self h

/-! ### the finders -/
theorem placeOne_any (a : Addr) (i : Int) (x : ItemD) (p : ItemV) (w : World) (hc : w.cell? a = some (.int .i64 i)) :
    Calls Tryz.prog 190 #[.agg (itemV x p), .pointer (some a)] w fun e w' => e = .returned (.bool (idB i x)) ∧ Below w.heap.size w w' := by
  have b0 : Seal (Below w.heap.size w (w.alloc (.cells (itemV x p) 43))) := ⟨(Below.refl _ _).alloc (Nat.le_refl _) _⟩
  have c1 := heldc hc b0.out
  clear hc
  go_enter Tryz.func190, Tryz.ntmps190
  go_wp2
  go_ret
  exact ⟨rfl, b0.out⟩
theorem findOne_any (b : Nat) (u d : ByteArray) (x : RcptD) (w : World) (hc : w.cell? ⟨b, 0, none⟩ = some (.string u)) (hc2 : w.cell? ⟨b, 1, none⟩ = some (.string d)) :
    Calls Tryz.prog 160 #[.agg (rcptV x), .pointer (some ⟨b, 0, none⟩)] w fun e w' => e = .returned (.bool (toB1 u d x)) ∧ Below w.heap.size w w' := by
  have b0 : Seal (Below w.heap.size w (w.alloc (.cells (rcptV x) 105))) := ⟨(Below.refl _ _).alloc (Nat.le_refl _) _⟩
  have c1 := heldc hc b0.out
  have c2 := heldc hc2 b0.out
  clear hc hc2
  go_enter Tryz.func160, Tryz.ntmps160
  go_wp2
  all_goals (go_ret; exact ⟨ret_b (by unfold toB1; simp [*]), b0.out⟩)

set_option maxHeartbeats 1600000 in
set_option maxRecDepth 100000 in
theorem place_any (s : SpoolD) (ao : Option Addr) (cap : Nat) (i : Int) (w : World) (hat : ItemRow w ao s.items) (hl : s.items.length ≤ 1048576) :
    Calls Tryz.prog 159 #[.agg (spoolV s ao cap), .int .i64 i] w fun e w' => e = .returned (.int .i64 (findR (idB i) s.items)) ∧ Below w.heap.size w w' := by
  have s0 := ((St.start w).alloc (spoolV s ao cap) 25).alloc #[.int .i64 i] 3
  simp only [World.size_alloc] at s0
  have S0 : Seal _ := ⟨s0⟩
  have CF : Seal (∀ W, St w W [Res.cells (w.heap.size + 1) [.int .i64 i], Res.cells w.heap.size [.int .i64 s.last, .slice ao s.items.length cap]] → Calls Tryz.prog 126 #[.slice ao s.items.length cap, .func (.func 190) #[] #[.pointer (some ⟨w.heap.size + 1, 0, none⟩)]] W (FindPost s.items.length (hitAt (idB i) s.items) (fun _ W => St w W [Res.cells (w.heap.size + 1) [.int .i64 i], Res.cells w.heap.size [.int .i64 s.last, .slice ao s.items.length cap]]) (fun _ W => St w W [Res.cells (w.heap.size + 1) [.int .i64 i], Res.cells w.heap.size [.int .i64 s.last, .slice ao s.items.length cap]]))) := ⟨fun W hW =>
    findItem_any 190 ⟨w.heap.size + 1, 0, none⟩ ao cap s.items (hitAt (idB i) s.items) _ _ W (enters_of Tryz.func190 (by kernel_rfl) rfl) hl hW (fun k W W' h hb => h.later hb) w hat (fun k W h => h.below)
      (fun k y p W hy _ h => by
        refine (placeOne_any ⟨w.heap.size + 1, 0, none⟩ i y p W (h.head.c 0 _ rfl)).mono ?_
        rintro e w1 ⟨rfl, hb1⟩
        rw [hitAt_of hy]
        exact ⟨rfl, fun _ => h.later hb1, fun _ => h.later hb1⟩)⟩
  clear hat s0
  go_enter Tryz.func159, Tryz.ntmps159
  go_wp2_with fail
  refine (items_any s ao cap _).mono ?_
  rintro e w1 ⟨rfl, hb1⟩
  have S1 : Seal _ := ⟨S0.out.later hb1⟩
  clear hb1 S0
  go_wp2_with fail
  refine (CF.out _ S1.out).mono ?_
  rintro e w2 ⟨r, rfl, h⟩
  rcases h with ⟨k, hk, rfl, hq, hn, hs⟩ | ⟨rfl, hn, hs⟩
  · have hm : Seal (findR (idB i) s.items = k) := ⟨findR_hitAt hk hq hn⟩
    have B1 : Seal _ := ⟨hs.below⟩
    clear hs hq hn CF S1
    go_wp2
    go_ret
    exact ⟨ret_k hm.out.symm, B1.out⟩
  · have hm : Seal (findR (idB i) s.items = -1) := ⟨findR_noAt hn⟩
    have B1 : Seal _ := ⟨hs.below⟩
    clear hs hn CF S1
    go_wp2
    go_ret
    exact ⟨ret_k hm.out.symm, B1.out⟩

theorem ret_findK {a b : Int × Int × Bool} (h : a = b) : Ending.returned (.tuple #[.int .i64 a.1, .int .i64 a.2.1, .bool a.2.2]) = .returned (.tuple #[.int .i64 b.1, .int .i64 b.2.1, .bool b.2.2]) := by rw [h]

set_option maxHeartbeats 1600000 in
set_option maxRecDepth 100000 in
theorem implFind_any (s : SpoolD) (ao : Option Addr) (cap : Nat) (i : Int) (u d : ByteArray) (w : World) (hat : ItemRow w ao s.items) (hz : spoolN s ≤ 1048576) :
    Calls Tryz.prog 104 #[.agg (spoolV s ao cap), .int .i64 i, .agg #[.string u, .string d]] w fun e w' => e = .returned (.tuple #[.int .i64 (findK s i u d).1, .int .i64 (findK s i u d).2.1, .bool (findK s i u d).2.2]) ∧ Below w.heap.size w w' := by
  obtain ⟨z1, z2⟩ := spoolN_parts hz
  have HA : Seal _ := ⟨hat⟩
  have HZ : Seal _ := ⟨z2⟩
  have s0 := ((St.start w).alloc (spoolV s ao cap) 25).alloc #[.string u, .string d] 27
  simp only [World.size_alloc] at s0
  have S0 : Seal _ := ⟨s0⟩
  have C1 : Seal _ := ⟨place_any s ao cap i _ (hat.below itemP_stays s0.below (Nat.le_refl _)) z1⟩
  clear hat hz z2 s0
  rcases findR_cases (idB i) s.items with hno | ⟨a, x, hat, hx, _⟩
  · have hm : Seal (findK s i u d = (0, 0, false)) := ⟨findK_noid hno⟩
    rw [hno] at C1
    clear hno
    go_enter Tryz.func104, Tryz.ntmps104
    go_wp2_with fail
    refine C1.out.mono ?_
    rintro e w1 ⟨rfl, hb1⟩
    have S1 : Seal _ := ⟨S0.out.later hb1⟩
    clear hb1 S0 C1
    go_wp2
    refine bodyPost_ret (v := .tuple #[.int .i64 0, .int .i64 0, .bool false]) (by simp [results, Tryz.results104, go_sem]) rfl ⟨by rw [hm.out], S1.out.below⟩
  have HX : Seal _ := ⟨hx⟩
  obtain ⟨b, off, p, rfl, c0, c1, c2, c3, c4, ia⟩ := itemAt HA.out hx
  have IA : Seal _ := ⟨ia⟩
  have HAT : Seal _ := ⟨hat⟩
  rw [hat] at C1
  have ha0 : (0 : Int) ≤ (a : Int) := by omega
  have hxl := (List.getElem?_eq_some_iff.1 hx).1
  have ha1 : (a : Int) < (s.items.length : Int) := by omega
  have ha2 : decide ((a : Int) < 0) = false := by rw [decide_eq_false_iff_not]; omega
  have z3 : x.rc.length ≤ 1048576 := (itemN_parts (HZ.out x (List.mem_of_getElem? hx))).2.2.1
  have CF : Seal (∀ W, St w W [Res.cells (w.heap.size + 1) [.string u, .string d], Res.cells w.heap.size [.int .i64 s.last, .slice (some ⟨b, off, none⟩) s.items.length cap]] → Calls Tryz.prog 131 #[.slice p.a1 x.rc.length p.c1, .func (.func 160) #[] #[.pointer (some ⟨w.heap.size + 1, 0, none⟩)]] W (FindPost x.rc.length (hitAt (toB1 u d) x.rc) (fun _ W => St w W [Res.cells (w.heap.size + 1) [.string u, .string d], Res.cells w.heap.size [.int .i64 s.last, .slice (some ⟨b, off, none⟩) s.items.length cap]]) (fun _ W => St w W [Res.cells (w.heap.size + 1) [.string u, .string d], Res.cells w.heap.size [.int .i64 s.last, .slice (some ⟨b, off, none⟩) s.items.length cap]]))) := ⟨fun W hW =>
    findRcpt_any 160 ⟨w.heap.size + 1, 0, none⟩ p.a1 p.c1 x.rc (hitAt (toB1 u d) x.rc) _ _ W (enters_of Tryz.func160 (by kernel_rfl) rfl) z3 hW (fun k W W' h hb => h.later hb) w IA.out.rc (fun k W h => h.below)
      (fun k y W hy h => by
        refine (findOne_any (w.heap.size + 1) u d y W (h.head.c 0 _ rfl) (h.head.c 1 _ rfl)).mono ?_
        rintro e w1 ⟨rfl, hb1⟩
        rw [hitAt_of hy]
        exact ⟨rfl, fun _ => h.later hb1, fun _ => h.later hb1⟩)⟩
  clear hat hx
  go_enter Tryz.func104, Tryz.ntmps104
  go_wp2_with fail
  refine C1.out.mono ?_
  rintro e w1 ⟨rfl, hb1⟩
  have S1 : Seal _ := ⟨S0.out.later hb1⟩
  have d0 := heldc c0 S1.out.below
  have d1 := heldc c1 S1.out.below
  have d2 := heldc c2 S1.out.below
  have d3 := heldc c3 S1.out.below
  have d4 := heldc c4 S1.out.below
  have g1 := S1.out.tail.head.c 1 _ rfl
  clear hb1 S0 C1 c0 c1 c2 c3 c4
  go_wp2_with fail
  refine (recipients_any x p _).mono ?_
  rintro e w2 ⟨rfl, hb1⟩
  have S2 : Seal _ := ⟨S1.out.later hb1⟩
  clear hb1 S1 d0 d1 d2 d3 d4 g1
  go_wp2_with fail
  refine (CF.out _ S2.out).mono ?_
  rintro e w3 ⟨r, rfl, h⟩
  rcases h with ⟨k, hk, rfl, hq, hn, hs⟩ | ⟨rfl, hn, hs⟩
  · have hm : Seal (findK s i u d = ((a : Int), (k : Int), true)) := ⟨findK_at HAT.out HX.out (findR_hitAt hk hq hn)⟩
    have B1 : Seal _ := ⟨hs.below⟩
    clear hs hq hn CF S2
    go_wp2
    refine bodyPost_ret (v := .tuple #[.int .i64 a, .int .i64 k, .bool true]) (by simp [results, Tryz.results104, go_sem]) rfl ⟨by rw [hm.out], B1.out⟩
  · have hm : Seal (findK s i u d = (0, 0, false)) := ⟨findK_norc HAT.out HX.out (findR_noAt hn)⟩
    have B1 : Seal _ := ⟨hs.below⟩
    clear hs hn CF S2
    go_wp2
    refine bodyPost_ret (v := .tuple #[.int .i64 0, .int .i64 0, .bool false]) (by simp [results, Tryz.results104, go_sem]) rfl ⟨by rw [hm.out], B1.out⟩

theorem rcptLater_any (r : RcptD) (now : Int) (w : World) (h0 : 0 ≤ r.tries) (h1 : r.tries ≤ 3) (n0 : 0 ≤ now) (n1 : now ≤ 9999) :
    Calls Tryz.prog 107 #[.agg (rcptV r), .int .i64 now] w fun e w' => e = .returned (.agg (rcptV (lateR r now))) ∧ Below w.heap.size w w' := by
  obtain ⟨P, hP⟩ : ∃ P, pauseZ (r.tries + 1) = P := ⟨_, rfl⟩
  have HP : Seal _ := ⟨hP⟩
  obtain ⟨hP1, hP2⟩ : 2 ≤ P ∧ P ≤ 16 := hP ▸ pause_in (by omega) (by omega)
  have CP : Seal (∀ W, Calls Tryz.prog 164 #[.int .i64 (r.tries + 1)] W fun e w' => e = .returned (.int .i64 P) ∧ W = w') := ⟨fun W => HP.out ▸ implSpoolPause_any (r.tries + 1) W⟩
  have hw1 : IntKind.i64.wrap (r.tries + 1) = r.tries + 1 := IntWalk.i64_in _ (by omega)
  have hw2 : IntKind.i64.wrap (now + P) = now + P := IntWalk.i64_in _ (by omega)
  have hm : Seal (lateR r now = ⟨r.u, r.d, r.tries + 1, now + P⟩) := ⟨by unfold lateR nextR; rw [HP.out]⟩
  have B : Seal (∀ c d : Array Value, Below w.heap.size w ((w.alloc (.cells c 105)).alloc (.cells d 105))) := ⟨fun c d => ((Below.refl _ _).alloc (Nat.le_refl _) _).alloc (by rw [World.size_alloc]; omega) _⟩
  clear hP
  go_enter Tryz.func107, Tryz.ntmps107
  go_wp2_with fail
  refine (CP.out _).mono ?_
  rintro e w2 ⟨rfl, rfl⟩
  go_wp2
  have s4 := ((St.start w).alloc #[.string r.u, .string r.d, .int .i64 (r.tries + 1), .int .i64 (now + P)] 105).alloc #[.string r.u, .string r.d, .int .i64 (r.tries + 1), .int .i64 (now + P)] 105
  simp only [World.size_alloc] at s4
  have r0 := s4.head.c 0 _ rfl
  have r1 := s4.head.c 1 _ rfl
  have r2 := s4.head.c 2 _ rfl
  have r3 := s4.head.c 3 _ rfl
  refine bodyPost_ret (v := .agg #[.string r.u, .string r.d, .int .i64 (r.tries + 1), .int .i64 (now + P)]) (by simp [results, Tryz.results107, go_sem, r0, r1, r2, r3]) rfl ⟨by rw [hm.out], B.out _ _⟩
theorem Pt.open {w0 W : World} {bo : Option Addr} {c : Nat} {xs : List ItemD} {qs : List ItemV} {Ls : List (List Res)} (h : Pt w0 W (itemsR bo c xs qs :: Ls)) (hl : qs.length = xs.length) {a : Nat} {x : ItemD} {q : ItemV} (hx : xs[a]? = some x) (hq : qs[a]? = some q) :
    Pt w0 W ([Res.row 43 5 (.slice bo xs.length c) xs.length (itemE.all xs qs)] :: itemE.ress (xs.take a) (qs.take a) :: [rcptsR q.a1 q.c1 x.rc] :: [strsR q.a2 q.c2 x.body] :: itemE.ress (xs.drop (a + 1)) (qs.drop (a + 1)) :: Ls) := by
  have e := (ress_set hl hx hq x q).1
  have e2 : itemsR bo c xs qs = Res.row 43 5 (.slice bo xs.length c) xs.length (itemE.all xs qs) :: (itemE.ress (xs.take a) (qs.take a) ++ ([rcptsR q.a1 q.c1 x.rc, strsR q.a2 q.c2 x.body] ++ itemE.ress (xs.drop (a + 1)) (qs.drop (a + 1)))) := by
    unfold itemsR Elem.row
    rw [e]
    rfl
  rw [e2] at h
  unfold Pt at h ⊢
  simpa only [List.flatten_cons, List.append_assoc, List.cons_append, List.nil_append] using h
end Go.Proofs.YtfffocfcnigogaaGreatDoor
