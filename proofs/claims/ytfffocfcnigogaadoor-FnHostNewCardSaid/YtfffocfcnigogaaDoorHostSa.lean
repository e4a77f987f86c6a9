/- Contracts: settings drawn as a call's own; whether two new hosts are the same; a new host is ok. -/
import Derived.Test.YtfffocfcnigogaaDoorDrawAnyConf
import Derived.Test.YtfffocfcnigogaaDoorHostNew
import Derived.Test.YtfffocfcnigogaaDoorSpoolOks
import Derived.Test.YtfffocfcnigogaaDoorSaMail
namespace Go.Proofs.YtfffocfcnigogaaDoor
open Go Go.RowKit

theorem StX.drawn {b : Nat} {w0 w1 w : World} {l l' : List Res} (S : St w0 w1 l) (D : StX (fun i => i = b) w1 w l') (hb : w0.heap.size ≤ b) (hn : ∀ r ∈ l, ¬ r.S b) : St w0 w (l' ++ l) := by
  have G := D.grown
  have G0 := S.grown
  refine ⟨⟨G.os.trans G0.os, G.tape.trans G0.tape, G.output.trans G0.output, Nat.le_trans G0.size G.size, fun i hi _ => (G.block i (Nat.lt_of_lt_of_le hi G0.size) (by omega)).trans (G0.block i hi (fun e => e))⟩, fun r hr => ?_, List.pairwise_append.2 ⟨D.apart, S.apart, fun r hr q hq i hi hj => ?_⟩⟩
  · rcases List.mem_append.1 hr with hr | hr
    · exact ⟨(D.fits r hr).1, fun i hi => ⟨Nat.le_trans G0.size ((D.fits r hr).2 i hi).1, ((D.fits r hr).2 i hi).2⟩⟩
    · exact ⟨r.loc w1 w (S.fits r hr).1 G.size fun i hi => G.block i ((S.fits r hr).2 i hi).2 fun e => hn r hr (e ▸ hi), fun i hi => ⟨((S.fits r hr).2 i hi).1, Nat.lt_of_lt_of_le ((S.fits r hr).2 i hi).2 G.size⟩⟩
  · have h1 := ((D.fits r hr).2 i hi).1
    have h2 := ((S.fits q hq).2 i hj).2
    omega
theorem CfOwn.st {b : Nat} {w1 w : World} {c : ConfD} {g1 c1 g2 c2 : Nat} (h : CfOwn w w1.heap.size c g1 c1 g2 c2) (hg : w1.grownBy w (some b)) : StX (fun i => i = b) w1 w (confR (some ⟨g1, 0, none⟩) c1 (some ⟨g2, 0, none⟩) c2 c) := by
  have l1 := h.own.lt (k := g1) rfl
  have l2 := h.ways.lt (k := g2) rfl
  have hne : g1 ≠ g2 := by
    rintro rfl
    have a := h.own.2
    have b := h.ways.2
    rcases a with ⟨he, _⟩ | ⟨g, cap, cur, hv, _, hx, _⟩
    · cases he
    rcases b with ⟨he, _⟩ | ⟨g', cap', cur', hv', _, hx', _⟩
    · cases he
    have e1 : g1 = g := by injection hv with e; injection e with e; injection e
    have e2 : g1 = g' := by injection hv' with e; injection e with e; injection e
    rw [← e1] at hx
    rw [← e2] at hx'
    rw [hx] at hx'
    injection hx' with e
    injection e with _ e
    exact absurd e (by decide)
  refine ⟨Only.of_grown hg fun g e => (Option.some.inj e).symm, fun r hr => ?_, List.pairwise_cons.2 ⟨fun r hr i e1 e2 => ?_, List.pairwise_singleton _ _⟩⟩
  · simp only [List.mem_cons, List.not_mem_nil, or_false] at hr
    rcases hr with rfl | rfl
    · exact ⟨row_zero h.own, fun i e => by have h5 : g1 = i := Option.some.inj e; omega⟩
    · exact ⟨row_zero h.ways, fun i e => by have h5 : g2 = i := Option.some.inj e; omega⟩
  · simp only [List.mem_singleton] at hr
    subst hr
    have h1 := Option.some.inj e1
    have h2 := Option.some.inj e2
    exact hne (h1.trans h2.symm)
theorem confSz_wide {c : ConfD} {n m : Nat} (h : ConfSz n c) (hn : n ≤ m) : ConfSz m c := ⟨Nat.le_trans h.nm hn, Nat.le_trans h.owl hn, fun x hx => Nat.le_trans (h.ows x hx) hn, Nat.le_trans h.wal hn, fun p hp => ⟨Nat.le_trans (h.was p hp).1 hn, Nat.le_trans (h.was p hp).2 hn⟩⟩

set_option maxHeartbeats 1600000 in
set_option maxRecDepth 100000 in
theorem drawHostNew_any (ao : Option Addr) (len cap : Nat) (w : World) (hr : ByteRow w ao len) (hl : len ≤ cap) (hc : cap ≤ maxLen) :
    Calls Tryd.prog 22 #[.slice ao len cap] w fun e w' => ∃ c g1 c1 g2 c2, e = .returned (.agg (confV c (some ⟨g1, 0, none⟩) c1 (some ⟨g2, 0, none⟩) c2)) ∧ ConfSz 40 c ∧ St w w' (confR (some ⟨g1, 0, none⟩) c1 (some ⟨g2, 0, none⟩) c2 c) := by
  have S0 : Seal _ := ⟨(St.start w).alloc #[.string { data := #[] }, .slice none 0 0, .slice none 0 0] 53⟩
  have C : Seal _ := ⟨l20Open_any ao len cap _ (hr.below S0.out.below (Nat.le_refl _)) hl hc⟩
  clear hr hl hc
  go_enter Tryd.func22, Tryd.ntmps22
  go_wp2_with fail
  refine C.out.mono ?_
  rintro e w1 ⟨b, rfl, h1, b1⟩
  have S1 : Seal _ := ⟨S0.out.later b1⟩
  have hbl := h1.lt
  have H1 : Seal _ := ⟨h1⟩
  clear h1 b1 S0 C
  go_wp2_with fail
  refine (l20AnyConf_any _ b 0 w1 H1.out (by omega)).mono ?_
  rintro e w2 ⟨c, g1, c1, g2, c2, rfl, o2, hsz, h2, gg⟩
  have S2 : Seal (St w w2 [Res.cells w.heap.size [.string { data := #[] }, .slice none 0 0, .slice none 0 0], Res.row 9 1 (.slice (some ⟨g1, 0, none⟩) c.own.length c1) c.own.length (c.own.map Value.string), Res.row 114 2 (.slice (some ⟨g2, 0, none⟩) c.ways.length c2) c.ways.length (pairCells c.ways)]) := ⟨StX.three (S1.out.drawn (o2.st gg) (by simp at hbl; omega) (fun r hr e => by
    rw [List.mem_singleton] at hr
    subst hr
    have e' : b = w.heap.size := e
    simp at hbl
    omega))⟩
  have HZ : Seal _ := ⟨hsz⟩
  clear o2 hsz h2 gg S1 H1
  have r0 := S2.out.head.c 0 _ rfl
  have r1 := S2.out.head.c 1 _ rfl
  have r2 := S2.out.head.c 2 _ rfl
  have f0 := S2.out.head.f 0 (by simp)
  have f1 := S2.out.head.f 1 (by simp)
  have f2 := S2.out.head.f 2 (by simp)
  go_wp2
  refine bodyPost_ret (v := .agg (confV c (some ⟨g1, 0, none⟩) c1 (some ⟨g2, 0, none⟩) c2)) (by simp [results, Tryd.results22, go_sem, r0, r1, r2]) rfl ⟨c, g1, c1, g2, c2, rfl, HZ.out, ?_⟩
  exact (((S2.out.set 0 (.string c.name) (by simp)).set 1 (.slice (some ⟨g1, 0, none⟩) c.own.length c1) (by simp)).set 2 (.slice (some ⟨g2, 0, none⟩) c.ways.length c2) (by simp)).tail

/-! ### the laws' comparisons -/
set_option maxHeartbeats 1600000 in
set_option maxRecDepth 100000 in
theorem saConfEq (c : ConfD) (a1 : Option Addr) (c1 : Nat) (a2 : Option Addr) (c2 : Nat) (b1 : Option Addr) (d1 : Nat) (b2 : Option Addr) (d2 : Nat) (w : World) (ha : ConfAt w c a1 a2) (hb : ConfAt w c b1 b2) (h1 : c.own.length ≤ 1048576) (h2 : c.ways.length ≤ 1048576) :
    Calls Tryd.prog 28 #[.agg (confV c a1 c1 a2 c2), .agg (confV c b1 d1 b2 d2)] w fun e w' => e = .returned (.bool true) ∧ Below w.heap.size w w' := by
  have s0 := ((St.start w).alloc (confV c a1 c1 a2 c2) 53).alloc (confV c b1 d1 b2 d2) 53
  simp only [World.size_alloc] at s0
  have S0 : Seal _ := ⟨s0⟩
  have HA : Seal _ := ⟨ha⟩
  have HB : Seal _ := ⟨hb⟩
  clear ha hb s0
  go_enter Tryd.func28, Tryd.ntmps28
  go_wp2_with fail
  refine (saTextsEq a1 b1 c1 d1 c.own _ (HA.out.own.below S0.out.below (Nat.le_refl _)) (HB.out.own.below S0.out.below (Nat.le_refl _)) h1).mono ?_
  rintro e w1 ⟨rfl, hb1⟩
  have S1 : Seal _ := ⟨S0.out.later hb1⟩
  have x2 := S1.out.tail.head.c 2 _ rfl
  have y2 := S1.out.head.c 2 _ rfl
  have PA : Seal _ := ⟨HA.out.ways.below S1.out.below (Nat.le_refl _)⟩
  have PB : Seal _ := ⟨HB.out.ways.below S1.out.below (Nat.le_refl _)⟩
  clear hb1 S0 HA HB
  go_wp2
  go_loopw [5] (fun i wr => ∃ k n : Nat, k ≤ c.ways.length ∧ i = .int .i64 k ∧ wr = w1.drewN n) (fun i _ => c.ways.length - (intOf i).toNat)
  case atStart => exact ⟨0, 0, Nat.zero_le _, rfl, rfl⟩
  case round =>
    obtain ⟨k, n, hk, rfl, rfl⟩ := hrel
    by_cases hlt : k < c.ways.length
    · obtain ⟨p, hp⟩ : ∃ p, c.ways[k]? = some p := ⟨_, List.getElem?_eq_getElem hlt⟩
      obtain ⟨b, off, rfl, hc1, hc2⟩ := PA.out k p hp
      obtain ⟨b', off', rfl, hc1', hc2'⟩ := PB.out k p hp
      clear hp
      go_wp2
      go_quiet (fail)
      go_wp2
      exact ⟨⟨k + 1, n + nq, by omega, by go_num, rfl⟩, by simp [intOf]; omega⟩
    · go_wp2
      go_ret
      exact ⟨rfl, S1.out.below.trans ((below_drewN _ w1 n).mono S1.out.size)⟩

theorem saSpool_none (w : World) :
    Calls Tryd.prog 11 #[.agg #[.int .i64 0, .slice none 0 0], .agg #[.int .i64 0, .slice none 0 0]] w fun e w' => e = .returned (.bool true) ∧ Below w.heap.size w w' := by
  have S0 : Seal _ := ⟨((St.start w).alloc #[.int .i64 0, .slice none 0 0] 25).alloc #[.int .i64 0, .slice none 0 0] 25⟩
  go_enter Tryd.func11, Tryd.ntmps11
  go_wp2
  go_loop [5] (fun i => i = .int .i64 0) (fun _ => 0)
  case atStart => exact rfl
  case round =>
    subst hrel
    go_wp2
    go_ret
    exact ⟨rfl, S0.out.below⟩
theorem saLosses_none (w : World) :
    Calls Tryd.prog 59 #[.slice none 0 0, .slice none 0 0] w fun e w' => e = .returned (.bool true) ∧ w' = w := by
  go_enter Tryd.func59, Tryd.ntmps59
  go_wp2
  go_loop [5] (fun i => i = .int .i64 0) (fun _ => 0)
  case atStart => exact rfl
  case round =>
    subst hrel
    go_wp2
    go_ret
    exact ⟨rfl, rfl⟩

set_option maxHeartbeats 1600000 in
set_option maxRecDepth 100000 in
theorem saHostEq (c : ConfD) (a1 : Option Addr) (c1 : Nat) (a2 : Option Addr) (c2 : Nat) (b1 : Option Addr) (d1 : Nat) (b2 : Option Addr) (d2 : Nat) (w : World) (ha : ConfAt w c a1 a2) (hb : ConfAt w c b1 b2) (h1 : c.own.length ≤ 1048576) (h2 : c.ways.length ≤ 1048576) :
    Calls Tryd.prog 24 #[.agg (newHostV c a1 c1 a2 c2), .agg (newHostV c b1 d1 b2 d2)] w fun e w' => e = .returned (.bool true) ∧ Below w.heap.size w w' := by
  have s0 := ((St.start w).alloc (newHostV c a1 c1 a2 c2) 58).alloc (newHostV c b1 d1 b2 d2) 58
  simp only [World.size_alloc] at s0
  have S0 : Seal _ := ⟨s0⟩
  have C : Seal _ := ⟨saConfEq c a1 c1 a2 c2 b1 d1 b2 d2 _ (ha.later S0.out.below) (hb.later S0.out.below) h1 h2⟩
  clear ha hb h1 h2 s0
  go_enter Tryd.func24, Tryd.ntmps24
  go_wp2_with fail
  refine C.out.mono ?_
  rintro e w1 ⟨rfl, hb1⟩
  have S1 : Seal _ := ⟨S0.out.later hb1⟩
  have x3 := S1.out.tail.head.c 3 _ rfl
  have x4 := S1.out.tail.head.c 4 _ rfl
  have y3 := S1.out.head.c 3 _ rfl
  have y4 := S1.out.head.c 4 _ rfl
  clear hb1 S0 C
  go_wp2_with fail
  refine (saSpool_none _).mono ?_
  rintro e w2 ⟨rfl, hb2⟩
  have S2 : Seal _ := ⟨S1.out.later hb2⟩
  have x5 := S2.out.tail.head.c 5 _ rfl
  have x6 := S2.out.tail.head.c 6 _ rfl
  have y5 := S2.out.head.c 5 _ rfl
  have y6 := S2.out.head.c 6 _ rfl
  clear hb2 S1 x3 x4 y3 y4
  go_wp2_with fail
  refine (saLosses_none _).mono ?_
  rintro e w3 ⟨rfl, rfl⟩
  go_wp2
  go_loop [5] (fun i => i = .int .i64 0) (fun _ => 0)
  case atStart => exact rfl
  case round =>
    subst hrel
    go_wp2
    go_ret
    exact ⟨rfl, S2.out.below⟩

/-! ### a new host is ok -/
theorem boxesOk_none (c : ConfD) (a1 : Option Addr) (c1 : Nat) (a2 : Option Addr) (c2 : Nat) (w : World) :
    Calls Tryd.prog 65 #[.agg (newHostV c a1 c1 a2 c2)] w fun e w' => e = .returned (.bool true) ∧ Below w.heap.size w w' := by
  have S0 : Seal _ := ⟨(St.start w).alloc (newHostV c a1 c1 a2 c2) 58⟩
  go_enter Tryd.func65, Tryd.ntmps65
  go_wp2
  go_loop [8] (fun i => i = .int .i64 0) (fun _ => 0)
  case atStart => exact rfl
  case round =>
    subst hrel
    go_wp2
    go_ret
    exact ⟨rfl, S0.out.below⟩
theorem rowNone (w : World) : ItemRow w none [] := fun k x h => by simp at h

set_option maxHeartbeats 1600000 in
set_option maxRecDepth 100000 in
theorem hostOk_new (c : ConfD) (a1 : Option Addr) (c1 : Nat) (a2 : Option Addr) (c2 : Nat) (w : World) (hm : HasMax w) (hat : ConfAt w c a1 a2) (hsz : ConfSz 1048576 c) (hok : confB c = true) :
    Calls Tryd.prog 27 #[.agg (newHostV c a1 c1 a2 c2)] w fun e w' => e = .returned (.bool true) ∧ Below w.heap.size w w' := by
  have S0 : Seal _ := ⟨(St.start w).alloc (newHostV c a1 c1 a2 c2) 58⟩
  have HM : Seal _ := ⟨hm⟩
  have C : Seal _ := ⟨implConfOk_any c a1 c1 a2 c2 _ (hm.below S0.out.below (Nat.le_refl _)) (hat.below S0.out.below (Nat.le_refl _)) hsz⟩
  rw [hok] at C
  clear hm hat hsz hok
  go_enter Tryd.func27, Tryd.ntmps27
  go_wp2_with fail
  refine C.out.mono ?_
  rintro e w1 ⟨rfl, hb1⟩
  have S1 : Seal _ := ⟨S0.out.later hb1⟩
  have x3 := S1.out.head.c 3 _ rfl
  have x4 := S1.out.head.c 4 _ rfl
  clear hb1 S0 C
  go_wp2_with fail
  refine (implSpoolOk_any ⟨0, []⟩ none 0 _ (HM.out.below S1.out.below (Nat.le_refl _)) (rowNone _) (by decide)).mono ?_
  rintro e w2 ⟨rfl, hb2⟩
  have S2 : Seal _ := ⟨S1.out.later hb2⟩
  rw [show spoolB ⟨0, []⟩ = true from rfl]
  have y0 := S2.out.head.c 0 _ rfl
  have y1 := S2.out.head.c 1 _ rfl
  have y2 := S2.out.head.c 2 _ rfl
  have y3 := S2.out.head.c 3 _ rfl
  have y4 := S2.out.head.c 4 _ rfl
  have y5 := S2.out.head.c 5 _ rfl
  have y6 := S2.out.head.c 6 _ rfl
  clear hb2 S1 x3 x4
  go_wp2_with fail
  refine (boxesOk_none c a1 c1 a2 c2 _).mono ?_
  rintro e w3 ⟨rfl, hb3⟩
  have S3 : Seal _ := ⟨S2.out.later hb3⟩
  clear hb3 S2 y0 y1 y2 y3 y4 y5 y6
  go_wp2
  go_ret
  exact ⟨rfl, S3.out.below⟩
end Go.Proofs.YtfffocfcnigogaaDoor
