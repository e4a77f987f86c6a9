/- Contracts: the mail of an item; whether an item is valid, of the program. -/
import Derived.Test.YtgjkoegpdfcadaaDoorSpoolEvery
namespace Go.Proofs.YtgjkoegpdfcadaaDoor
open Go Go.RowKit

theorem pairs_of {w : World} {bo : Option Addr} {c : Nat} {xs : List RcptD} (h : (Res.row 37 2 (.slice bo xs.length c) xs.length (pairCells (xs.map rcptPair))).P w) : PairRow w bo (xs.map rcptPair) := by
  refine PRow.pairs (B := 0) (t := 37) (cap := c) ?_
  unfold PRow
  rw [List.length_map]
  exact h
/-- What the mail of an item is. -/
def MailOf (x : ItemD) (p : ItemV) (w : World) (e : Ending) (w' : World) : Prop :=
  ∃ bo c, x.rc.length ≤ c ∧ e = .returned (.agg #[.string x.fu, .string x.fd, .slice bo x.rc.length c, .slice p.a2 x.body.length p.c2]) ∧ St w w' [Res.row 37 2 (.slice bo x.rc.length c) x.rc.length (pairCells (x.rc.map rcptPair))]

set_option maxHeartbeats 3200000 in
set_option maxRecDepth 100000 in
theorem itemMail_any (x : ItemD) (p : ItemV) (w : World) (hat : ItemAt w x p) (hz : itemN x ≤ 1048576) :
    Calls Tryd.prog 187 #[.agg (itemV x p)] w (MailOf x p w) := by
  obtain ⟨_, _, z3, _, _, _⟩ := itemN_parts hz
  have s0 := ((St.start w).alloc (itemV x p) 64).alloc #[.string { data := #[] }, .string { data := #[] }, .slice none 0 0, .slice none 0 0] 41
  simp only [World.size_alloc] at s0
  have S0 : Seal _ := ⟨s0⟩
  have C : Seal _ := ⟨eachMail_any p.a1 p.c1 x.rc _ (hat.rc.below rcptP_stays s0.drew.below (Nat.le_refl _)) z3⟩
  have K0 := s0.two.head
  have g1 := K0.c 1 _ rfl
  have g2 := K0.c 2 _ rfl
  have g3 := K0.c 3 _ rfl
  have g4 := K0.c 4 _ rfl
  clear hat hz s0 K0
  go_enter Tryd.func187, Tryd.ntmps187
  go_wp2_with fail
  go_region_with (go_at_call 239; refine C.out.mono ?_; rintro e w1 ⟨bo, c, hc, rfl, k1⟩; have S1 : Seal _ := ⟨S0.out.drew.join k1⟩; have K1 := S1.out.three.head; have R1 := S1.out.two.head; have y1 := K1.c 1 _ rfl; have y2 := K1.c 2 _ rfl; have y3 := K1.c 3 _ rfl; have y4 := K1.c 4 _ rfl; have r0 := R1.c 0 _ rfl; have r1 := R1.c 1 _ rfl; have r2 := R1.c 2 _ rfl; have r3 := R1.c 3 _ rfl; have f0 := R1.f 0 (by simp); have f1 := R1.f 1 (by simp); have f2 := R1.f 2 (by simp); have f3 := R1.f 3 (by simp); clear K1 R1 k1)
  all_goals
    have S2 := (((S1.out.two.set 0 (.string x.fu) (by simp)).set 1 (.string x.fd) (by simp)).set 2 (.slice bo x.rc.length c) (by simp)).set 3 (.slice p.a2 x.body.length p.c2) (by simp)
    have S3 : Seal _ := ⟨S2.tail.first (l := [Res.row 37 2 (.slice bo x.rc.length c) x.rc.length (pairCells (x.rc.map rcptPair))])⟩
    clear S2
    go_wp2
    exact bodyPost_ret (v := .agg #[.string x.fu, .string x.fd, .slice bo x.rc.length c, .slice p.a2 x.body.length p.c2]) (by simp [results, Tryd.results187, go_sem, r0, r1, r2, r3]) rfl ⟨bo, c, hc, rfl, S3.out⟩

set_option maxHeartbeats 1600000 in
set_option maxRecDepth 100000 in
theorem itemValid_any (x : ItemD) (p : ItemV) (w : World) (hm : HasMax w) (hat : ItemAt w x p) (hz : itemN x ≤ 1048576) :
    Calls Tryd.prog 113 #[.agg (itemV x p)] w fun e w' => e = .returned (.bool (itemB x)) ∧ Below w.heap.size w w' := by
  obtain ⟨z1, z2, z3, z4, z5, z6⟩ := itemN_parts hz
  have S0 : Seal _ := ⟨(St.start w).alloc (itemV x p) 64⟩
  have HA : Seal _ := ⟨hat⟩
  have HM : Seal _ := ⟨hm⟩
  have HZ : Seal _ := ⟨hz⟩
  have HMZ : Seal (MailSz 1048576 (itemMail x)) := ⟨⟨z1, z2, by rw [List.length_map]; exact z3, fun q hq => by
    obtain ⟨y, hy, rfl⟩ := List.mem_map.1 hq
    exact z4 y hy, z5, z6⟩⟩
  obtain ⟨v1, h1⟩ : ∃ v, mailB (itemMail x) = v := ⟨_, rfl⟩
  obtain ⟨v2, h2⟩ : ∃ v, x.rc.all tryB = v := ⟨_, rfl⟩
  have HQ : Seal (itemB x = (v1 && v2)) := ⟨by unfold itemB; rw [h1, h2]⟩
  have H1 : Seal _ := ⟨h1⟩
  have H2 : Seal _ := ⟨h2⟩
  clear hat hm hz h1 h2 z4 z6
  go_enter Tryd.func113, Tryd.ntmps113
  go_wp2_with fail
  refine (itemMail_any x p _ (HA.out.below S0.out.below (Nat.le_refl _)) HZ.out).mono ?_
  rintro e w1 ⟨bo, c, hc, rfl, k1⟩
  have S1 : Seal _ := ⟨S0.out.join k1⟩
  have PR : Seal (PairRow w1 bo (itemMail x).rc) := ⟨pairs_of (c := c) k1.head⟩
  have eV : mailV (itemMail x) bo c p.a2 p.c2 = #[.string x.fu, .string x.fd, .slice bo x.rc.length c, .slice p.a2 x.body.length p.c2] := by
    show (#[.string x.fu, .string x.fd, .slice bo (x.rc.map rcptPair).length c, .slice p.a2 x.body.length p.c2] : Array Value) = _
    rw [List.length_map]
  have C : Seal (Calls Tryd.prog 84 #[.agg #[.string x.fu, .string x.fd, .slice bo x.rc.length c, .slice p.a2 x.body.length p.c2]] w1 fun e w' => e = .returned (.bool v1) ∧ Below w1.heap.size w1 w') := ⟨by
    have h := implMailOk_any (itemMail x) bo c p.a2 p.c2 w1 (HM.out.below S1.out.below (Nat.le_refl _)) ⟨PR.out, HA.out.body.below S1.out.below (Nat.le_refl _)⟩ HMZ.out (by rw [List.length_map]; exact hc)
    rw [eV, H1.out] at h
    exact h⟩
  clear k1 S0 eV
  go_wp2_with fail
  refine C.out.mono ?_
  rintro e w2 ⟨rfl, hb2⟩
  have S2 : Seal _ := ⟨S1.out.later hb2⟩
  have K2 := S2.out.two.head
  have g0 := K2.c 0 _ rfl
  have g1 := K2.c 1 _ rfl
  have g2 := K2.c 2 _ rfl
  have g3 := K2.c 3 _ rfl
  have g4 := K2.c 4 _ rfl
  clear hb2 S1 K2 C PR
  cases v1
  · have hm : Seal (itemB x = false) := ⟨HQ.out⟩
    go_wp2
    go_ret
    exact ⟨ret_b hm.out.symm, S2.out.below⟩
  · have hm : Seal (itemB x = v2) := ⟨by rw [HQ.out]; rfl⟩
    go_wp2_with fail
    refine (recipients_any x p _).mono ?_
    rintro e w3 ⟨rfl, hb3⟩
    have S3 : Seal _ := ⟨S2.out.later hb3⟩
    clear hb3 S2 g0 g1 g2 g3 g4
    go_wp2_with fail
    refine (everyRcpt_any p.a1 p.c1 x.rc _ (HA.out.rc.below rcptP_stays S3.out.below (Nat.le_refl _)) z3).mono ?_
    rintro e w4 ⟨rfl, hb4⟩
    rw [H2.out]
    have S4 : Seal _ := ⟨S3.out.later hb4⟩
    clear hb4 S3
    go_wp2
    go_ret
    exact ⟨ret_b hm.out.symm, S4.out.below⟩
end Go.Proofs.YtgjkoegpdfcadaaDoor
