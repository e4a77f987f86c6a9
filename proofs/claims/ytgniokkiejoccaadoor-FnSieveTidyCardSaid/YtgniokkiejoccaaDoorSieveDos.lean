/- SieveDo, SieveDoI, SieveDoS. -/
import Derived.Test.YtgniokkiejoccaaDoorSieveFors
import Derived.Test.YtgniokkiejoccaaDoorCopyMail
import Derived.Test.YtgniokkiejoccaaDoorRowMark
import Derived.Deep.RegionWith
namespace Go.Proofs.YtgniokkiejoccaaDoor
open Go Go.RowKit

/-! ### plain facts -/
def noM : MailD := ⟨{ data := #[] }, { data := #[] }, [], []⟩
def sentM (x : RuleD) (m : MailD) : MailD := ⟨m.fu, m.fd, [(x.u, x.d)], m.body⟩
def actM (x : RuleD) (m : MailD) : MailD := if x.act = 2 then noM else if x.act = 3 then sentM x m else m
theorem noM_own (w : World) (B : Nat) : MailOwn w B noM none 0 none 0 := ⟨World.ownsRow_nil _ _ _ _, World.ownsRow_nil _ _ _ _, .inl rfl, .inl rfl⟩
/-- A row of one address, as it is built. -/
theorem oneRow {X : Nat → Prop} {w0 w : World} {l : List Res} (h : StX X w0 w l) (u d : ByteArray) : StX X w0 (w.alloc (.cells #[.string u, .string d] 25)) (Res.row 25 2 (.slice (some ⟨w.heap.size, 0, none⟩) 1 1) 1 (pairCells [(u, d)]) :: l) :=
  h.row ((Below.refl _ _).alloc (Nat.le_refl _) _) ⟨rfl, .inr ⟨w.heap.size, 1, _, rfl, Nat.le_refl _, heap_alloc_new w _, Nat.le_refl _, by unfold maxLen; omega, rfl, rfl⟩⟩
theorem sent_sz {x : RuleD} {m : MailD} (h : MailSz 1048576 m) (hz : ruleN x ≤ 1048576) : MailSz 1048576 (sentM x m) := by
  obtain ⟨_, z2, z3⟩ := ruleN_parts hz
  refine ⟨h.fu, h.fd, by simp [sentM], fun p hp => ?_, h.bol, h.bos⟩
  obtain rfl : p = (x.u, x.d) := by simpa [sentM] using hp
  exact ⟨z2, z3⟩

/-- What a rule's deed answers. -/
def ActPost (x : RuleD) (m : MailD) (w : World) (e : Ending) (w' : World) : Prop := ∃ b1 d1 b2 d2, e = .returned (.agg (mailV (actM x m) b1 d1 b2 d2)) ∧ MailOwn w' w.heap.size (actM x m) b1 d1 b2 d2 ∧ Below w.heap.size w w'
abbrev noMailC : Array Value := #[.string { data := #[] }, .string { data := #[] }, .slice none 0 0, .slice none 0 0]

set_option maxHeartbeats 6400000 in
set_option maxRecDepth 100000 in
theorem act_any (x : RuleD) (B : Nat) (m : MailD) (a1 : Option Addr) (c1 : Nat) (a2 : Option Addr) (c2 : Nat) (w : World) (hz : ruleN x ≤ 1048576) (ho : MailOwn w B m a1 c1 a2 c2) (hsz : MailSz 1048576 m) :
    Calls Tryd.prog 47 #[.agg (ruleV x), .agg (mailV m a1 c1 a2 c2)] w (ActPost x m w) := by
  have s0 := (((St.start w).alloc (ruleV x) 41).alloc (mailV m a1 c1 a2 c2) 29).alloc noMailC 29
  simp only [World.size_alloc] at s0
  have S0 : Seal _ := ⟨s0⟩
  have HO : Seal _ := ⟨ho⟩
  have HS : Seal _ := ⟨hsz⟩
  have HZ : Seal _ := ⟨sent_sz hsz hz⟩
  have n1 : w.heap.size + 1 + 1 ≠ w.heap.size + 1 := by omega
  have n2 : w.heap.size + 1 ≠ w.heap.size := by omega
  have n3 : w.heap.size + 1 + 1 ≠ w.heap.size := by omega
  clear s0 ho hsz hz
  by_cases k2 : x.act = 2
  · have HQ : Seal (actM x m = noM) := ⟨by unfold actM; rw [if_pos k2]⟩
    have e2 : (x.act == 2) = true := by rw [beq_iff_eq]; exact k2
    clear k2
    have R0 := S0.out.head
    have r0 := R0.c 0 _ rfl
    have r1 := R0.c 1 _ rfl
    have r2 := R0.c 2 _ rfl
    have r3 := R0.c 3 _ rfl
    clear R0
    go_enter Tryd.func47, Tryd.ntmps47
    go_wp2
    refine bodyPost_ret (v := .agg noMailC) (by simp [results, Tryd.results47, go_sem]) rfl ⟨none, 0, none, 0, by rw [HQ.out]; rfl, by rw [HQ.out]; exact noM_own _ _, ?_⟩
    first | exact S0.out.below | (iterate 4 (refine Below.setCell ?_ (by simp <;> omega) _); exact S0.out.below)
  have e2 : (x.act == 2) = false := by rw [beq_eq_false_iff_ne]; exact k2
  by_cases k3 : x.act = 3
  · have HQ : Seal (actM x m = sentM x m) := ⟨by unfold actM; rw [if_neg k2, if_pos k3]⟩
    have e3 : (x.act == 3) = true := by rw [beq_iff_eq]; exact k3
    clear k2 k3
    have s1 := oneRow ((((St.start w).alloc (ruleV x) 41).alloc #[.string m.fu, .string m.fd, .slice (some ⟨w.heap.size + 1 + 1 + 1, 0, none⟩) 1 1, .slice a2 m.body.length c2] 29).alloc noMailC 29) x.u x.d
    simp only [World.size_alloc] at s1
    have S2 : Seal _ := ⟨s1⟩
    have hl : ∀ g, blockOf a2 = some g → g < w.heap.size := fun g e => (World.ownsRow.lt HO.out.body g (by rw [own_block]; exact e)).2
    have hne1 : blockOf (some (⟨w.heap.size + 1 + 1 + 1, 0, none⟩ : Addr)) ≠ blockOf a2 := fun e => by
      have := hl (w.heap.size + 1 + 1 + 1) e.symm
      omega
    have hown : MailOwn _ 0 (sentM x m) (some ⟨w.heap.size + 1 + 1 + 1, 0, none⟩) 1 a2 c2 := ⟨S2.out.head, row_zero (HO.out.later S2.out.below).body, .inr hne1, .inr (Ne.symm hne1)⟩
    have C : Seal _ := ⟨mailClone_any 0 (sentM x m) (some ⟨w.heap.size + 1 + 1 + 1, 0, none⟩) 1 a2 c2 _ hown HZ.out⟩
    clear s1 hown hl hne1
    go_enter Tryd.func47, Tryd.ntmps47
    go_wp2_with fail
    refine C.out.mono ?_
    rintro e w1 ⟨b1, d1, b2, d2, rfl, o1, hb1⟩
    have S3 : Seal _ := ⟨S2.out.later hb1⟩
    have R3 := S3.out.two.head
    have r0 := R3.c 0 _ rfl
    have r1 := R3.c 1 _ rfl
    have r2 := R3.c 2 _ rfl
    have r3 := R3.c 3 _ rfl
    have g0 := R3.f 0 (by simp)
    have g1 := R3.f 1 (by simp)
    have g2 := R3.f 2 (by simp)
    have g3 := R3.f 3 (by simp)
    have O1 : Seal _ := ⟨o1⟩
    have hsize := S2.out.size
    clear R3 hb1 o1 C S2
    go_wp2
    refine bodyPost_ret (v := .agg (mailV (sentM x m) b1 d1 b2 d2)) (by simp [results, Tryd.results47, go_sem, r0, r1, r2, r3]) rfl ⟨b1, d1, b2, d2, by rw [HQ.out], ?_, ?_⟩
    · rw [HQ.out]
      refine (?_ : MailOwn _ (w.heap.size + 1 + 1 + 1) (sentM x m) b1 d1 b2 d2).base (by omega)
      iterate 4 (refine MailOwn.low ?_ (by omega) _ _)
      exact O1.out.base (by simp)
    · iterate 4 (refine Below.setCell ?_ (by simp <;> omega) _)
      exact S3.out.below
  · have HQ : Seal (actM x m = m) := ⟨by unfold actM; rw [if_neg k2, if_neg k3]⟩
    have e3 : (x.act == 3) = false := by rw [beq_eq_false_iff_ne]; exact k3
    clear k2 k3
    have C : Seal _ := ⟨mailClone_any B m a1 c1 a2 c2 _ (HO.out.later S0.out.below) HS.out⟩
    go_enter Tryd.func47, Tryd.ntmps47
    go_wp2_with fail
    refine C.out.mono ?_
    rintro e w1 ⟨b1, d1, b2, d2, rfl, o1, hb1⟩
    have S3 : Seal _ := ⟨S0.out.later hb1⟩
    have R3 := S3.out.head
    have r0 := R3.c 0 _ rfl
    have r1 := R3.c 1 _ rfl
    have r2 := R3.c 2 _ rfl
    have r3 := R3.c 3 _ rfl
    have g0 := R3.f 0 (by simp)
    have g1 := R3.f 1 (by simp)
    have g2 := R3.f 2 (by simp)
    have g3 := R3.f 3 (by simp)
    have O1 : Seal _ := ⟨o1⟩
    clear R3 hb1 o1 C S0
    go_wp2
    refine bodyPost_ret (v := .agg (mailV m b1 d1 b2 d2)) (by simp [results, Tryd.results47, go_sem, r0, r1, r2, r3]) rfl ⟨b1, d1, b2, d2, by rw [HQ.out], ?_, ?_⟩
    · rw [HQ.out]
      refine (?_ : MailOwn _ (w.heap.size + 1 + 1 + 1) m b1 d1 b2 d2).base (by omega)
      iterate 4 (refine MailOwn.low ?_ (by omega) _ _)
      exact O1.out.base (by simp)
    · iterate 4 (refine Below.setCell ?_ (by simp <;> omega) _)
      exact S3.out.below
end Go.Proofs.YtgniokkiejoccaaDoor
namespace Go.Proofs.YtgniokkiejoccaaDoor
open Go Go.RowKit

/-! ### plain facts -/
def keepR : RuleD := ⟨0, { data := #[] }, 1, { data := #[] }, { data := #[] }⟩
def pickR (xs : List RuleD) (r : Int) : RuleD := if 0 ≤ r then xs.getD r.toNat keepR else keepR
def didM (xs : List RuleD) (m : MailD) : MailD := if rulesB xs && mailB m then actM (pickR xs (whichB xs m)) m else noM
def deedB (xs : List RuleD) (m : MailD) : Int := if rulesB xs && mailB m then (pickR xs (whichB xs m)).act else -1
theorem firstR_cases {α : Type} (f : α → Bool) (xs : List α) : firstR f xs = -1 ∨ ∃ (k : Nat) (x : α), firstR f xs = k ∧ xs[k]? = some x := by
  unfold firstR
  split
  · rename_i h
    exact .inr ⟨_, _, rfl, List.getElem?_eq_getElem h⟩
  · exact .inl rfl
theorem which_cases {xs : List RuleD} {m : MailD} (h1 : rulesB xs = true) (h2 : mailB m = true) : (whichB xs m = -1 ∧ didM xs m = m ∧ deedB xs m = 1) ∨ ∃ (k : Nat) (x : RuleD), whichB xs m = k ∧ xs[k]? = some x ∧ ruleB x = true ∧ didM xs m = actM x m ∧ deedB xs m = x.act := by
  unfold didM deedB
  rw [h1, h2, Bool.true_and, if_pos rfl, if_pos rfl, whichB_yes h1 h2]
  rcases firstR_cases (asksB m.fu m.fd m.body) xs with h | ⟨k, x, h, hx⟩
  · rw [h]
    exact .inl ⟨rfl, rfl, rfl⟩
  · rw [h]
    have e : pickR xs (k : Int) = x := by
      unfold pickR
      rw [if_pos (by omega), Int.toNat_natCast, List.getD_eq_getElem?_getD, hx]; rfl
    rw [e]
    exact .inr ⟨k, x, rfl, hx, rules_each h1 hx, rfl, rfl⟩
theorem did_none {xs : List RuleD} {m : MailD} (h : (rulesB xs && mailB m) = false) : didM xs m = noM ∧ deedB xs m = -1 := by
  unfold didM deedB
  rw [h]
  exact ⟨rfl, rfl⟩
theorem act_of {x : RuleD} (h : ruleB x = true) : x.act = 1 ∨ x.act = 2 ∨ x.act = 3 := by
  unfold ruleB actB at h
  rw [Bool.and_eq_true] at h
  have h1 := h.2
  split at h1
  · rename_i e
    omega
  · rw [Bool.and_eq_true, decide_eq_true_eq] at h1
    omega

/-- What is answered: the mail, and the deed. -/
def DoPost (xs : List RuleD) (m : MailD) (w : World) (e : Ending) (w' : World) : Prop := ∃ b1 d1 b2 d2, e = .returned (.tuple #[.agg (mailV (didM xs m) b1 d1 b2 d2), .int .i64 (deedB xs m)]) ∧ MailOwn w' w.heap.size (didM xs m) b1 d1 b2 d2 ∧ Below w.heap.size w w'

set_option maxHeartbeats 12800000 in
set_option maxRecDepth 100000 in
theorem implSieveDo_any (ao : Option Addr) (cap : Nat) (xs : List RuleD) (B : Nat) (m : MailD) (a1 : Option Addr) (c1 : Nat) (a2 : Option Addr) (c2 : Nat) (w : World) (hm : HasMax w) (hx : RuleRow w ao xs) (hxl : xs.length ≤ 1048576) (hz : ∀ x ∈ xs, ruleN x ≤ 1048576) (ho : MailOwn w B m a1 c1 a2 c2) (hsz : MailSz 1048576 m) :
    Calls Tryd.prog 16 #[.slice ao xs.length cap, .agg (mailV m a1 c1 a2 c2)] w (DoPost xs m w) := by
  have s0 := ((St.start w).alloc (mailV m a1 c1 a2 c2) 29).alloc noMailC 29
  simp only [World.size_alloc] at s0
  have S0 : Seal _ := ⟨s0⟩
  have HM : Seal _ := ⟨hm⟩
  have HX : Seal _ := ⟨hx⟩
  have HZ : Seal _ := ⟨hz⟩
  have HO : Seal _ := ⟨ho⟩
  have HS : Seal _ := ⟨hsz⟩
  have hcap := ho.rc.cap
  have n1 : w.heap.size + 1 ≠ w.heap.size := by omega
  clear s0 hm hx hz ho hsz
  obtain ⟨v1, h1⟩ : ∃ v, rulesB xs = v := ⟨_, rfl⟩
  obtain ⟨v2, h2⟩ : ∃ v, mailB m = v := ⟨_, rfl⟩
  have H1 : Seal _ := ⟨h1⟩
  have H2 : Seal _ := ⟨h2⟩
  clear h1 h2
  go_enter Tryd.func16, Tryd.ntmps16
  go_wp2_with fail
  refine (implSieveOk_any ao cap xs _ (HM.out.below S0.out.below (Nat.le_refl _)) (HX.out.below ruleP_stays S0.out.below (Nat.le_refl _)) hxl HZ.out).mono ?_
  rintro e w1 ⟨rfl, hb1⟩
  rw [H1.out]
  have S1 : Seal _ := ⟨S0.out.later hb1⟩
  have K1 := S1.out.two.head
  have y0 := K1.c 0 _ rfl
  have y1 := K1.c 1 _ rfl
  have y2 := K1.c 2 _ rfl
  have y3 := K1.c 3 _ rfl
  have R1 := S1.out.head
  have r0 := R1.c 0 _ rfl
  have r1 := R1.c 1 _ rfl
  have r2 := R1.c 2 _ rfl
  have r3 := R1.c 3 _ rfl
  have f0 := R1.f 0 (by simp)
  have f1 := R1.f 1 (by simp)
  have f2 := R1.f 2 (by simp)
  have f3 := R1.f 3 (by simp)
  clear hb1 S0 K1 R1
  cases v1
  · have hq := did_none (xs := xs) (m := m) (by rw [H1.out]; rfl)
    have HQ : Seal _ := ⟨hq⟩
    clear hq
    go_wp2
    refine bodyPost_ret (v := .tuple #[.agg noMailC, .int .i64 (-1)]) (by simp [results, Tryd.results16, go_sem, r0, r1, r2, r3]) rfl ⟨none, 0, none, 0, by rw [HQ.out.1, HQ.out.2]; rfl, by rw [HQ.out.1]; exact noM_own _ _, ?_⟩
    iterate 4 (refine Below.setCell ?_ (by simp <;> omega) _)
    exact S1.out.below
  go_wp2_with fail
  refine (implMailOk_any m a1 c1 a2 c2 _ (HM.out.below S1.out.below (Nat.le_refl _)) (HO.out.at.below S1.out.below (Nat.le_refl _)) HS.out hcap).mono ?_
  rintro e w2 ⟨rfl, hb2⟩
  rw [H2.out]
  have S2 : Seal _ := ⟨S1.out.later hb2⟩
  clear hb2 S1 y0 y1 y2 y3 r0 r1 r2 r3 f0 f1 f2 f3
  cases v2
  · have hq := did_none (xs := xs) (m := m) (by rw [H1.out, H2.out]; rfl)
    have HQ : Seal _ := ⟨hq⟩
    have R1 := S2.out.head
    have r0 := R1.c 0 _ rfl
    have r1 := R1.c 1 _ rfl
    have r2 := R1.c 2 _ rfl
    have r3 := R1.c 3 _ rfl
    have f0 := R1.f 0 (by simp)
    have f1 := R1.f 1 (by simp)
    have f2 := R1.f 2 (by simp)
    have f3 := R1.f 3 (by simp)
    clear hq R1
    go_wp2
    refine bodyPost_ret (v := .tuple #[.agg noMailC, .int .i64 (-1)]) (by simp [results, Tryd.results16, go_sem, r0, r1, r2, r3]) rfl ⟨none, 0, none, 0, by rw [HQ.out.1, HQ.out.2]; rfl, by rw [HQ.out.1]; exact noM_own _ _, ?_⟩
    iterate 4 (refine Below.setCell ?_ (by simp <;> omega) _)
    exact S2.out.below
  have hs5 := S2.out.head.lt
  have S3 : Seal _ := ⟨S2.out.alloc #[.int .i64 0, .string { data := #[] }, .int .i64 1, .string { data := #[] }, .string { data := #[] }] 41⟩
  have K3 := S3.out.three.head
  have y0 := K3.c 0 _ rfl
  have y1 := K3.c 1 _ rfl
  have y2 := K3.c 2 _ rfl
  have y3 := K3.c 3 _ rfl
  clear S2 K3
  go_wp2_with fail
  refine (implSieveFor_any ao cap xs m a1 c1 a2 c2 _ (HM.out.below S3.out.below (Nat.le_refl _)) (HX.out.below ruleP_stays S3.out.below (Nat.le_refl _)) hxl HZ.out (HO.out.at.below S3.out.below (Nat.le_refl _)) HS.out hcap).mono ?_
  rintro e w4 ⟨rfl, hb4⟩
  have S4 : Seal _ := ⟨S3.out.later hb4⟩
  have hs4 : w2.heap.size < w4.heap.size := S4.out.head.lt
  clear hb4 S3 y0 y1 y2 y3
  have hf : (whichB xs m = -1 ∧ didM xs m = m ∧ deedB xs m = 1) ∨ ∃ (k : Nat) (x : RuleD), whichB xs m = k ∧ xs[k]? = some x ∧ ruleB x = true ∧ didM xs m = actM x m ∧ deedB xs m = x.act := which_cases H1.out H2.out
  rcases hf with ⟨hr, hd, he⟩ | ⟨k, x, hr, hk, hb, hd, he⟩
  · have HD : Seal (didM xs m = actM keepR m) := ⟨hd.trans (by unfold actM keepR; simp)⟩
    have HE : Seal _ := ⟨he⟩
    rw [hr]
    clear hr hd he
    have SD : Seal _ := ⟨S4.out.drew⟩
    have RB := S4.out.head
    have z0 := RB.c 0 _ rfl
    have z1 := RB.c 1 _ rfl
    have z2 := RB.c 2 _ rfl
    have z3 := RB.c 3 _ rfl
    have z4 := RB.c 4 _ rfl
    have zl := RB.lt
    have MB := S4.out.three.head
    have y0 := MB.c 0 _ rfl
    have y1 := MB.c 1 _ rfl
    have y2 := MB.c 2 _ rfl
    have y3 := MB.c 3 _ rfl
    have yl := MB.lt
    have CA : Seal (∀ W, Below w.heap.size w W → Calls Tryd.prog 47 #[.agg #[.int .i64 0, .string { data := #[] }, .int .i64 1, .string { data := #[] }, .string { data := #[] }], .agg (mailV m a1 c1 a2 c2)] W (ActPost keepR m W)) := ⟨fun W hW => act_any keepR B m a1 c1 a2 c2 W (by decide) (HO.out.later hW) HS.out⟩
    clear RB MB
    go_wp2_with fail
    go_region_with (first | (go_at_call 47; refine (CA.out _ SD.out.below).mono ?_; rintro e w5 ⟨b1, d1, b2, d2, rfl, o5, hb5⟩; have S5 : Seal _ := ⟨SD.out.later hb5⟩; have q2 := S5.out.head.c 2 _ rfl; have RR := S5.out.two.head; have r0 := RR.c 0 _ rfl; have r1 := RR.c 1 _ rfl; have r2 := RR.c 2 _ rfl; have r3 := RR.c 3 _ rfl; have f0 := RR.f 0 (by simp); have f1 := RR.f 1 (by simp); have f2 := RR.f 2 (by simp); have f3 := RR.f 3 (by simp); have O5 : Seal _ := ⟨o5⟩; clear RR o5 hb5))
    all_goals
      go_wp2
      refine bodyPost_ret (v := .tuple #[.agg (mailV (actM keepR m) b1 d1 b2 d2), .int .i64 1]) (by simp [results, Tryd.results16, go_sem, r0, r1, r2, r3]) rfl ⟨b1, d1, b2, d2, by rw [HD.out, HE.out], ?_, ?_⟩
      · rw [HD.out]
        refine (?_ : MailOwn _ (w.heap.size + 2) (actM keepR m) b1 d1 b2 d2).base (by omega)
        iterate 4 (refine MailOwn.low ?_ (by omega) _ _)
        exact O5.out.base (by simp; omega)
      · iterate 4 (refine Below.setCell ?_ (by simp <;> omega) _)
        exact S5.out.below
  · have HD : Seal _ := ⟨hd⟩
    have HE : Seal _ := ⟨he⟩
    have HZX : Seal _ := ⟨HZ.out x (List.mem_of_getElem? hk)⟩
    obtain ⟨b, off, rfl, g0, g1, g2, g3, g4⟩ := ruleAt (HX.out.below ruleP_stays S4.out.below (Nat.le_refl _)) hk
    have hkl := (List.getElem?_eq_some_iff.1 hk).1
    rw [hr]
    have RB := S4.out.head
    have x0 := RB.c 0 _ rfl
    have j0 := RB.f 0 (by simp)
    have x1 := RB.c 1 _ rfl
    have j1 := RB.f 1 (by simp)
    have x2 := RB.c 2 _ rfl
    have j2 := RB.f 2 (by simp)
    have x3 := RB.c 3 _ rfl
    have j3 := RB.f 3 (by simp)
    have x4 := RB.c 4 _ rfl
    have j4 := RB.f 4 (by simp)
    have SB : Seal (St w (((((w4.setCell ⟨w2.heap.size, 0, none⟩ (.int .i64 x.ask)).setCell ⟨w2.heap.size, 1, none⟩ (.string x.txt)).setCell ⟨w2.heap.size, 2, none⟩ (.int .i64 x.act)).setCell ⟨w2.heap.size, 3, none⟩ (.string x.u)).setCell ⟨w2.heap.size, 4, none⟩ (.string x.d)) _) := ⟨((((S4.out.set 0 (.int .i64 x.ask) (by simp)).set 1 (.string x.txt) (by simp)).set 2 (.int .i64 x.act) (by simp)).set 3 (.string x.u) (by simp)).set 4 (.string x.d) (by simp)⟩
    clear hr hd he hk hb RB
    have SD : Seal _ := ⟨SB.out.drew⟩
    have RB := SB.out.head
    have z0 := RB.c 0 _ rfl
    have z1 := RB.c 1 _ rfl
    have z2 := RB.c 2 _ rfl
    have z3 := RB.c 3 _ rfl
    have z4 := RB.c 4 _ rfl
    have zl := RB.lt
    have MB := SB.out.three.head
    have y0 := MB.c 0 _ rfl
    have y1 := MB.c 1 _ rfl
    have y2 := MB.c 2 _ rfl
    have y3 := MB.c 3 _ rfl
    have yl := MB.lt
    have CA : Seal (∀ W, Below w.heap.size w W → Calls Tryd.prog 47 #[.agg (ruleV x), .agg (mailV m a1 c1 a2 c2)] W (ActPost x m W)) := ⟨fun W hW => act_any x B m a1 c1 a2 c2 W HZX.out (HO.out.later hW) HS.out⟩
    clear RB MB
    go_wp2_with fail
    go_region_with (first | (go_at_call 47; refine (CA.out _ SD.out.below).mono ?_; rintro e w5 ⟨b1, d1, b2, d2, rfl, o5, hb5⟩; have S5 : Seal _ := ⟨SD.out.later hb5⟩; have q2 := S5.out.head.c 2 _ rfl; have RR := S5.out.two.head; have r0 := RR.c 0 _ rfl; have r1 := RR.c 1 _ rfl; have r2 := RR.c 2 _ rfl; have r3 := RR.c 3 _ rfl; have f0 := RR.f 0 (by simp); have f1 := RR.f 1 (by simp); have f2 := RR.f 2 (by simp); have f3 := RR.f 3 (by simp); have O5 : Seal _ := ⟨o5⟩; clear RR o5 hb5))
    all_goals
      go_wp2
      refine bodyPost_ret (v := .tuple #[.agg (mailV (actM x m) b1 d1 b2 d2), .int .i64 x.act]) (by simp [results, Tryd.results16, go_sem, r0, r1, r2, r3]) rfl ⟨b1, d1, b2, d2, by rw [HD.out, HE.out], ?_, ?_⟩
      · rw [HD.out]
        refine (?_ : MailOwn _ (w.heap.size + 2) (actM x m) b1 d1 b2 d2).base (by omega)
        iterate 4 (refine MailOwn.low ?_ (by omega) _ _)
        exact O5.out.base (by simp; omega)
      · iterate 4 (refine Below.setCell ?_ (by simp <;> omega) _)
        exact S5.out.below
end Go.Proofs.YtgniokkiejoccaaDoor
namespace Go.Proofs.YtgniokkiejoccaaDoor
open Go Go.RowKit

theorem mail_ok_some {m : MailD} (h : mailB m = true) : 1 ≤ m.rc.length := by
  unfold mailB toB at h
  rw [Bool.and_eq_true, Bool.and_eq_true, Bool.and_eq_true, decide_eq_true_eq] at h
  exact h.2.1.1.1

set_option maxHeartbeats 12800000 in
set_option maxRecDepth 100000 in
theorem specSieveDo_any (ao : Option Addr) (cap : Nat) (xs : List RuleD) (B : Nat) (m : MailD) (a1 : Option Addr) (c1 : Nat) (a2 : Option Addr) (c2 : Nat) (w : World) (hx : RuleRow w ao xs) (hxl : xs.length ≤ 1048576) (hz : ∀ x ∈ xs, ruleN x ≤ 1048576) (ho : MailOwn w B m a1 c1 a2 c2) (hsz : MailSz 1048576 m) :
    Calls Tryd.prog 17 #[.slice ao xs.length cap, .agg (mailV m a1 c1 a2 c2)] w (DoPost xs m w) := by
  have s0 := ((St.start w).alloc (mailV m a1 c1 a2 c2) 29).alloc noMailC 29
  simp only [World.size_alloc] at s0
  have S0 : Seal _ := ⟨s0⟩
  have HX : Seal _ := ⟨hx⟩
  have HZ : Seal _ := ⟨hz⟩
  have HO : Seal _ := ⟨ho⟩
  have HS : Seal _ := ⟨hsz⟩
  have zb := hsz.bol
  have zf := hsz.fd
  have n1 : w.heap.size + 1 ≠ w.heap.size := by omega
  clear s0 hx hz ho hsz
  obtain ⟨v1, h1⟩ : ∃ v, rulesB xs = v := ⟨_, rfl⟩
  obtain ⟨v2, h2⟩ : ∃ v, mailB m = v := ⟨_, rfl⟩
  have H1 : Seal _ := ⟨h1⟩
  have H2 : Seal _ := ⟨h2⟩
  clear h1 h2
  go_enter Tryd.func17, Tryd.ntmps17
  go_wp2_with fail
  refine (l13Ok_any ao cap xs _ (HX.out.below ruleP_stays S0.out.below (Nat.le_refl _)) hxl HZ.out).mono ?_
  rintro e w1 ⟨rfl, hb1⟩
  rw [H1.out]
  have S1 : Seal _ := ⟨S0.out.later hb1⟩
  have K1 := S1.out.two.head
  have y0 := K1.c 0 _ rfl
  have y1 := K1.c 1 _ rfl
  have y2 := K1.c 2 _ rfl
  have y3 := K1.c 3 _ rfl
  have R1 := S1.out.head
  have r0 := R1.c 0 _ rfl
  have r1 := R1.c 1 _ rfl
  have r2 := R1.c 2 _ rfl
  have r3 := R1.c 3 _ rfl
  have f0 := R1.f 0 (by simp)
  have f1 := R1.f 1 (by simp)
  have f2 := R1.f 2 (by simp)
  have f3 := R1.f 3 (by simp)
  clear hb1 S0 K1 R1
  cases v1
  · have hq := did_none (xs := xs) (m := m) (by rw [H1.out]; rfl)
    have HQ : Seal _ := ⟨hq⟩
    clear hq
    go_wp2
    refine bodyPost_ret (v := .tuple #[.agg noMailC, .int .i64 (-1)]) (by simp [results, Tryd.results17, go_sem, r0, r1, r2, r3]) rfl ⟨none, 0, none, 0, by rw [HQ.out.1, HQ.out.2]; rfl, by rw [HQ.out.1]; exact noM_own _ _, ?_⟩
    iterate 4 (refine Below.setCell ?_ (by simp <;> omega) _)
    exact S1.out.below
  go_wp2_with fail
  refine (l2Ok_any m a1 c1 a2 c2 _ (HO.out.at.below S1.out.below (Nat.le_refl _)) HS.out).mono ?_
  rintro e w2 ⟨rfl, hb2⟩
  rw [H2.out]
  have S2 : Seal _ := ⟨S1.out.later hb2⟩
  clear hb2 S1 y0 y1 y2 y3 r0 r1 r2 r3 f0 f1 f2 f3
  have K2 := S2.out.two.head
  have y0 := K2.c 0 _ rfl
  have y1 := K2.c 1 _ rfl
  have y2 := K2.c 2 _ rfl
  have y3 := K2.c 3 _ rfl
  have R1 := S2.out.head
  cases v2
  · have hq := did_none (xs := xs) (m := m) (by rw [H1.out, H2.out]; rfl)
    have HQ : Seal _ := ⟨hq⟩
    have r0 := R1.c 0 _ rfl
    have r1 := R1.c 1 _ rfl
    have r2 := R1.c 2 _ rfl
    have r3 := R1.c 3 _ rfl
    have f0 := R1.f 0 (by simp)
    have f1 := R1.f 1 (by simp)
    have f2 := R1.f 2 (by simp)
    have f3 := R1.f 3 (by simp)
    clear hq R1 K2
    go_wp2
    refine bodyPost_ret (v := .tuple #[.agg noMailC, .int .i64 (-1)]) (by simp [results, Tryd.results17, go_sem, r0, r1, r2, r3]) rfl ⟨none, 0, none, 0, by rw [HQ.out.1, HQ.out.2]; rfl, by rw [HQ.out.1]; exact noM_own _ _, ?_⟩
    iterate 4 (refine Below.setCell ?_ (by simp <;> omega) _)
    exact S2.out.below
  clear K2 R1
  have CW : Seal (∀ W, Below w.heap.size w W → Calls Tryd.prog 41 #[.slice ao xs.length cap, .agg #[.string m.fu, .string m.fd], .slice a2 m.body.length c2] W fun e w' => e = .returned (.int .i64 (whichB xs m)) ∧ Below W.heap.size W w') := ⟨fun W hW => by
    rw [whichB_yes H1.out H2.out]
    exact l13Rule_any ao cap xs m.fu m.fd a2 c2 m.body W (HX.out.below ruleP_stays hW (Nat.le_refl _)) hxl HZ.out zf (HO.out.at.body.below hW (Nat.le_refl _)) zb HS.out.bos⟩
  go_wp2_with fail
  refine (CW.out _ S2.out.below).mono ?_
  rintro e w3 ⟨rfl, hb3⟩
  have S3 : Seal _ := ⟨S2.out.later hb3⟩
  clear hb3 S2 y0 y1 y2 y3 CW
  have K3 := S3.out.two.head
  have y0 := K3.c 0 _ rfl
  have y1 := K3.c 1 _ rfl
  have y2 := K3.c 2 _ rfl
  have y3 := K3.c 3 _ rfl
  clear K3
  go_wp2_with fail
  refine (l2Copy_any B m a1 c1 a2 c2 _ (HO.out.later S3.out.below) HS.out (mail_ok_some H2.out)).mono ?_
  rintro e w4 ⟨b1, d1, b2, d2, rfl, o4, hb4⟩
  have s4 := S3.out.mail hb4 o4
  have hs3 := S3.out.head.lt
  have hs4 := hb4.size
  have S4 : Seal (St w (w4.alloc (.cells (mailV m b1 d1 b2 d2) 29)) (Res.cells w4.heap.size [.string m.fu, .string m.fd, .slice b1 m.rc.length d1, .slice b2 m.body.length d2] :: Res.mail m b1 d1 b2 d2 :: [Res.cells (w.heap.size + 1) noMailC.toList, Res.cells w.heap.size [.string m.fu, .string m.fd, .slice a1 m.rc.length c1, .slice a2 m.body.length c2]])) := ⟨s4.alloc (mailV m b1 d1 b2 d2) 29⟩
  have O4 : Seal _ := ⟨o4⟩
  have nA : w4.heap.size ≠ w.heap.size + 1 := by omega
  have nB : w4.heap.size ≠ w.heap.size := by omega
  have SM : Seal (St w3 w4 [Res.mail m b1 d1 b2 d2]) := ⟨(St.start w3).mail hb4 o4⟩
  have SW : Seal _ := ⟨s4⟩
  clear s4 o4 hb4 S3 y0 y1 y2 y3
  have BX := S4.out.head
  have y0 := BX.c 0 _ rfl
  have y1 := BX.c 1 _ rfl
  have y2 := BX.c 2 _ rfl
  have y3 := BX.c 3 _ rfl
  have R1 := S4.out.three.head
  have r0 := R1.c 0 _ rfl
  have r1 := R1.c 1 _ rfl
  have r2 := R1.c 2 _ rfl
  have r3 := R1.c 3 _ rfl
  have f0 := R1.f 0 (by simp)
  have f1 := R1.f 1 (by simp)
  have f2 := R1.f 2 (by simp)
  have f3 := R1.f 3 (by simp)
  have rl := R1.lt
  have O4' : Seal _ := ⟨O4.out.later ((Below.refl w4.heap.size w4).alloc (Nat.le_refl _) (.cells (mailV m b1 d1 b2 d2) 29))⟩
  rcases which_cases H1.out H2.out with ⟨hr, hd, he⟩ | ⟨k, x, hr, hk, hb, hd, he⟩
  · have HD : Seal _ := ⟨hd⟩
    have HE : Seal _ := ⟨he⟩
    rw [hr]
    clear hr hd he BX R1
    go_wp2
    refine bodyPost_ret (v := .tuple #[.agg (mailV m b1 d1 b2 d2), .int .i64 1]) (by simp [results, Tryd.results17, go_sem, r0, r1, r2, r3]) rfl ⟨b1, d1, b2, d2, by rw [HD.out, HE.out], ?_, ?_⟩
    · rw [HD.out]
      refine (?_ : MailOwn _ (w.heap.size + 2) m b1 d1 b2 d2).base (by omega)
      iterate 4 (refine MailOwn.low ?_ (by omega) _ _)
      exact O4'.out.base (by omega)
    · iterate 4 (refine Below.setCell ?_ (by simp <;> omega) _)
      exact S4.out.below
  obtain ⟨b, off, rfl, g0, g1, g2, g3, g4⟩ := ruleAt (HX.out.below ruleP_stays S4.out.below (Nat.le_refl _)) hk
  have hkl := (List.getElem?_eq_some_iff.1 hk).1
  have hlow := World.block_lt_of_cell? _ _ g0
  rw [hr]
  rcases act_of hb with ha | ha | ha
  · have HD : Seal (didM xs m = m) := ⟨hd.trans (by unfold actM; rw [if_neg (by omega), if_neg (by omega)])⟩
    have HE : Seal (deedB xs m = 1) := ⟨he.trans ha⟩
    have e1 : (x.act == 1) = true := by rw [beq_iff_eq]; exact ha
    clear hr hd he hb ha hk BX R1
    go_wp2
    refine bodyPost_ret (v := .tuple #[.agg (mailV m b1 d1 b2 d2), .int .i64 1]) (by simp [results, Tryd.results17, go_sem, r0, r1, r2, r3]) rfl ⟨b1, d1, b2, d2, by rw [HD.out, HE.out], ?_, ?_⟩
    · rw [HD.out]
      refine (?_ : MailOwn _ (w.heap.size + 2) m b1 d1 b2 d2).base (by omega)
      iterate 4 (refine MailOwn.low ?_ (by omega) _ _)
      exact O4'.out.base (by omega)
    · iterate 4 (refine Below.setCell ?_ (by simp <;> omega) _)
      exact S4.out.below
  · have HD : Seal (didM xs m = noM) := ⟨hd.trans (by unfold actM; rw [if_pos ha])⟩
    have HE : Seal (deedB xs m = 2) := ⟨he.trans ha⟩
    have e1 : (x.act == 1) = false := by rw [beq_eq_false_iff_ne]; omega
    have e2 : (x.act == 2) = true := by rw [beq_iff_eq]; exact ha
    clear hr hd he hb ha hk BX R1
    go_wp2
    refine bodyPost_ret (v := .tuple #[.agg noMailC, .int .i64 2]) (by simp [results, Tryd.results17, go_sem, r0, r1, r2, r3]) rfl ⟨none, 0, none, 0, by rw [HD.out, HE.out]; rfl, by rw [HD.out]; exact noM_own _ _, ?_⟩
    iterate 4 (refine Below.setCell ?_ (by simp <;> omega) _)
    exact S4.out.below
  · have HD : Seal (didM xs m = sentM x m) := ⟨hd.trans (by unfold actM; rw [if_neg (by omega), if_pos ha])⟩
    have HE : Seal (deedB xs m = 3) := ⟨he.trans ha⟩
    have e1 : (x.act == 1) = false := by rw [beq_eq_false_iff_ne]; omega
    have e2 : (x.act == 2) = false := by rw [beq_eq_false_iff_ne]; omega
    clear hr hd he hb ha hk BX R1 y0 y1 y2 y3 r0 r1 r2 r3 f0 f1 f2 f3
    have s5 := oneRow (SW.out.alloc #[.string m.fu, .string m.fd, .slice (some ⟨w4.heap.size + 1, 0, none⟩) 1 1, .slice b2 m.body.length d2] 29) x.u x.d
    have t5 := oneRow (SM.out.alloc #[.string m.fu, .string m.fd, .slice (some ⟨w4.heap.size + 1, 0, none⟩) 1 1, .slice b2 m.body.length d2] 29) x.u x.d
    simp only [World.size_alloc] at s5 t5
    have OS : Seal (MailOwn _ w3.heap.size (sentM x m) (some ⟨w4.heap.size + 1, 0, none⟩) 1 b2 d2) := ⟨StX.mailJoin (m := sentM x m) t5.three.split.tail.two⟩
    have R5 := s5.four.head
    have r0 := R5.c 0 _ rfl
    have r1 := R5.c 1 _ rfl
    have r2 := R5.c 2 _ rfl
    have r3 := R5.c 3 _ rfl
    have f0 := R5.f 0 (by simp)
    have f1 := R5.f 1 (by simp)
    have f2 := R5.f 2 (by simp)
    have f3 := R5.f 3 (by simp)
    have S5 : Seal _ := ⟨s5⟩
    clear s5 t5 R5 S4 O4 O4' SM SW
    go_wp2
    refine bodyPost_ret (v := .tuple #[.agg (mailV (sentM x m) (some ⟨w4.heap.size + 1, 0, none⟩) 1 b2 d2), .int .i64 3]) (by simp [results, Tryd.results17, go_sem, r0, r1, r2, r3, sentM]) rfl ⟨some ⟨w4.heap.size + 1, 0, none⟩, 1, b2, d2, by rw [HD.out, HE.out], ?_, ?_⟩
    · rw [HD.out]
      refine (?_ : MailOwn _ (w.heap.size + 2) (sentM x m) (some ⟨w4.heap.size + 1, 0, none⟩) 1 b2 d2).base (by omega)
      iterate 4 (refine MailOwn.low ?_ (by omega) _ _)
      exact OS.out.base (by omega)
    · iterate 4 (refine Below.setCell ?_ (by simp <;> omega) _)
      exact S5.out.below
end Go.Proofs.YtgniokkiejoccaaDoor
