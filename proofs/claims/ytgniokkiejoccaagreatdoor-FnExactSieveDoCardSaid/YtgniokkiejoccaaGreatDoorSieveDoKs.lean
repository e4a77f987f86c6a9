/- KindRules, SieveDoK, WSieveDo. -/
import Derived.Test.YtgniokkiejoccaaGreatDoorKinds
import Derived.Test.YtgniokkiejoccaaGreatDoorRuleTo
import Derived.Test.YtgniokkiejoccaaGreatDoorRuleSz
import Derived.Test.YtgniokkiejoccaaGreatDoorRuleEq
import Derived.Test.YtgniokkiejoccaaGreatDoorRuleMark
import Derived.Test.YtgniokkiejoccaaGreatDoorSieveDos
import Derived.Deep.RegionHeld3
import Derived.Deep.DeepCutAuto
namespace Go.Proofs.YtgniokkiejoccaaGreatDoor
open Go Go.RowKit

/-- Where the row lies. -/
structure RulesP where
  a : Option Addr
  c : Nat
abbrev rulesKV (xs : List RuleD) (p : RulesP) : Value := .slice p.a xs.length p.c
abbrev rulesKR (xs : List RuleD) (p : RulesP) : List Res := [rulesR p.a p.c xs]
abbrev rulesKA (w : World) (xs : List RuleD) (p : RulesP) : Prop := RuleRow w p.a xs
def rulesKF (_ : List RuleD) (_ : RulesP) : Prop := True
abbrev rulesKZ (xs : List RuleD) : Prop := rowN ruleN xs ≤ 1048576
def rulesKM (xs : List RuleD) : Nat := xs.length * 5
def rulesKmk (k : Nat) (xs : List RuleD) : List RuleD := ruMarks k xs.length
theorem rulesK_below {B : Nat} {w w' : World} {xs : List RuleD} {p : RulesP} (h : rulesKA w xs p) (hb : Below B w w') (hB : w.heap.size ≤ B) : rulesKA w' xs p := h.below ruleP_stays hb hB
theorem rulesK_read {w : World} {xs : List RuleD} {p : RulesP} (_ : rulesKF xs p) (h : ∀ r ∈ rulesKR xs p, r.P w) : rulesKA w xs p := rules_read (h _ (List.mem_singleton.2 rfl))
theorem rulesK_marks {xs : List RuleD} (h : rulesKZ xs) : rulesKM xs ≤ 5242880 := by
  have := (rulesN_parts h).1
  unfold rulesKM
  omega
theorem rulesK_mkF {k : Nat} {xs : List RuleD} {p : RulesP} (h : rulesKF xs p) : rulesKF (rulesKmk k xs) p := h
theorem rulesK_small {xs : List RuleD} {left : Int} (h : ¬ leftN (rowN ruleN xs) left < 0) (_ : 0 ≤ left) (h1 : left ≤ 1048576) : rulesKZ xs := by
  have := leftN_small h
  unfold rulesKZ
  omega
theorem szRuleS_K (xs : List RuleD) (p : RulesP) (left : Int) (w : World) (hat : rulesKA w xs p) (hsz : xs.length ≤ maxLen ∧ ∀ x ∈ xs, RuleF x) (h0 : 0 ≤ left) (h1 : left ≤ 1048576) :
    Calls Tryz.prog 4 #[rulesKV xs p, .int .i64 left] w fun e w' => e = .returned (.int .i64 (leftN (rowN ruleN xs) left)) ∧ Below w.heap.size w w' := szRuleS_any p.a p.c xs left w hat hsz.1 h0 h1 hsz.2
theorem toRuleS_K (xs : List RuleD) (p : RulesP) (w : World) (hat : rulesKA w xs p) (hz : rulesKZ xs) :
    Calls Tryz.prog 7 #[rulesKV xs p] w fun e w' => ∃ q, e = .returned (rulesKV xs q) ∧ rulesKF xs q ∧ St w w' (rulesKR xs q) := by
  refine (toRuleS_any p.a p.c xs w hat (rulesN_parts hz).1).mono ?_
  rintro e w' ⟨b, d, rfl, h⟩
  exact ⟨⟨b, d⟩, rfl, trivial, h⟩
theorem eqRuleS_K (xs : List RuleD) (p q : RulesP) (w : World) (ha : rulesKA w xs p) (hb : rulesKA w xs q) (hz : rulesKZ xs) :
    Calls Tryz.prog 11 #[rulesKV xs p, rulesKV xs q] w fun e w' => e = .returned (.bool true) ∧ Below w.heap.size w w' := eqRuleS_same p.a q.a p.c q.c xs w ha hb (rulesN_parts hz).1
theorem markRuleS_K (k : Nat) (xs : List RuleD) (p : RulesP) {w0 : World} {Ls : List (List Res)} (w : World) (h : Pt w0 w (rulesKR xs p :: Ls)) (_ : rulesKF xs p) (_ : rulesKZ xs) (hl : k + rulesKM xs ≤ 16777216) :
    Calls Tryz.prog 12 #[rulesKV xs p, .int .i64 k] w fun e w' => e = .returned (.int .i64 ((k + rulesKM xs : Nat) : Int)) ∧ Pt w0 w' (rulesKR (rulesKmk k xs) p :: Ls) :=
  markRuleS_any Ls.flatten k p.a p.c xs w0 w h hl
end Go.Proofs.YtgniokkiejoccaaGreatDoor
namespace Go.Proofs.YtgniokkiejoccaaGreatDoor
open Go Go.RowKit

theorem did_sz {xs : List RuleD} {m : MailD} (h : mailKZ m) (hz : rulesKZ xs) : mailKZ (didM xs m) := by
  have hn : mailKZ noM := ⟨by decide, by decide, by decide, fun p hp => (by cases hp), by decide, fun p hp => (by cases hp)⟩
  cases h1 : rulesB xs with
  | false => rw [(did_none (by rw [h1]; rfl)).1]; exact hn
  | true =>
    cases h2 : mailB m with
    | false => rw [(did_none (by rw [h1, h2]; rfl)).1]; exact hn
    | true =>
      rcases which_cases h1 h2 with ⟨_, h3, _⟩ | ⟨k, x, _, hx, _, h3, _⟩
      · rw [h3]; exact h
      · rw [h3]
        unfold actM
        split
        · exact hn
        · split
          · exact sent_sz h ((rulesN_parts hz).2 x (List.mem_of_getElem? hx))
          · exact h
theorem specSieveDo_K (xs : List RuleD) (m : MailD) (hz : rulesKZ xs) (hmz : mailKZ m) (w0 W : World) (Ls : List (List Res)) (px : RulesP) (pm : MailP) (i j : Nat) (h : Pt w0 W Ls) (hi : Ls[i]? = some (rulesKR xs px)) (hj : Ls[j]? = some (mailKR m pm)) (_ : rulesKF xs px) (_ : mailKF m pm) :
    Calls Tryz.prog 6 #[rulesKV xs px, .agg (mailKV m pm)] W fun e w' => ∃ r, e = .returned (.tuple #[.agg (mailKV (didM xs m) r), .int .i64 (deedB xs m)]) ∧ mailKF (didM xs m) r ∧ St W w' (mailKR (didM xs m) r) := by
  refine (specSieveDo_any px.a px.c xs 0 m pm.a1 pm.c1 pm.a2 pm.c2 W (rulesK_read trivial (h.nth i hi)) (rulesN_parts hz).1 (rulesN_parts hz).2 (h.nth j hj _ (List.mem_singleton.2 rfl)) hmz).mono ?_
  rintro e w' ⟨b1, d1, b2, d2, rfl, ho, hb⟩
  exact ⟨⟨b1, d1, b2, d2⟩, rfl, trivial, (St.start W).mail hb ho⟩
theorem implSieveDo_K (xs : List RuleD) (m : MailD) (hz : rulesKZ xs) (hmz : mailKZ m) (w0 W : World) (Ls : List (List Res)) (hm : HasMax W) (px : RulesP) (pm : MailP) (i j : Nat) (h : Pt w0 W Ls) (hi : Ls[i]? = some (rulesKR xs px)) (hj : Ls[j]? = some (mailKR m pm)) (_ : rulesKF xs px) (_ : mailKF m pm) :
    Calls Tryz.prog 9 #[rulesKV xs px, .agg (mailKV m pm)] W fun e w' => ∃ r, e = .returned (.tuple #[.agg (mailKV (didM xs m) r), .int .i64 (deedB xs m)]) ∧ mailKF (didM xs m) r ∧ St W w' (mailKR (didM xs m) r) := by
  refine (implSieveDo_any px.a px.c xs 0 m pm.a1 pm.c1 pm.a2 pm.c2 W hm (rulesK_read trivial (h.nth i hi)) (rulesN_parts hz).1 (rulesN_parts hz).2 (h.nth j hj _ (List.mem_singleton.2 rfl)) hmz).mono ?_
  rintro e w' ⟨b1, d1, b2, d2, rfl, ho, hb⟩
  exact ⟨⟨b1, d1, b2, d2⟩, rfl, trivial, (St.start W).mail hb ho⟩
end Go.Proofs.YtgniokkiejoccaaGreatDoor
namespace Go.Proofs.YtgniokkiejoccaaGreatDoor
open Go Go.RowKit


set_option maxHeartbeats 12800000 in
set_option maxRecDepth 100000 in
theorem wFnExactSieveDo.walk (xs : List RuleD) (xsa : Option Addr) (xsc : Nat) (m : MailD) (ma : Option Addr) (mc : Nat) (mb : Option Addr) (me : Nat) (w : World) (haxs : RuleRow w xsa xs) (hwxs : xs.length ≤ maxLen ∧ ∀ x ∈ xs, RuleF x) (ham : MailAt w m ma mb) (hwm : MailSz maxLen m) (hm : HasMax w) :
    Calls Tryz.prog 3 #[.slice xsa xs.length xsc, .agg (mailV m ma mc mb me)] w fun e w' => e = .returned (.bool true) ∧ Below w.heap.size w w' := by
  have HM : Seal _ := ⟨hm⟩
  clear hm
  obtain ⟨pxs, hpxs⟩ : ∃ p : RulesP, (⟨xsa, xsc⟩ : RulesP) = p := ⟨_, rfl⟩
  obtain rfl : pxs.a = xsa := by rw [← hpxs]
  obtain rfl : pxs.c = xsc := by rw [← hpxs]
  clear hpxs
  have HAxs : Seal (rulesKA w xs pxs) := ⟨haxs⟩
  have HWxs : Seal _ := ⟨hwxs⟩
  clear haxs hwxs
  obtain ⟨pm, hpm⟩ : ∃ p : MailP, (⟨ma, mc, mb, me⟩ : MailP) = p := ⟨_, rfl⟩
  obtain rfl : pm.a1 = ma := by rw [← hpm]
  obtain rfl : pm.c1 = mc := by rw [← hpm]
  obtain rfl : pm.a2 = mb := by rw [← hpm]
  obtain rfl : pm.c2 = me := by rw [← hpm]
  clear hpm
  have HAm : Seal (mailKA w m pm) := ⟨ham⟩
  have HWm : Seal _ := ⟨hwm⟩
  clear ham hwm
  have S0 : Seal (Pt w w []) := ⟨Pt.start w⟩
  have S1 : Seal (Pt w (w.alloc (.cells (mailKV m pm) 28)) [[Res.cells (w.heap.size) (mailKL m pm)]]) := ⟨S0.out.alloc (mailKV m pm) 28⟩
  clear S0
  obtain ⟨lxs, hlxs⟩ : ∃ l, leftN (rowN ruleN xs) 1048576 = l := ⟨_, rfl⟩
  have HLxs : Seal _ := ⟨hlxs⟩
  have hlexs : 0 ≤ (1048576 : Int) → lxs ≤ 1048576 := fun h => hlxs ▸ leftN_le (rowN ruleN xs) h
  clear hlxs
  obtain ⟨lm, hlm⟩ : ∃ l, leftM m lxs = l := ⟨_, rfl⟩
  have HLm : Seal _ := ⟨hlm⟩
  have hlem : 0 ≤ (lxs : Int) → lm ≤ lxs := fun h => hlm ▸ leftM_le (m := m) h
  clear hlm
  go_enter Tryz.func3, Tryz.ntmps3
  go_wp2_with fail
  refine (szRuleS_K xs pxs 1048576 _ (rulesK_below HAxs.out S1.out.below (Nat.le_refl _)) HWxs.out (by omega) (by omega)).mono ?_
  rintro e w1 ⟨rfl, hb⟩
  rw [HLxs.out]
  have S2 : Seal (Pt w w1 [[Res.cells (w.heap.size) (mailKL m pm)]]) := ⟨S1.out.later hb⟩
  clear hb S1
  by_cases hneg : lxs < 0
  · go_wp2
    go_ret
    exact ⟨rfl, S2.out.below⟩
  have HZxs : Seal (rulesKZ xs) := ⟨rulesK_small (by rw [HLxs.out]; exact hneg) (by omega) (by omega)⟩
  have hloxs : 0 ≤ lxs := by omega
  have hupxs : lxs ≤ 1048576 := by omega
  clear hneg
  have g1 := (S2.out.cellsM 0 rfl).c 0 _ rfl
  have g2 := (S2.out.cellsM 0 rfl).c 1 _ rfl
  have g3 := (S2.out.cellsM 0 rfl).c 2 _ rfl
  have g4 := (S2.out.cellsM 0 rfl).c 3 _ rfl
  have g5 := (S2.out.cellsM 0 rfl).lt
  go_wp2_with fail
  refine (szMail_K m pm lxs _ (mailK_below HAm.out S2.out.below (Nat.le_refl _)) HWm.out (by omega) (by omega)).mono ?_
  rintro e w2 ⟨rfl, hb⟩
  rw [HLm.out]
  have S3 : Seal (Pt w w2 [[Res.cells (w.heap.size) (mailKL m pm)]]) := ⟨S2.out.later hb⟩
  clear hb S2 g1 g2 g3 g4 g5
  by_cases hneg : lm < 0
  · go_wp2
    go_ret
    exact ⟨rfl, S3.out.below⟩
  have HZm : Seal (mailKZ m) := ⟨mailK_small (by rw [HLm.out]; exact hneg) (by omega) (by omega)⟩
  have hlom : 0 ≤ lm := by omega
  have hupm : lm ≤ 1048576 := by omega
  clear hneg
  obtain ⟨D, hD⟩ : ∃ x, didM xs m = x := ⟨_, rfl⟩
  have HD : Seal _ := ⟨hD⟩
  have HZD : Seal (mailKZ D) := ⟨hD ▸ did_sz HZm.out HZxs.out⟩
  clear hD
  obtain ⟨q, hq⟩ : ∃ x, deedB xs m = x := ⟨_, rfl⟩
  have Hq : Seal _ := ⟨hq⟩
  clear hq
  have CS : Seal (∀ (W : World) (Ls : List (List Res)), ∀ (pxs' : RulesP) (pm' : MailP) (ixs : Nat) (im : Nat), Pt w W Ls → Ls[ixs]? = some (rulesKR xs pxs') → Ls[im]? = some (mailKR m pm') → rulesKF xs pxs' → mailKF m pm' → Calls Tryz.prog 6 #[rulesKV xs pxs', .agg (mailKV m pm')] W (fun e w' => ∃ r, e = .returned (.tuple #[.agg (mailKV D r), .int .i64 q]) ∧ mailKF D r ∧ St W w' (mailKR D r))) := ⟨fun W Ls pxs' pm' ixs im h hgxs hgm fxs fm => by rw [← HD.out, ← Hq.out]; exact specSieveDo_K xs m HZxs.out HZm.out w W Ls pxs' pm' ixs im h hgxs hgm fxs fm⟩
  have CI : Seal (∀ (W : World) (Ls : List (List Res)), HasMax W → ∀ (pxs' : RulesP) (pm' : MailP) (ixs : Nat) (im : Nat), Pt w W Ls → Ls[ixs]? = some (rulesKR xs pxs') → Ls[im]? = some (mailKR m pm') → rulesKF xs pxs' → mailKF m pm' → Calls Tryz.prog 9 #[rulesKV xs pxs', .agg (mailKV m pm')] W (fun e w' => ∃ r, e = .returned (.tuple #[.agg (mailKV D r), .int .i64 q]) ∧ mailKF D r ∧ St W w' (mailKR D r))) := ⟨fun W Ls hmx pxs' pm' ixs im h hgxs hgm fxs fm => by rw [← HD.out, ← Hq.out]; exact implSieveDo_K xs m HZxs.out HZm.out w W Ls hmx pxs' pm' ixs im h hgxs hgm fxs fm⟩
  obtain ⟨N0, hN0⟩ : ∃ N : Nat, 1 + rulesKM xs = N := ⟨_, rfl⟩
  have mkN0 := rulesK_marks HZxs.out
  have PN0 : Seal (1 + rulesKM xs ≤ 16777216) := ⟨by omega⟩
  have HN0 : Seal _ := ⟨hN0⟩
  have ngN0 : ¬ (N0 : Int) < 0 := by omega
  obtain ⟨N1, hN1⟩ : ∃ N : Nat, N0 + mailKM m = N := ⟨_, rfl⟩
  have mkN1 := mailK_marks HZm.out
  have PN1 : Seal (N0 + mailKM m ≤ 16777216) := ⟨by omega⟩
  have HN1 : Seal _ := ⟨hN1⟩
  have ngN1 : ¬ (N1 : Int) < 0 := by omega
  obtain ⟨N2, hN2⟩ : ∃ N : Nat, 1 + mailKM D = N := ⟨_, rfl⟩
  have mkN2 := mailK_marks HZD.out
  have PN2 : Seal (1 + mailKM D ≤ 16777216) := ⟨by omega⟩
  have HN2 : Seal _ := ⟨hN2⟩
  have ngN2 : ¬ (N2 : Int) < 0 := by omega
  clear mkN0 hN0 mkN1 hN1 mkN2 hN2
  have qqq : (q != q) = false := by simp
  go_upto_region 8 with fail
  go_cut [6, 7] (fun s6 s7 wx => ∃ (k6 : Nat) (q7 : MailP), s6 = .pointer (some ⟨k6, 0, none⟩) ∧ s7 = .int .i64 q ∧ mailKF D q7 ∧ Pt w wx [[Res.cells k6 (mailKL D q7)], mailKR D q7, [Res.cells (w.heap.size) (mailKL m pm)]])
  case first =>
    refine wp_region_held_drew (S := (fun w' => w'.cell? ⟨w.heap.size, 0, none⟩ = some (.string m.fu) ∧ w'.cell? ⟨w.heap.size, 1, none⟩ = some (.string m.fd) ∧ w'.cell? ⟨w.heap.size, 2, none⟩ = some (.slice pm.a1 m.rc.length pm.c1) ∧ w'.cell? ⟨w.heap.size, 3, none⟩ = some (.slice pm.a2 m.body.length pm.c2))) (by kernel_rfl) ⟨(S3.out.cellsM 0 rfl).c 0 _ rfl, (S3.out.cellsM 0 rfl).c 1 _ rfl, (S3.out.cellsM 0 rfl).c 2 _ rfl, (S3.out.cellsM 0 rfl).c 3 _ rfl⟩ (fun hHeld => ?_)
    have S4 : Seal (Pt w _ [[Res.cells (w.heap.size) (mailKL m pm)]]) := ⟨S3.out.drew⟩
    (refine wpAnyH_take (i := 0) (v := ?_) rfl (by kernel_rfl) (by kernel_rfl) (by kernel_rfl) (fun _ _ _ h => h) (Or.inl ⟨by rfl, ?_⟩) (by assumption) ?_; rotate_left; (intro w hSw; (try dsimp only at hSw); go_split_ands; go_simp; first | done | with_reducible rfl); rotate_left; simp only [Act.put, List.getElem_toArray, List.getElem_cons_zero, List.setIfInBounds_toArray, List.set_cons_succ, List.set_cons_zero])
    (refine wpAnyH_take (i := 2) (v := ?_) rfl (by kernel_rfl) (by kernel_rfl) (by kernel_rfl) (fun _ _ _ h => h) (Or.inl ⟨by rfl, ?_⟩) (by assumption) ?_; rotate_left; (intro w hSw; (try dsimp only at hSw); go_split_ands; go_simp; first | done | with_reducible rfl); rotate_left; simp only [Act.put, List.getElem_toArray, List.getElem_cons_succ, List.getElem_cons_zero, List.setIfInBounds_toArray, List.set_cons_succ, List.set_cons_zero])
    refine wpAnyH_ready (rs := [1, 8]) (by kernel_rfl) (by simp) ?_
    refine AllReadyH.cons rfl (fun K hK => ?_) (AllReadyH.cons rfl (fun K hK => ?_) AllReadyH.nil)
    · try dsimp only at hHeld
      go_split_ands
      go_simp
      refine (toRuleS_K xs pxs _ (rulesK_below HAxs.out S4.out.below (Nat.le_refl _)) HZxs.out).mono ?_
      rintro e w3 ⟨p8, rfl, hf, hk⟩
      have HFp8 : Seal _ := ⟨hf⟩
      have S5 : Seal (Pt w w3 [rulesKR xs p8, [Res.cells (w.heap.size) (mailKL m pm)]]) := ⟨S4.out.join hk⟩
      clear hk hf
      refine hK.out _ _ ⟨(S5.out.cellsM 1 rfl).c 0 _ rfl, (S5.out.cellsM 1 rfl).c 1 _ rfl, (S5.out.cellsM 1 rfl).c 2 _ rfl, (S5.out.cellsM 1 rfl).c 3 _ rfl⟩ (fun hHeld => ?_)
      clear hK K
      try simp only [Act.put, List.getElem_toArray, List.getElem_cons_succ, List.getElem_cons_zero, List.setIfInBounds_toArray, List.set_cons_zero, List.set_cons_succ]
      refine wpAnyH_ready (rs := [3, 8]) (by kernel_rfl) (by simp) ?_
      refine AllReadyH.cons rfl (fun K hK => ?_) (AllReadyH.cons rfl (fun K hK => ?_) AllReadyH.nil)
      · try dsimp only at hHeld
        go_split_ands
        go_simp
        refine (toMail_K m pm _ (mailK_below HAm.out S5.out.below (Nat.le_refl _)) HZm.out).mono ?_
        rintro e w4 ⟨p9, rfl, hf, hk⟩
        have HFp9 : Seal _ := ⟨hf⟩
        have S6 : Seal (Pt w w4 [mailKR m p9, rulesKR xs p8, [Res.cells (w.heap.size) (mailKL m pm)]]) := ⟨S5.out.join hk⟩
        clear hk hf
        refine hK.out _ _ ⟨(S6.out.cellsM 2 rfl).c 0 _ rfl, (S6.out.cellsM 2 rfl).c 1 _ rfl, (S6.out.cellsM 2 rfl).c 2 _ rfl, (S6.out.cellsM 2 rfl).c 3 _ rfl⟩ (fun hHeld => ?_)
        clear hK K
        try simp only [Act.put, List.getElem_toArray, List.getElem_cons_succ, List.getElem_cons_zero, List.setIfInBounds_toArray, List.set_cons_zero, List.set_cons_succ]
        refine wpAnyH_ready (rs := [4, 8]) (by kernel_rfl) (by simp) ?_
        refine AllReadyH.cons rfl (fun K hK => ?_) (AllReadyH.cons rfl (fun K hK => ?_) AllReadyH.nil)
        · try dsimp only at hHeld
          go_split_ands
          go_simp
          refine (CS.out _ _ p8 p9 1 0 S6.out rfl rfl HFp8.out HFp9.out).mono ?_
          rintro e w5 ⟨q10, rfl, hfq10, hk⟩
          have HFq10 : Seal _ := ⟨hfq10⟩
          have S7 : Seal (Pt w w5 [mailKR D q10, mailKR m p9, rulesKR xs p8, [Res.cells (w.heap.size) (mailKL m pm)]]) := ⟨S6.out.join hk⟩
          clear hk hfq10
          refine hK.out _ _ ⟨(S7.out.cellsM 3 rfl).c 0 _ rfl, (S7.out.cellsM 3 rfl).c 1 _ rfl, (S7.out.cellsM 3 rfl).c 2 _ rfl, (S7.out.cellsM 3 rfl).c 3 _ rfl⟩ (fun hHeld => ?_)
          clear hK K
          try simp only [Act.put, List.getElem_toArray, List.getElem_cons_succ, List.getElem_cons_zero, List.setIfInBounds_toArray, List.set_cons_zero, List.set_cons_succ]
          (refine wpAnyH_take (i := 5) (v := ?_) rfl (by kernel_rfl) (by kernel_rfl) (by kernel_rfl) (fun _ _ _ h => h) (Or.inl ⟨by rfl, ?_⟩) (by assumption) ?_; rotate_left; (intro w hSw; (try dsimp only at hSw); go_split_ands; go_simp; first | done | with_reducible rfl); rotate_left; simp only [Act.put, List.getElem_toArray, List.getElem_cons_succ, List.getElem_cons_zero, List.setIfInBounds_toArray, List.set_cons_succ, List.set_cons_zero])
          (refine wpAnyH_take (i := 6) (v := ?_) rfl (by kernel_rfl) (by kernel_rfl) (by kernel_rfl) (fun _ _ _ h => h) (Or.inl ⟨by rfl, ?_⟩) (by assumption) ?_; rotate_left; (intro w hSw; (try dsimp only at hSw); go_split_ands; go_simp; first | done | with_reducible rfl); rotate_left; simp only [Act.put, List.getElem_toArray, List.getElem_cons_succ, List.getElem_cons_zero, List.setIfInBounds_toArray, List.set_cons_succ, List.set_cons_zero])
          (refine wpAnyH_take (i := 7) (v := ?_) rfl (by kernel_rfl) (by kernel_rfl) (by kernel_rfl) (fun _ _ _ h => h) (Or.inl ⟨by rfl, ?_⟩) (by assumption) ?_; rotate_left; (intro w hSw; (try dsimp only at hSw); go_split_ands; go_simp; first | done | with_reducible rfl); rotate_left; simp only [Act.put, List.getElem_toArray, List.getElem_cons_succ, List.getElem_cons_zero, List.setIfInBounds_toArray, List.set_cons_succ, List.set_cons_zero])
          refine wpAnyH_ready (rs := [8]) (by kernel_rfl) (by simp) ?_
          refine AllReadyH.cons rfl (fun K hK => ?_) AllReadyH.nil
          have S8 : Seal (Pt w (w5.alloc (.cells #[.string { data := #[] }, .string { data := #[] }, .slice none 0 0, .slice none 0 0] 34)) [[Res.cells w5.heap.size ((#[.string { data := #[] }, .string { data := #[] }, .slice none 0 0, .slice none 0 0] : Array Value).toList)], mailKR D q10, mailKR m p9, rulesKR xs p8, [Res.cells (w.heap.size) (mailKL m pm)]]) := ⟨S7.out.alloc #[.string { data := #[] }, .string { data := #[] }, .slice none 0 0, .slice none 0 0] 34⟩
          go_simp
          refine hK.out _ _ ⟨(S8.out.cellsM 4 rfl).c 0 _ rfl, (S8.out.cellsM 4 rfl).c 1 _ rfl, (S8.out.cellsM 4 rfl).c 2 _ rfl, (S8.out.cellsM 4 rfl).c 3 _ rfl⟩ (fun hHeld => ?_)
          clear hK K
          try simp only [Act.put, List.getElem_toArray, List.getElem_cons_succ, List.getElem_cons_zero, List.setIfInBounds_toArray, List.set_cons_zero, List.set_cons_succ]
          refine wpAnyH_ready (rs := [9]) (by kernel_rfl) (by simp) ?_
          refine AllReadyH.cons rfl (fun K hK => ?_) AllReadyH.nil
          have oc0 := (S8.out.cellsM 0 rfl).c 0 _ rfl
          have of0 := (S8.out.cellsM 0 rfl).f 0 (by simp)
          have oc1 := (S8.out.cellsM 0 rfl).c 1 _ rfl
          have of1 := (S8.out.cellsM 0 rfl).f 1 (by simp)
          have oc2 := (S8.out.cellsM 0 rfl).c 2 _ rfl
          have of2 := (S8.out.cellsM 0 rfl).f 2 (by simp)
          have oc3 := (S8.out.cellsM 0 rfl).c 3 _ rfl
          have of3 := (S8.out.cellsM 0 rfl).f 3 (by simp)
          have SB9 : Seal (Pt w (((((w5.alloc (.cells #[.string { data := #[] }, .string { data := #[] }, .slice none 0 0, .slice none 0 0] 34)).setCell ⟨w5.heap.size, 0, none⟩ (.string D.fu)).setCell ⟨w5.heap.size, 1, none⟩ (.string D.fd)).setCell ⟨w5.heap.size, 2, none⟩ (.slice q10.a1 D.rc.length q10.c1)).setCell ⟨w5.heap.size, 3, none⟩ (.slice q10.a2 D.body.length q10.c2)) [[Res.cells w5.heap.size (mailKL D q10)], mailKR D q10, mailKR m p9, rulesKR xs p8, [Res.cells (w.heap.size) (mailKL m pm)]]) := ⟨((((S8.out).set 0 (.string D.fu) (by simp)).set 1 (.string D.fd) (by simp)).set 2 (.slice q10.a1 D.rc.length q10.c1) (by simp)).set 3 (.slice q10.a2 D.body.length q10.c2) (by simp)⟩
          have SA9 : Seal (Pt w (w5.alloc (.cells (mailKV D q10) 34)) [[Res.cells w5.heap.size (mailKL D q10)], mailKR D q10, mailKR m p9, rulesKR xs p8, [Res.cells (w.heap.size) (mailKL m pm)]]) := ⟨S7.out.alloc (mailKV D q10) 34⟩
          go_simp
          refine hK.out _ _ (by first | exact ⟨(SA9.out.cellsM 4 rfl).c 0 _ rfl, (SA9.out.cellsM 4 rfl).c 1 _ rfl, (SA9.out.cellsM 4 rfl).c 2 _ rfl, (SA9.out.cellsM 4 rfl).c 3 _ rfl⟩ | exact ⟨(SB9.out.cellsM 4 rfl).c 0 _ rfl, (SB9.out.cellsM 4 rfl).c 1 _ rfl, (SB9.out.cellsM 4 rfl).c 2 _ rfl, (SB9.out.cellsM 4 rfl).c 3 _ rfl⟩) (fun hHeld => ?_)
          clear hK K
          try simp only [Act.put, List.getElem_toArray, List.getElem_cons_succ, List.getElem_cons_zero, List.setIfInBounds_toArray, List.set_cons_zero, List.set_cons_succ]
          clear oc0 of0 oc1 of1 oc2 of2 oc3 of3
          refine wpAnyH_ready (rs := [10]) (by kernel_rfl) (by simp) ?_
          refine AllReadyH.cons rfl (fun K hK => ?_) AllReadyH.nil
          go_simp
          refine hK.out _ _ (by assumption) (fun hHeld => ?_)
          clear hK K
          try simp only [Act.put, List.getElem_toArray, List.getElem_cons_succ, List.getElem_cons_zero, List.setIfInBounds_toArray, List.set_cons_zero, List.set_cons_succ]
          refine wpAnyH_done (by kernel_rfl) ?_ _
          go_wp2_with fail
          go_meet
          exact ⟨w5.heap.size, q10, rfl, rfl, HFq10.out, by first | exact (Pt.prefix (As := [[Res.cells w5.heap.size (mailKL D q10)], mailKR D q10, [Res.cells (w.heap.size) (mailKL m pm)]]) (Bs := [mailKR m p9, rulesKR xs p8]) (Pt.bring ((Pt.bring ((Pt.bring (SA9.out) 4 rfl)) 2 rfl)) 2 rfl)) | exact (Pt.prefix (As := [[Res.cells w5.heap.size (mailKL D q10)], mailKR D q10, [Res.cells (w.heap.size) (mailKL m pm)]]) (Bs := [mailKR m p9, rulesKR xs p8]) (Pt.bring ((Pt.bring ((Pt.bring (SB9.out) 4 rfl)) 2 rfl)) 2 rfl))⟩
        · have S7 : Seal (Pt w (w4.alloc (.cells #[.string { data := #[] }, .string { data := #[] }, .slice none 0 0, .slice none 0 0] 34)) [[Res.cells w4.heap.size ((#[.string { data := #[] }, .string { data := #[] }, .slice none 0 0, .slice none 0 0] : Array Value).toList)], mailKR m p9, rulesKR xs p8, [Res.cells (w.heap.size) (mailKL m pm)]]) := ⟨S6.out.alloc #[.string { data := #[] }, .string { data := #[] }, .slice none 0 0, .slice none 0 0] 34⟩
          go_simp
          refine hK.out _ _ ⟨(S7.out.cellsM 3 rfl).c 0 _ rfl, (S7.out.cellsM 3 rfl).c 1 _ rfl, (S7.out.cellsM 3 rfl).c 2 _ rfl, (S7.out.cellsM 3 rfl).c 3 _ rfl⟩ (fun hHeld => ?_)
          clear hK K
          try simp only [Act.put, List.getElem_toArray, List.getElem_cons_succ, List.getElem_cons_zero, List.setIfInBounds_toArray, List.set_cons_zero, List.set_cons_succ]
          refine wpAnyH_ready (rs := [4]) (by kernel_rfl) (by simp) ?_
          refine AllReadyH.cons rfl (fun K hK => ?_) AllReadyH.nil
          try dsimp only at hHeld
          go_split_ands
          go_simp
          refine (CS.out _ _ p8 p9 2 1 S7.out rfl rfl HFp8.out HFp9.out).mono ?_
          rintro e w6 ⟨q11, rfl, hfq11, hk⟩
          have HFq11 : Seal _ := ⟨hfq11⟩
          have S8 : Seal (Pt w w6 [mailKR D q11, [Res.cells w4.heap.size ((#[.string { data := #[] }, .string { data := #[] }, .slice none 0 0, .slice none 0 0] : Array Value).toList)], mailKR m p9, rulesKR xs p8, [Res.cells (w.heap.size) (mailKL m pm)]]) := ⟨S7.out.join hk⟩
          clear hk hfq11
          refine hK.out _ _ ⟨(S8.out.cellsM 4 rfl).c 0 _ rfl, (S8.out.cellsM 4 rfl).c 1 _ rfl, (S8.out.cellsM 4 rfl).c 2 _ rfl, (S8.out.cellsM 4 rfl).c 3 _ rfl⟩ (fun hHeld => ?_)
          clear hK K
          try simp only [Act.put, List.getElem_toArray, List.getElem_cons_succ, List.getElem_cons_zero, List.setIfInBounds_toArray, List.set_cons_zero, List.set_cons_succ]
          (refine wpAnyH_take (i := 5) (v := ?_) rfl (by kernel_rfl) (by kernel_rfl) (by kernel_rfl) (fun _ _ _ h => h) (Or.inl ⟨by rfl, ?_⟩) (by assumption) ?_; rotate_left; (intro w hSw; (try dsimp only at hSw); go_split_ands; go_simp; first | done | with_reducible rfl); rotate_left; simp only [Act.put, List.getElem_toArray, List.getElem_cons_succ, List.getElem_cons_zero, List.setIfInBounds_toArray, List.set_cons_succ, List.set_cons_zero])
          (refine wpAnyH_take (i := 6) (v := ?_) rfl (by kernel_rfl) (by kernel_rfl) (by kernel_rfl) (fun _ _ _ h => h) (Or.inl ⟨by rfl, ?_⟩) (by assumption) ?_; rotate_left; (intro w hSw; (try dsimp only at hSw); go_split_ands; go_simp; first | done | with_reducible rfl); rotate_left; simp only [Act.put, List.getElem_toArray, List.getElem_cons_succ, List.getElem_cons_zero, List.setIfInBounds_toArray, List.set_cons_succ, List.set_cons_zero])
          (refine wpAnyH_take (i := 7) (v := ?_) rfl (by kernel_rfl) (by kernel_rfl) (by kernel_rfl) (fun _ _ _ h => h) (Or.inl ⟨by rfl, ?_⟩) (by assumption) ?_; rotate_left; (intro w hSw; (try dsimp only at hSw); go_split_ands; go_simp; first | done | with_reducible rfl); rotate_left; simp only [Act.put, List.getElem_toArray, List.getElem_cons_succ, List.getElem_cons_zero, List.setIfInBounds_toArray, List.set_cons_succ, List.set_cons_zero])
          refine wpAnyH_ready (rs := [9]) (by kernel_rfl) (by simp) ?_
          refine AllReadyH.cons rfl (fun K hK => ?_) AllReadyH.nil
          have S9 : Seal (Pt w w6 [[Res.cells w4.heap.size ((#[.string { data := #[] }, .string { data := #[] }, .slice none 0 0, .slice none 0 0] : Array Value).toList)], mailKR D q11, mailKR m p9, rulesKR xs p8, [Res.cells (w.heap.size) (mailKL m pm)]]) := ⟨S8.out.bring 1 rfl⟩
          have oc0 := (S9.out.cellsM 0 rfl).c 0 _ rfl
          have of0 := (S9.out.cellsM 0 rfl).f 0 (by simp)
          have oc1 := (S9.out.cellsM 0 rfl).c 1 _ rfl
          have of1 := (S9.out.cellsM 0 rfl).f 1 (by simp)
          have oc2 := (S9.out.cellsM 0 rfl).c 2 _ rfl
          have of2 := (S9.out.cellsM 0 rfl).f 2 (by simp)
          have oc3 := (S9.out.cellsM 0 rfl).c 3 _ rfl
          have of3 := (S9.out.cellsM 0 rfl).f 3 (by simp)
          have S10 : Seal (Pt w ((((w6.setCell ⟨w4.heap.size, 0, none⟩ (.string D.fu)).setCell ⟨w4.heap.size, 1, none⟩ (.string D.fd)).setCell ⟨w4.heap.size, 2, none⟩ (.slice q11.a1 D.rc.length q11.c1)).setCell ⟨w4.heap.size, 3, none⟩ (.slice q11.a2 D.body.length q11.c2)) [[Res.cells w4.heap.size (mailKL D q11)], mailKR D q11, mailKR m p9, rulesKR xs p8, [Res.cells (w.heap.size) (mailKL m pm)]]) := ⟨((((S9.out).set 0 (.string D.fu) (by simp)).set 1 (.string D.fd) (by simp)).set 2 (.slice q11.a1 D.rc.length q11.c1) (by simp)).set 3 (.slice q11.a2 D.body.length q11.c2) (by simp)⟩
          go_simp
          refine hK.out _ _ ⟨(S10.out.cellsM 4 rfl).c 0 _ rfl, (S10.out.cellsM 4 rfl).c 1 _ rfl, (S10.out.cellsM 4 rfl).c 2 _ rfl, (S10.out.cellsM 4 rfl).c 3 _ rfl⟩ (fun hHeld => ?_)
          clear hK K
          try simp only [Act.put, List.getElem_toArray, List.getElem_cons_succ, List.getElem_cons_zero, List.setIfInBounds_toArray, List.set_cons_zero, List.set_cons_succ]
          clear oc0 of0 oc1 of1 oc2 of2 oc3 of3
          refine wpAnyH_ready (rs := [10]) (by kernel_rfl) (by simp) ?_
          refine AllReadyH.cons rfl (fun K hK => ?_) AllReadyH.nil
          go_simp
          refine hK.out _ _ (by assumption) (fun hHeld => ?_)
          clear hK K
          try simp only [Act.put, List.getElem_toArray, List.getElem_cons_succ, List.getElem_cons_zero, List.setIfInBounds_toArray, List.set_cons_zero, List.set_cons_succ]
          refine wpAnyH_done (by kernel_rfl) ?_ _
          go_wp2_with fail
          go_meet
          exact ⟨w4.heap.size, q11, rfl, rfl, HFq11.out, by first | exact (Pt.prefix (As := [[Res.cells w4.heap.size (mailKL D q11)], mailKR D q11, [Res.cells (w.heap.size) (mailKL m pm)]]) (Bs := [mailKR m p9, rulesKR xs p8]) (Pt.bring ((Pt.bring ((Pt.bring (S10.out) 4 rfl)) 2 rfl)) 2 rfl))⟩
      · have S6 : Seal (Pt w (w3.alloc (.cells #[.string { data := #[] }, .string { data := #[] }, .slice none 0 0, .slice none 0 0] 34)) [[Res.cells w3.heap.size ((#[.string { data := #[] }, .string { data := #[] }, .slice none 0 0, .slice none 0 0] : Array Value).toList)], rulesKR xs p8, [Res.cells (w.heap.size) (mailKL m pm)]]) := ⟨S5.out.alloc #[.string { data := #[] }, .string { data := #[] }, .slice none 0 0, .slice none 0 0] 34⟩
        go_simp
        refine hK.out _ _ ⟨(S6.out.cellsM 2 rfl).c 0 _ rfl, (S6.out.cellsM 2 rfl).c 1 _ rfl, (S6.out.cellsM 2 rfl).c 2 _ rfl, (S6.out.cellsM 2 rfl).c 3 _ rfl⟩ (fun hHeld => ?_)
        clear hK K
        try simp only [Act.put, List.getElem_toArray, List.getElem_cons_succ, List.getElem_cons_zero, List.setIfInBounds_toArray, List.set_cons_zero, List.set_cons_succ]
        refine wpAnyH_ready (rs := [3]) (by kernel_rfl) (by simp) ?_
        refine AllReadyH.cons rfl (fun K hK => ?_) AllReadyH.nil
        try dsimp only at hHeld
        go_split_ands
        go_simp
        refine (toMail_K m pm _ (mailK_below HAm.out S6.out.below (Nat.le_refl _)) HZm.out).mono ?_
        rintro e w7 ⟨p12, rfl, hf, hk⟩
        have HFp12 : Seal _ := ⟨hf⟩
        have S7 : Seal (Pt w w7 [mailKR m p12, [Res.cells w3.heap.size ((#[.string { data := #[] }, .string { data := #[] }, .slice none 0 0, .slice none 0 0] : Array Value).toList)], rulesKR xs p8, [Res.cells (w.heap.size) (mailKL m pm)]]) := ⟨S6.out.join hk⟩
        clear hk hf
        refine hK.out _ _ ⟨(S7.out.cellsM 3 rfl).c 0 _ rfl, (S7.out.cellsM 3 rfl).c 1 _ rfl, (S7.out.cellsM 3 rfl).c 2 _ rfl, (S7.out.cellsM 3 rfl).c 3 _ rfl⟩ (fun hHeld => ?_)
        clear hK K
        try simp only [Act.put, List.getElem_toArray, List.getElem_cons_succ, List.getElem_cons_zero, List.setIfInBounds_toArray, List.set_cons_zero, List.set_cons_succ]
        refine wpAnyH_ready (rs := [4]) (by kernel_rfl) (by simp) ?_
        refine AllReadyH.cons rfl (fun K hK => ?_) AllReadyH.nil
        try dsimp only at hHeld
        go_split_ands
        go_simp
        refine (CS.out _ _ p8 p12 2 0 S7.out rfl rfl HFp8.out HFp12.out).mono ?_
        rintro e w8 ⟨q13, rfl, hfq13, hk⟩
        have HFq13 : Seal _ := ⟨hfq13⟩
        have S8 : Seal (Pt w w8 [mailKR D q13, mailKR m p12, [Res.cells w3.heap.size ((#[.string { data := #[] }, .string { data := #[] }, .slice none 0 0, .slice none 0 0] : Array Value).toList)], rulesKR xs p8, [Res.cells (w.heap.size) (mailKL m pm)]]) := ⟨S7.out.join hk⟩
        clear hk hfq13
        refine hK.out _ _ ⟨(S8.out.cellsM 4 rfl).c 0 _ rfl, (S8.out.cellsM 4 rfl).c 1 _ rfl, (S8.out.cellsM 4 rfl).c 2 _ rfl, (S8.out.cellsM 4 rfl).c 3 _ rfl⟩ (fun hHeld => ?_)
        clear hK K
        try simp only [Act.put, List.getElem_toArray, List.getElem_cons_succ, List.getElem_cons_zero, List.setIfInBounds_toArray, List.set_cons_zero, List.set_cons_succ]
        (refine wpAnyH_take (i := 5) (v := ?_) rfl (by kernel_rfl) (by kernel_rfl) (by kernel_rfl) (fun _ _ _ h => h) (Or.inl ⟨by rfl, ?_⟩) (by assumption) ?_; rotate_left; (intro w hSw; (try dsimp only at hSw); go_split_ands; go_simp; first | done | with_reducible rfl); rotate_left; simp only [Act.put, List.getElem_toArray, List.getElem_cons_succ, List.getElem_cons_zero, List.setIfInBounds_toArray, List.set_cons_succ, List.set_cons_zero])
        (refine wpAnyH_take (i := 6) (v := ?_) rfl (by kernel_rfl) (by kernel_rfl) (by kernel_rfl) (fun _ _ _ h => h) (Or.inl ⟨by rfl, ?_⟩) (by assumption) ?_; rotate_left; (intro w hSw; (try dsimp only at hSw); go_split_ands; go_simp; first | done | with_reducible rfl); rotate_left; simp only [Act.put, List.getElem_toArray, List.getElem_cons_succ, List.getElem_cons_zero, List.setIfInBounds_toArray, List.set_cons_succ, List.set_cons_zero])
        (refine wpAnyH_take (i := 7) (v := ?_) rfl (by kernel_rfl) (by kernel_rfl) (by kernel_rfl) (fun _ _ _ h => h) (Or.inl ⟨by rfl, ?_⟩) (by assumption) ?_; rotate_left; (intro w hSw; (try dsimp only at hSw); go_split_ands; go_simp; first | done | with_reducible rfl); rotate_left; simp only [Act.put, List.getElem_toArray, List.getElem_cons_succ, List.getElem_cons_zero, List.setIfInBounds_toArray, List.set_cons_succ, List.set_cons_zero])
        refine wpAnyH_ready (rs := [9]) (by kernel_rfl) (by simp) ?_
        refine AllReadyH.cons rfl (fun K hK => ?_) AllReadyH.nil
        have S9 : Seal (Pt w w8 [[Res.cells w3.heap.size ((#[.string { data := #[] }, .string { data := #[] }, .slice none 0 0, .slice none 0 0] : Array Value).toList)], mailKR D q13, mailKR m p12, rulesKR xs p8, [Res.cells (w.heap.size) (mailKL m pm)]]) := ⟨S8.out.bring 2 rfl⟩
        have oc0 := (S9.out.cellsM 0 rfl).c 0 _ rfl
        have of0 := (S9.out.cellsM 0 rfl).f 0 (by simp)
        have oc1 := (S9.out.cellsM 0 rfl).c 1 _ rfl
        have of1 := (S9.out.cellsM 0 rfl).f 1 (by simp)
        have oc2 := (S9.out.cellsM 0 rfl).c 2 _ rfl
        have of2 := (S9.out.cellsM 0 rfl).f 2 (by simp)
        have oc3 := (S9.out.cellsM 0 rfl).c 3 _ rfl
        have of3 := (S9.out.cellsM 0 rfl).f 3 (by simp)
        have S10 : Seal (Pt w ((((w8.setCell ⟨w3.heap.size, 0, none⟩ (.string D.fu)).setCell ⟨w3.heap.size, 1, none⟩ (.string D.fd)).setCell ⟨w3.heap.size, 2, none⟩ (.slice q13.a1 D.rc.length q13.c1)).setCell ⟨w3.heap.size, 3, none⟩ (.slice q13.a2 D.body.length q13.c2)) [[Res.cells w3.heap.size (mailKL D q13)], mailKR D q13, mailKR m p12, rulesKR xs p8, [Res.cells (w.heap.size) (mailKL m pm)]]) := ⟨((((S9.out).set 0 (.string D.fu) (by simp)).set 1 (.string D.fd) (by simp)).set 2 (.slice q13.a1 D.rc.length q13.c1) (by simp)).set 3 (.slice q13.a2 D.body.length q13.c2) (by simp)⟩
        go_simp
        refine hK.out _ _ ⟨(S10.out.cellsM 4 rfl).c 0 _ rfl, (S10.out.cellsM 4 rfl).c 1 _ rfl, (S10.out.cellsM 4 rfl).c 2 _ rfl, (S10.out.cellsM 4 rfl).c 3 _ rfl⟩ (fun hHeld => ?_)
        clear hK K
        try simp only [Act.put, List.getElem_toArray, List.getElem_cons_succ, List.getElem_cons_zero, List.setIfInBounds_toArray, List.set_cons_zero, List.set_cons_succ]
        clear oc0 of0 oc1 of1 oc2 of2 oc3 of3
        refine wpAnyH_ready (rs := [10]) (by kernel_rfl) (by simp) ?_
        refine AllReadyH.cons rfl (fun K hK => ?_) AllReadyH.nil
        go_simp
        refine hK.out _ _ (by assumption) (fun hHeld => ?_)
        clear hK K
        try simp only [Act.put, List.getElem_toArray, List.getElem_cons_succ, List.getElem_cons_zero, List.setIfInBounds_toArray, List.set_cons_zero, List.set_cons_succ]
        refine wpAnyH_done (by kernel_rfl) ?_ _
        go_wp2_with fail
        go_meet
        exact ⟨w3.heap.size, q13, rfl, rfl, HFq13.out, by first | exact (Pt.prefix (As := [[Res.cells w3.heap.size (mailKL D q13)], mailKR D q13, [Res.cells (w.heap.size) (mailKL m pm)]]) (Bs := [mailKR m p12, rulesKR xs p8]) (Pt.bring ((Pt.bring ((Pt.bring (S10.out) 4 rfl)) 2 rfl)) 2 rfl))⟩
    · have S5 : Seal (Pt w (w2.drew.alloc (.cells #[.string { data := #[] }, .string { data := #[] }, .slice none 0 0, .slice none 0 0] 34)) [[Res.cells w2.heap.size ((#[.string { data := #[] }, .string { data := #[] }, .slice none 0 0, .slice none 0 0] : Array Value).toList)], [Res.cells (w.heap.size) (mailKL m pm)]]) := ⟨S4.out.alloc #[.string { data := #[] }, .string { data := #[] }, .slice none 0 0, .slice none 0 0] 34⟩
      go_simp
      refine hK.out _ _ ⟨(S5.out.cellsM 1 rfl).c 0 _ rfl, (S5.out.cellsM 1 rfl).c 1 _ rfl, (S5.out.cellsM 1 rfl).c 2 _ rfl, (S5.out.cellsM 1 rfl).c 3 _ rfl⟩ (fun hHeld => ?_)
      clear hK K
      try simp only [Act.put, List.getElem_toArray, List.getElem_cons_succ, List.getElem_cons_zero, List.setIfInBounds_toArray, List.set_cons_zero, List.set_cons_succ]
      refine wpAnyH_ready (rs := [1]) (by kernel_rfl) (by simp) ?_
      refine AllReadyH.cons rfl (fun K hK => ?_) AllReadyH.nil
      try dsimp only at hHeld
      go_split_ands
      go_simp
      refine (toRuleS_K xs pxs _ (rulesK_below HAxs.out S5.out.below (Nat.le_refl _)) HZxs.out).mono ?_
      rintro e w9 ⟨p14, rfl, hf, hk⟩
      have HFp14 : Seal _ := ⟨hf⟩
      have S6 : Seal (Pt w w9 [rulesKR xs p14, [Res.cells w2.heap.size ((#[.string { data := #[] }, .string { data := #[] }, .slice none 0 0, .slice none 0 0] : Array Value).toList)], [Res.cells (w.heap.size) (mailKL m pm)]]) := ⟨S5.out.join hk⟩
      clear hk hf
      refine hK.out _ _ ⟨(S6.out.cellsM 2 rfl).c 0 _ rfl, (S6.out.cellsM 2 rfl).c 1 _ rfl, (S6.out.cellsM 2 rfl).c 2 _ rfl, (S6.out.cellsM 2 rfl).c 3 _ rfl⟩ (fun hHeld => ?_)
      clear hK K
      try simp only [Act.put, List.getElem_toArray, List.getElem_cons_succ, List.getElem_cons_zero, List.setIfInBounds_toArray, List.set_cons_zero, List.set_cons_succ]
      refine wpAnyH_ready (rs := [3]) (by kernel_rfl) (by simp) ?_
      refine AllReadyH.cons rfl (fun K hK => ?_) AllReadyH.nil
      try dsimp only at hHeld
      go_split_ands
      go_simp
      refine (toMail_K m pm _ (mailK_below HAm.out S6.out.below (Nat.le_refl _)) HZm.out).mono ?_
      rintro e w10 ⟨p15, rfl, hf, hk⟩
      have HFp15 : Seal _ := ⟨hf⟩
      have S7 : Seal (Pt w w10 [mailKR m p15, rulesKR xs p14, [Res.cells w2.heap.size ((#[.string { data := #[] }, .string { data := #[] }, .slice none 0 0, .slice none 0 0] : Array Value).toList)], [Res.cells (w.heap.size) (mailKL m pm)]]) := ⟨S6.out.join hk⟩
      clear hk hf
      refine hK.out _ _ ⟨(S7.out.cellsM 3 rfl).c 0 _ rfl, (S7.out.cellsM 3 rfl).c 1 _ rfl, (S7.out.cellsM 3 rfl).c 2 _ rfl, (S7.out.cellsM 3 rfl).c 3 _ rfl⟩ (fun hHeld => ?_)
      clear hK K
      try simp only [Act.put, List.getElem_toArray, List.getElem_cons_succ, List.getElem_cons_zero, List.setIfInBounds_toArray, List.set_cons_zero, List.set_cons_succ]
      refine wpAnyH_ready (rs := [4]) (by kernel_rfl) (by simp) ?_
      refine AllReadyH.cons rfl (fun K hK => ?_) AllReadyH.nil
      try dsimp only at hHeld
      go_split_ands
      go_simp
      refine (CS.out _ _ p14 p15 1 0 S7.out rfl rfl HFp14.out HFp15.out).mono ?_
      rintro e w11 ⟨q16, rfl, hfq16, hk⟩
      have HFq16 : Seal _ := ⟨hfq16⟩
      have S8 : Seal (Pt w w11 [mailKR D q16, mailKR m p15, rulesKR xs p14, [Res.cells w2.heap.size ((#[.string { data := #[] }, .string { data := #[] }, .slice none 0 0, .slice none 0 0] : Array Value).toList)], [Res.cells (w.heap.size) (mailKL m pm)]]) := ⟨S7.out.join hk⟩
      clear hk hfq16
      refine hK.out _ _ ⟨(S8.out.cellsM 4 rfl).c 0 _ rfl, (S8.out.cellsM 4 rfl).c 1 _ rfl, (S8.out.cellsM 4 rfl).c 2 _ rfl, (S8.out.cellsM 4 rfl).c 3 _ rfl⟩ (fun hHeld => ?_)
      clear hK K
      try simp only [Act.put, List.getElem_toArray, List.getElem_cons_succ, List.getElem_cons_zero, List.setIfInBounds_toArray, List.set_cons_zero, List.set_cons_succ]
      (refine wpAnyH_take (i := 5) (v := ?_) rfl (by kernel_rfl) (by kernel_rfl) (by kernel_rfl) (fun _ _ _ h => h) (Or.inl ⟨by rfl, ?_⟩) (by assumption) ?_; rotate_left; (intro w hSw; (try dsimp only at hSw); go_split_ands; go_simp; first | done | with_reducible rfl); rotate_left; simp only [Act.put, List.getElem_toArray, List.getElem_cons_succ, List.getElem_cons_zero, List.setIfInBounds_toArray, List.set_cons_succ, List.set_cons_zero])
      (refine wpAnyH_take (i := 6) (v := ?_) rfl (by kernel_rfl) (by kernel_rfl) (by kernel_rfl) (fun _ _ _ h => h) (Or.inl ⟨by rfl, ?_⟩) (by assumption) ?_; rotate_left; (intro w hSw; (try dsimp only at hSw); go_split_ands; go_simp; first | done | with_reducible rfl); rotate_left; simp only [Act.put, List.getElem_toArray, List.getElem_cons_succ, List.getElem_cons_zero, List.setIfInBounds_toArray, List.set_cons_succ, List.set_cons_zero])
      (refine wpAnyH_take (i := 7) (v := ?_) rfl (by kernel_rfl) (by kernel_rfl) (by kernel_rfl) (fun _ _ _ h => h) (Or.inl ⟨by rfl, ?_⟩) (by assumption) ?_; rotate_left; (intro w hSw; (try dsimp only at hSw); go_split_ands; go_simp; first | done | with_reducible rfl); rotate_left; simp only [Act.put, List.getElem_toArray, List.getElem_cons_succ, List.getElem_cons_zero, List.setIfInBounds_toArray, List.set_cons_succ, List.set_cons_zero])
      refine wpAnyH_ready (rs := [9]) (by kernel_rfl) (by simp) ?_
      refine AllReadyH.cons rfl (fun K hK => ?_) AllReadyH.nil
      have S9 : Seal (Pt w w11 [[Res.cells w2.heap.size ((#[.string { data := #[] }, .string { data := #[] }, .slice none 0 0, .slice none 0 0] : Array Value).toList)], mailKR D q16, mailKR m p15, rulesKR xs p14, [Res.cells (w.heap.size) (mailKL m pm)]]) := ⟨S8.out.bring 3 rfl⟩
      have oc0 := (S9.out.cellsM 0 rfl).c 0 _ rfl
      have of0 := (S9.out.cellsM 0 rfl).f 0 (by simp)
      have oc1 := (S9.out.cellsM 0 rfl).c 1 _ rfl
      have of1 := (S9.out.cellsM 0 rfl).f 1 (by simp)
      have oc2 := (S9.out.cellsM 0 rfl).c 2 _ rfl
      have of2 := (S9.out.cellsM 0 rfl).f 2 (by simp)
      have oc3 := (S9.out.cellsM 0 rfl).c 3 _ rfl
      have of3 := (S9.out.cellsM 0 rfl).f 3 (by simp)
      have S10 : Seal (Pt w ((((w11.setCell ⟨w2.heap.size, 0, none⟩ (.string D.fu)).setCell ⟨w2.heap.size, 1, none⟩ (.string D.fd)).setCell ⟨w2.heap.size, 2, none⟩ (.slice q16.a1 D.rc.length q16.c1)).setCell ⟨w2.heap.size, 3, none⟩ (.slice q16.a2 D.body.length q16.c2)) [[Res.cells w2.heap.size (mailKL D q16)], mailKR D q16, mailKR m p15, rulesKR xs p14, [Res.cells (w.heap.size) (mailKL m pm)]]) := ⟨((((S9.out).set 0 (.string D.fu) (by simp)).set 1 (.string D.fd) (by simp)).set 2 (.slice q16.a1 D.rc.length q16.c1) (by simp)).set 3 (.slice q16.a2 D.body.length q16.c2) (by simp)⟩
      go_simp
      refine hK.out _ _ ⟨(S10.out.cellsM 4 rfl).c 0 _ rfl, (S10.out.cellsM 4 rfl).c 1 _ rfl, (S10.out.cellsM 4 rfl).c 2 _ rfl, (S10.out.cellsM 4 rfl).c 3 _ rfl⟩ (fun hHeld => ?_)
      clear hK K
      try simp only [Act.put, List.getElem_toArray, List.getElem_cons_succ, List.getElem_cons_zero, List.setIfInBounds_toArray, List.set_cons_zero, List.set_cons_succ]
      clear oc0 of0 oc1 of1 oc2 of2 oc3 of3
      refine wpAnyH_ready (rs := [10]) (by kernel_rfl) (by simp) ?_
      refine AllReadyH.cons rfl (fun K hK => ?_) AllReadyH.nil
      go_simp
      refine hK.out _ _ (by assumption) (fun hHeld => ?_)
      clear hK K
      try simp only [Act.put, List.getElem_toArray, List.getElem_cons_succ, List.getElem_cons_zero, List.setIfInBounds_toArray, List.set_cons_zero, List.set_cons_succ]
      refine wpAnyH_done (by kernel_rfl) ?_ _
      go_wp2_with fail
      go_meet
      exact ⟨w2.heap.size, q16, rfl, rfl, HFq16.out, by first | exact (Pt.prefix (As := [[Res.cells w2.heap.size (mailKL D q16)], mailKR D q16, [Res.cells (w.heap.size) (mailKL m pm)]]) (Bs := [mailKR m p15, rulesKR xs p14]) (Pt.bring ((Pt.bring ((Pt.bring (S10.out) 4 rfl)) 2 rfl)) 2 rfl))⟩
  case rest =>
  obtain ⟨k6, q7, rfl, rfl, hf, hS⟩ := hcut
  have HFq7 : Seal _ := ⟨hf⟩
  have S4 : Seal (Pt w _ [[Res.cells k6 (mailKL D q7)], mailKR D q7, [Res.cells (w.heap.size) (mailKL m pm)]]) := ⟨hS⟩
  clear hf hS S3
  generalize wc = w12 at *
  go_wp2_with fail
  refine (toRuleS_K xs pxs _ (rulesK_below HAxs.out S4.out.below (Nat.le_refl _)) HZxs.out).mono ?_
  rintro e w13 ⟨p17, rfl, hf, hk⟩
  have HFp17 : Seal _ := ⟨hf⟩
  have S5 : Seal (Pt w w13 [rulesKR xs p17, [Res.cells k6 (mailKL D q7)], mailKR D q7, [Res.cells (w.heap.size) (mailKL m pm)]]) := ⟨S4.out.join hk⟩
  clear hk hf
  clear S4 
  have g18 := (S5.out.cellsM 3 rfl).c 0 _ rfl
  have g19 := (S5.out.cellsM 3 rfl).c 1 _ rfl
  have g20 := (S5.out.cellsM 3 rfl).c 2 _ rfl
  have g21 := (S5.out.cellsM 3 rfl).c 3 _ rfl
  have g22 := (S5.out.cellsM 3 rfl).lt
  go_wp2_with fail
  refine (toMail_K m pm _ (mailK_below HAm.out S5.out.below (Nat.le_refl _)) HZm.out).mono ?_
  rintro e w14 ⟨p23, rfl, hf, hk⟩
  have HFp23 : Seal _ := ⟨hf⟩
  have S6 : Seal (Pt w w14 [mailKR m p23, rulesKR xs p17, [Res.cells k6 (mailKL D q7)], mailKR D q7, [Res.cells (w.heap.size) (mailKL m pm)]]) := ⟨S5.out.join hk⟩
  clear hk hf
  clear S5 g18 g19 g20 g21 g22
  have S7 : Seal (Pt w (w14.alloc (.cells (mailKV m p23) 34)) [[Res.cells w14.heap.size (mailKL m p23)], mailKR m p23, rulesKR xs p17, [Res.cells k6 (mailKL D q7)], mailKR D q7, [Res.cells (w.heap.size) (mailKL m pm)]]) := ⟨S6.out.alloc (mailKV m p23) 34⟩
  clear S6
  have g24 := (S7.out.cellsM 0 rfl).c 0 _ rfl
  have g25 := (S7.out.cellsM 0 rfl).c 1 _ rfl
  have g26 := (S7.out.cellsM 0 rfl).c 2 _ rfl
  have g27 := (S7.out.cellsM 0 rfl).c 3 _ rfl
  have g28 := (S7.out.cellsM 0 rfl).lt
  go_wp2_with fail
  refine (CI.out _ _ (HM.out.below S7.out.below (Nat.le_refl _)) p17 p23 2 1 S7.out rfl rfl HFp17.out HFp23.out).mono ?_
  rintro e w15 ⟨q29, rfl, hfq29, hk⟩
  have HFq29 : Seal _ := ⟨hfq29⟩
  have S8 : Seal (Pt w w15 [mailKR D q29, [Res.cells w14.heap.size (mailKL m p23)], mailKR m p23, rulesKR xs p17, [Res.cells k6 (mailKL D q7)], mailKR D q7, [Res.cells (w.heap.size) (mailKL m pm)]]) := ⟨S7.out.join hk⟩
  clear hk hfq29
  clear S7 g24 g25 g26 g27 g28
  have S9 : Seal (Pt w (w15.alloc (.cells (mailKV D q29) 34)) [[Res.cells w15.heap.size (mailKL D q29)], mailKR D q29, [Res.cells w14.heap.size (mailKL m p23)], mailKR m p23, rulesKR xs p17, [Res.cells k6 (mailKL D q7)], mailKR D q7, [Res.cells (w.heap.size) (mailKL m pm)]]) := ⟨S8.out.alloc (mailKV D q29) 34⟩
  clear S8
  have g30 := (S9.out.cellsM 0 rfl).c 0 _ rfl
  have g31 := (S9.out.cellsM 0 rfl).c 1 _ rfl
  have g32 := (S9.out.cellsM 0 rfl).c 2 _ rfl
  have g33 := (S9.out.cellsM 0 rfl).c 3 _ rfl
  have g34 := (S9.out.cellsM 0 rfl).lt
  have g35 := (S9.out.cellsM 5 rfl).c 0 _ rfl
  have g36 := (S9.out.cellsM 5 rfl).c 1 _ rfl
  have g37 := (S9.out.cellsM 5 rfl).c 2 _ rfl
  have g38 := (S9.out.cellsM 5 rfl).c 3 _ rfl
  have g39 := (S9.out.cellsM 5 rfl).lt
  go_wp2_with fail
  refine (eqMail_K D q29 q7 _ (mailK_read HFq29.out (S9.out.nth 1 rfl)) (mailK_read HFq7.out (S9.out.nth 6 rfl)) HZD.out).mono ?_
  rintro e w16 ⟨rfl, hb⟩
  have S10 : Seal (Pt w w16 [[Res.cells w15.heap.size (mailKL D q29)], mailKR D q29, [Res.cells w14.heap.size (mailKL m p23)], mailKR m p23, rulesKR xs p17, [Res.cells k6 (mailKL D q7)], mailKR D q7, [Res.cells (w.heap.size) (mailKL m pm)]]) := ⟨S9.out.later hb⟩
  clear hb
  clear S9 g30 g31 g32 g33 g34 g35 g36 g37 g38 g39
  go_wp2_with fail
  refine (toRuleS_K xs pxs _ (rulesK_below HAxs.out S10.out.below (Nat.le_refl _)) HZxs.out).mono ?_
  rintro e w17 ⟨p40, rfl, hf, hk⟩
  have HFp40 : Seal _ := ⟨hf⟩
  have S11 : Seal (Pt w w17 [rulesKR xs p40, [Res.cells w15.heap.size (mailKL D q29)], mailKR D q29, [Res.cells w14.heap.size (mailKL m p23)], mailKR m p23, rulesKR xs p17, [Res.cells k6 (mailKL D q7)], mailKR D q7, [Res.cells (w.heap.size) (mailKL m pm)]]) := ⟨S10.out.join hk⟩
  clear hk hf
  clear S10 
  go_wp2_with fail
  refine (eqRuleS_K xs p17 p40 _ (rulesK_read HFp17.out (S11.out.nth 5 rfl)) (rulesK_read HFp40.out (S11.out.nth 0 rfl)) HZxs.out).mono ?_
  rintro e w18 ⟨rfl, hb⟩
  have S12 : Seal (Pt w w18 [rulesKR xs p40, [Res.cells w15.heap.size (mailKL D q29)], mailKR D q29, [Res.cells w14.heap.size (mailKL m p23)], mailKR m p23, rulesKR xs p17, [Res.cells k6 (mailKL D q7)], mailKR D q7, [Res.cells (w.heap.size) (mailKL m pm)]]) := ⟨S11.out.later hb⟩
  clear hb
  clear S11 
  go_upto_region 16 with fail
  refine wp_region_held_drew (S := (fun w' => w'.cell? ⟨w14.heap.size, 0, none⟩ = some (.string m.fu) ∧ w'.cell? ⟨w14.heap.size, 1, none⟩ = some (.string m.fd) ∧ w'.cell? ⟨w14.heap.size, 2, none⟩ = some (.slice p23.a1 m.rc.length p23.c1) ∧ w'.cell? ⟨w14.heap.size, 3, none⟩ = some (.slice p23.a2 m.body.length p23.c2) ∧ w'.cell? ⟨w.heap.size, 0, none⟩ = some (.string m.fu) ∧ w'.cell? ⟨w.heap.size, 1, none⟩ = some (.string m.fd) ∧ w'.cell? ⟨w.heap.size, 2, none⟩ = some (.slice pm.a1 m.rc.length pm.c1) ∧ w'.cell? ⟨w.heap.size, 3, none⟩ = some (.slice pm.a2 m.body.length pm.c2))) (by kernel_rfl) ⟨(S12.out.cellsM 3 rfl).c 0 _ rfl, (S12.out.cellsM 3 rfl).c 1 _ rfl, (S12.out.cellsM 3 rfl).c 2 _ rfl, (S12.out.cellsM 3 rfl).c 3 _ rfl, (S12.out.cellsM 8 rfl).c 0 _ rfl, (S12.out.cellsM 8 rfl).c 1 _ rfl, (S12.out.cellsM 8 rfl).c 2 _ rfl, (S12.out.cellsM 8 rfl).c 3 _ rfl⟩ (fun hHeld => ?_)
  have S13 : Seal (Pt w _ [rulesKR xs p40, [Res.cells w15.heap.size (mailKL D q29)], mailKR D q29, [Res.cells w14.heap.size (mailKL m p23)], mailKR m p23, rulesKR xs p17, [Res.cells k6 (mailKL D q7)], mailKR D q7, [Res.cells (w.heap.size) (mailKL m pm)]]) := ⟨S12.out.drew⟩
  (refine wpAnyH_take (i := 0) (v := ?_) rfl (by kernel_rfl) (by kernel_rfl) (by kernel_rfl) (fun _ _ _ h => h) (Or.inl ⟨by rfl, ?_⟩) (by assumption) ?_; rotate_left; (intro w hSw; (try dsimp only at hSw); go_split_ands; go_simp; first | done | with_reducible rfl); rotate_left; simp only [Act.put, List.getElem_toArray, List.getElem_cons_zero, List.setIfInBounds_toArray, List.set_cons_succ, List.set_cons_zero])
  (refine wpAnyH_take (i := 1) (v := ?_) rfl (by kernel_rfl) (by kernel_rfl) (by kernel_rfl) (fun _ _ _ h => h) (Or.inl ⟨by rfl, ?_⟩) (by assumption) ?_; rotate_left; (intro w hSw; (try dsimp only at hSw); go_split_ands; go_simp; first | done | with_reducible rfl); rotate_left; simp only [Act.put, List.getElem_toArray, List.getElem_cons_succ, List.getElem_cons_zero, List.setIfInBounds_toArray, List.set_cons_succ, List.set_cons_zero])
  refine wpAnyH_ready (rs := [2]) (by kernel_rfl) (by simp) ?_
  refine AllReadyH.cons rfl (fun K hK => ?_) AllReadyH.nil
  try dsimp only at hHeld
  go_split_ands
  go_simp
  refine (toMail_K m pm _ (mailK_below HAm.out S13.out.below (Nat.le_refl _)) HZm.out).mono ?_
  rintro e w19 ⟨p41, rfl, hf, hk⟩
  have HFp41 : Seal _ := ⟨hf⟩
  have S14 : Seal (Pt w w19 [mailKR m p41, rulesKR xs p40, [Res.cells w15.heap.size (mailKL D q29)], mailKR D q29, [Res.cells w14.heap.size (mailKL m p23)], mailKR m p23, rulesKR xs p17, [Res.cells k6 (mailKL D q7)], mailKR D q7, [Res.cells (w.heap.size) (mailKL m pm)]]) := ⟨S13.out.join hk⟩
  clear hk hf
  refine hK.out _ _ ⟨(S14.out.cellsM 4 rfl).c 0 _ rfl, (S14.out.cellsM 4 rfl).c 1 _ rfl, (S14.out.cellsM 4 rfl).c 2 _ rfl, (S14.out.cellsM 4 rfl).c 3 _ rfl, (S14.out.cellsM 9 rfl).c 0 _ rfl, (S14.out.cellsM 9 rfl).c 1 _ rfl, (S14.out.cellsM 9 rfl).c 2 _ rfl, (S14.out.cellsM 9 rfl).c 3 _ rfl⟩ (fun hHeld => ?_)
  clear hK K
  try simp only [Act.put, List.getElem_toArray, List.getElem_cons_succ, List.getElem_cons_zero, List.setIfInBounds_toArray, List.set_cons_zero, List.set_cons_succ]
  refine wpAnyH_ready (rs := [3]) (by kernel_rfl) (by simp) ?_
  refine AllReadyH.cons rfl (fun K hK => ?_) AllReadyH.nil
  try dsimp only at hHeld
  go_split_ands
  go_simp
  refine (eqMail_K m p23 p41 _ (mailK_read HFp23.out (S14.out.nth 5 rfl)) (mailK_read HFp41.out (S14.out.nth 0 rfl)) HZm.out).mono ?_
  rintro e w20 ⟨rfl, hb⟩
  have S15 : Seal (Pt w w20 [mailKR m p41, rulesKR xs p40, [Res.cells w15.heap.size (mailKL D q29)], mailKR D q29, [Res.cells w14.heap.size (mailKL m p23)], mailKR m p23, rulesKR xs p17, [Res.cells k6 (mailKL D q7)], mailKR D q7, [Res.cells (w.heap.size) (mailKL m pm)]]) := ⟨S14.out.later hb⟩
  clear hb
  refine hK.out _ _ ⟨(S15.out.cellsM 4 rfl).c 0 _ rfl, (S15.out.cellsM 4 rfl).c 1 _ rfl, (S15.out.cellsM 4 rfl).c 2 _ rfl, (S15.out.cellsM 4 rfl).c 3 _ rfl, (S15.out.cellsM 9 rfl).c 0 _ rfl, (S15.out.cellsM 9 rfl).c 1 _ rfl, (S15.out.cellsM 9 rfl).c 2 _ rfl, (S15.out.cellsM 9 rfl).c 3 _ rfl⟩ (fun hHeld => ?_)
  clear hK K
  try simp only [Act.put, List.getElem_toArray, List.getElem_cons_succ, List.getElem_cons_zero, List.setIfInBounds_toArray, List.set_cons_zero, List.set_cons_succ]
  (refine wpAnyH_take (i := 4) (v := ?_) rfl (by kernel_rfl) (by kernel_rfl) (by kernel_rfl) (fun _ _ _ h => h) (Or.inl ⟨by rfl, ?_⟩) (by assumption) ?_; rotate_left; (intro w hSw; (try dsimp only at hSw); go_split_ands; go_simp; first | done | with_reducible rfl); rotate_left; simp only [Act.put, List.getElem_toArray, List.getElem_cons_succ, List.getElem_cons_zero, List.setIfInBounds_toArray, List.set_cons_succ, List.set_cons_zero])
  refine wpAnyH_done (by kernel_rfl) ?_ _
  go_wp2_with fail
  refine (markRuleS_K 1 xs p17 _ (S15.out.bring 6 rfl) HFp17.out HZxs.out PN0.out).mono ?_
  rw [HN0.out]
  rintro e w21 ⟨rfl, hk⟩
  have S16 : Seal (Pt w w21 [mailKR m p41, rulesKR xs p40, [Res.cells w15.heap.size (mailKL D q29)], mailKR D q29, [Res.cells w14.heap.size (mailKL m p23)], mailKR m p23, [Res.cells k6 (mailKL D q7)], mailKR D q7, [Res.cells (w.heap.size) (mailKL m pm)]]) := ⟨Pt.tail hk⟩
  clear hk
  clear S15 
  have g42 := (S16.out.cellsM 4 rfl).c 0 _ rfl
  have g43 := (S16.out.cellsM 4 rfl).c 1 _ rfl
  have g44 := (S16.out.cellsM 4 rfl).c 2 _ rfl
  have g45 := (S16.out.cellsM 4 rfl).c 3 _ rfl
  have g46 := (S16.out.cellsM 4 rfl).lt
  go_wp2_with fail
  refine (markMail_K N0 m p23 _ (S16.out.bring 5 rfl) HFp23.out HZm.out PN1.out).mono ?_
  rw [HN1.out]
  rintro e w22 ⟨rfl, hk⟩
  have S17 : Seal (Pt w w22 [mailKR m p41, rulesKR xs p40, [Res.cells w15.heap.size (mailKL D q29)], mailKR D q29, [Res.cells w14.heap.size (mailKL m p23)], [Res.cells k6 (mailKL D q7)], mailKR D q7, [Res.cells (w.heap.size) (mailKL m pm)]]) := ⟨Pt.tail hk⟩
  clear hk
  clear S16 g42 g43 g44 g45 g46
  have g47 := (S17.out.cellsM 2 rfl).c 0 _ rfl
  have g48 := (S17.out.cellsM 2 rfl).c 1 _ rfl
  have g49 := (S17.out.cellsM 2 rfl).c 2 _ rfl
  have g50 := (S17.out.cellsM 2 rfl).c 3 _ rfl
  have g51 := (S17.out.cellsM 2 rfl).lt
  have g52 := (S17.out.cellsM 5 rfl).c 0 _ rfl
  have g53 := (S17.out.cellsM 5 rfl).c 1 _ rfl
  have g54 := (S17.out.cellsM 5 rfl).c 2 _ rfl
  have g55 := (S17.out.cellsM 5 rfl).c 3 _ rfl
  have g56 := (S17.out.cellsM 5 rfl).lt
  go_wp2_with fail
  refine (eqMail_K D q29 q7 _ (mailK_read HFq29.out (S17.out.nth 3 rfl)) (mailK_read HFq7.out (S17.out.nth 6 rfl)) HZD.out).mono ?_
  rintro e w23 ⟨rfl, hb⟩
  have S18 : Seal (Pt w w23 [mailKR m p41, rulesKR xs p40, [Res.cells w15.heap.size (mailKL D q29)], mailKR D q29, [Res.cells w14.heap.size (mailKL m p23)], [Res.cells k6 (mailKL D q7)], mailKR D q7, [Res.cells (w.heap.size) (mailKL m pm)]]) := ⟨S17.out.later hb⟩
  clear hb
  clear S17 g47 g48 g49 g50 g51 g52 g53 g54 g55 g56
  have g57 := (S18.out.cellsM 2 rfl).c 0 _ rfl
  have g58 := (S18.out.cellsM 2 rfl).c 1 _ rfl
  have g59 := (S18.out.cellsM 2 rfl).c 2 _ rfl
  have g60 := (S18.out.cellsM 2 rfl).c 3 _ rfl
  have g61 := (S18.out.cellsM 2 rfl).lt
  go_wp2_with fail
  refine (markMail_K 1 D q29 _ (S18.out.bring 3 rfl) HFq29.out HZD.out PN2.out).mono ?_
  rw [HN2.out]
  rintro e w24 ⟨rfl, hk⟩
  have S19 : Seal (Pt w w24 [mailKR (mailKmk 1 D) q29, mailKR m p41, rulesKR xs p40, [Res.cells w15.heap.size (mailKL D q29)], [Res.cells w14.heap.size (mailKL m p23)], [Res.cells k6 (mailKL D q7)], mailKR D q7, [Res.cells (w.heap.size) (mailKL m pm)]]) := ⟨hk⟩
  clear hk
  clear S18 g57 g58 g59 g60 g61
  have g62 := (S19.out.cellsM 3 rfl).c 0 _ rfl
  have g63 := (S19.out.cellsM 3 rfl).c 1 _ rfl
  have g64 := (S19.out.cellsM 3 rfl).c 2 _ rfl
  have g65 := (S19.out.cellsM 3 rfl).c 3 _ rfl
  have g66 := (S19.out.cellsM 3 rfl).lt
  go_wp2_with fail
  refine (heldMail_K 1 D q29 _ (mailK_read (mailK_mkF HFq29.out) (S19.out.nth 0 rfl)) HZD.out PN2.out).mono ?_
  rw [HN2.out]
  rintro e w25 ⟨rfl, hb⟩
  have S20 : Seal (Pt w w25 [mailKR (mailKmk 1 D) q29, mailKR m p41, rulesKR xs p40, [Res.cells w15.heap.size (mailKL D q29)], [Res.cells w14.heap.size (mailKL m p23)], [Res.cells k6 (mailKL D q7)], mailKR D q7, [Res.cells (w.heap.size) (mailKL m pm)]]) := ⟨S19.out.later hb⟩
  clear hb
  clear S19 g62 g63 g64 g65 g66
  go_upto_region 31 with fail
  go_cut [15, 16] (fun s15 s16 wx => ∃ (k67 : Nat) (q68 : MailP), s15 = .pointer (some ⟨k67, 0, none⟩) ∧ s16 = .int .i64 q ∧ mailKF D q68 ∧ Pt w wx [[Res.cells k67 (mailKL D q68)], mailKR D q68, mailKR (mailKmk 1 D) q29, mailKR m p41, rulesKR xs p40, [Res.cells w15.heap.size (mailKL D q29)], [Res.cells w14.heap.size (mailKL m p23)], [Res.cells k6 (mailKL D q7)], mailKR D q7, [Res.cells (w.heap.size) (mailKL m pm)]])
  case first =>
    refine wp_region_held_drew (S := (fun w' => w'.cell? ⟨w.heap.size, 0, none⟩ = some (.string m.fu) ∧ w'.cell? ⟨w.heap.size, 1, none⟩ = some (.string m.fd) ∧ w'.cell? ⟨w.heap.size, 2, none⟩ = some (.slice pm.a1 m.rc.length pm.c1) ∧ w'.cell? ⟨w.heap.size, 3, none⟩ = some (.slice pm.a2 m.body.length pm.c2))) (by kernel_rfl) ⟨(S20.out.cellsM 7 rfl).c 0 _ rfl, (S20.out.cellsM 7 rfl).c 1 _ rfl, (S20.out.cellsM 7 rfl).c 2 _ rfl, (S20.out.cellsM 7 rfl).c 3 _ rfl⟩ (fun hHeld => ?_)
    have S21 : Seal (Pt w _ [mailKR (mailKmk 1 D) q29, mailKR m p41, rulesKR xs p40, [Res.cells w15.heap.size (mailKL D q29)], [Res.cells w14.heap.size (mailKL m p23)], [Res.cells k6 (mailKL D q7)], mailKR D q7, [Res.cells (w.heap.size) (mailKL m pm)]]) := ⟨S20.out.drew⟩
    (refine wpAnyH_take (i := 0) (v := ?_) rfl (by kernel_rfl) (by kernel_rfl) (by kernel_rfl) (fun _ _ _ h => h) (Or.inl ⟨by rfl, ?_⟩) (by assumption) ?_; rotate_left; (intro w hSw; (try dsimp only at hSw); go_split_ands; go_simp; first | done | with_reducible rfl); rotate_left; simp only [Act.put, List.getElem_toArray, List.getElem_cons_zero, List.setIfInBounds_toArray, List.set_cons_succ, List.set_cons_zero])
    (refine wpAnyH_take (i := 2) (v := ?_) rfl (by kernel_rfl) (by kernel_rfl) (by kernel_rfl) (fun _ _ _ h => h) (Or.inl ⟨by rfl, ?_⟩) (by assumption) ?_; rotate_left; (intro w hSw; (try dsimp only at hSw); go_split_ands; go_simp; first | done | with_reducible rfl); rotate_left; simp only [Act.put, List.getElem_toArray, List.getElem_cons_succ, List.getElem_cons_zero, List.setIfInBounds_toArray, List.set_cons_succ, List.set_cons_zero])
    refine wpAnyH_ready (rs := [1, 8]) (by kernel_rfl) (by simp) ?_
    refine AllReadyH.cons rfl (fun K hK => ?_) (AllReadyH.cons rfl (fun K hK => ?_) AllReadyH.nil)
    · try dsimp only at hHeld
      go_split_ands
      go_simp
      refine (toRuleS_K xs pxs _ (rulesK_below HAxs.out S21.out.below (Nat.le_refl _)) HZxs.out).mono ?_
      rintro e w26 ⟨p69, rfl, hf, hk⟩
      have HFp69 : Seal _ := ⟨hf⟩
      have S22 : Seal (Pt w w26 [rulesKR xs p69, mailKR (mailKmk 1 D) q29, mailKR m p41, rulesKR xs p40, [Res.cells w15.heap.size (mailKL D q29)], [Res.cells w14.heap.size (mailKL m p23)], [Res.cells k6 (mailKL D q7)], mailKR D q7, [Res.cells (w.heap.size) (mailKL m pm)]]) := ⟨S21.out.join hk⟩
      clear hk hf
      refine hK.out _ _ ⟨(S22.out.cellsM 8 rfl).c 0 _ rfl, (S22.out.cellsM 8 rfl).c 1 _ rfl, (S22.out.cellsM 8 rfl).c 2 _ rfl, (S22.out.cellsM 8 rfl).c 3 _ rfl⟩ (fun hHeld => ?_)
      clear hK K
      try simp only [Act.put, List.getElem_toArray, List.getElem_cons_succ, List.getElem_cons_zero, List.setIfInBounds_toArray, List.set_cons_zero, List.set_cons_succ]
      refine wpAnyH_ready (rs := [3, 8]) (by kernel_rfl) (by simp) ?_
      refine AllReadyH.cons rfl (fun K hK => ?_) (AllReadyH.cons rfl (fun K hK => ?_) AllReadyH.nil)
      · try dsimp only at hHeld
        go_split_ands
        go_simp
        refine (toMail_K m pm _ (mailK_below HAm.out S22.out.below (Nat.le_refl _)) HZm.out).mono ?_
        rintro e w27 ⟨p70, rfl, hf, hk⟩
        have HFp70 : Seal _ := ⟨hf⟩
        have S23 : Seal (Pt w w27 [mailKR m p70, rulesKR xs p69, mailKR (mailKmk 1 D) q29, mailKR m p41, rulesKR xs p40, [Res.cells w15.heap.size (mailKL D q29)], [Res.cells w14.heap.size (mailKL m p23)], [Res.cells k6 (mailKL D q7)], mailKR D q7, [Res.cells (w.heap.size) (mailKL m pm)]]) := ⟨S22.out.join hk⟩
        clear hk hf
        refine hK.out _ _ ⟨(S23.out.cellsM 9 rfl).c 0 _ rfl, (S23.out.cellsM 9 rfl).c 1 _ rfl, (S23.out.cellsM 9 rfl).c 2 _ rfl, (S23.out.cellsM 9 rfl).c 3 _ rfl⟩ (fun hHeld => ?_)
        clear hK K
        try simp only [Act.put, List.getElem_toArray, List.getElem_cons_succ, List.getElem_cons_zero, List.setIfInBounds_toArray, List.set_cons_zero, List.set_cons_succ]
        refine wpAnyH_ready (rs := [4, 8]) (by kernel_rfl) (by simp) ?_
        refine AllReadyH.cons rfl (fun K hK => ?_) (AllReadyH.cons rfl (fun K hK => ?_) AllReadyH.nil)
        · try dsimp only at hHeld
          go_split_ands
          go_simp
          refine (CI.out _ _ (HM.out.below S23.out.below (Nat.le_refl _)) p69 p70 1 0 S23.out rfl rfl HFp69.out HFp70.out).mono ?_
          rintro e w28 ⟨q71, rfl, hfq71, hk⟩
          have HFq71 : Seal _ := ⟨hfq71⟩
          have S24 : Seal (Pt w w28 [mailKR D q71, mailKR m p70, rulesKR xs p69, mailKR (mailKmk 1 D) q29, mailKR m p41, rulesKR xs p40, [Res.cells w15.heap.size (mailKL D q29)], [Res.cells w14.heap.size (mailKL m p23)], [Res.cells k6 (mailKL D q7)], mailKR D q7, [Res.cells (w.heap.size) (mailKL m pm)]]) := ⟨S23.out.join hk⟩
          clear hk hfq71
          refine hK.out _ _ ⟨(S24.out.cellsM 10 rfl).c 0 _ rfl, (S24.out.cellsM 10 rfl).c 1 _ rfl, (S24.out.cellsM 10 rfl).c 2 _ rfl, (S24.out.cellsM 10 rfl).c 3 _ rfl⟩ (fun hHeld => ?_)
          clear hK K
          try simp only [Act.put, List.getElem_toArray, List.getElem_cons_succ, List.getElem_cons_zero, List.setIfInBounds_toArray, List.set_cons_zero, List.set_cons_succ]
          (refine wpAnyH_take (i := 5) (v := ?_) rfl (by kernel_rfl) (by kernel_rfl) (by kernel_rfl) (fun _ _ _ h => h) (Or.inl ⟨by rfl, ?_⟩) (by assumption) ?_; rotate_left; (intro w hSw; (try dsimp only at hSw); go_split_ands; go_simp; first | done | with_reducible rfl); rotate_left; simp only [Act.put, List.getElem_toArray, List.getElem_cons_succ, List.getElem_cons_zero, List.setIfInBounds_toArray, List.set_cons_succ, List.set_cons_zero])
          (refine wpAnyH_take (i := 6) (v := ?_) rfl (by kernel_rfl) (by kernel_rfl) (by kernel_rfl) (fun _ _ _ h => h) (Or.inl ⟨by rfl, ?_⟩) (by assumption) ?_; rotate_left; (intro w hSw; (try dsimp only at hSw); go_split_ands; go_simp; first | done | with_reducible rfl); rotate_left; simp only [Act.put, List.getElem_toArray, List.getElem_cons_succ, List.getElem_cons_zero, List.setIfInBounds_toArray, List.set_cons_succ, List.set_cons_zero])
          (refine wpAnyH_take (i := 7) (v := ?_) rfl (by kernel_rfl) (by kernel_rfl) (by kernel_rfl) (fun _ _ _ h => h) (Or.inl ⟨by rfl, ?_⟩) (by assumption) ?_; rotate_left; (intro w hSw; (try dsimp only at hSw); go_split_ands; go_simp; first | done | with_reducible rfl); rotate_left; simp only [Act.put, List.getElem_toArray, List.getElem_cons_succ, List.getElem_cons_zero, List.setIfInBounds_toArray, List.set_cons_succ, List.set_cons_zero])
          refine wpAnyH_ready (rs := [8]) (by kernel_rfl) (by simp) ?_
          refine AllReadyH.cons rfl (fun K hK => ?_) AllReadyH.nil
          have S25 : Seal (Pt w (w28.alloc (.cells #[.string { data := #[] }, .string { data := #[] }, .slice none 0 0, .slice none 0 0] 34)) [[Res.cells w28.heap.size ((#[.string { data := #[] }, .string { data := #[] }, .slice none 0 0, .slice none 0 0] : Array Value).toList)], mailKR D q71, mailKR m p70, rulesKR xs p69, mailKR (mailKmk 1 D) q29, mailKR m p41, rulesKR xs p40, [Res.cells w15.heap.size (mailKL D q29)], [Res.cells w14.heap.size (mailKL m p23)], [Res.cells k6 (mailKL D q7)], mailKR D q7, [Res.cells (w.heap.size) (mailKL m pm)]]) := ⟨S24.out.alloc #[.string { data := #[] }, .string { data := #[] }, .slice none 0 0, .slice none 0 0] 34⟩
          go_simp
          refine hK.out _ _ ⟨(S25.out.cellsM 11 rfl).c 0 _ rfl, (S25.out.cellsM 11 rfl).c 1 _ rfl, (S25.out.cellsM 11 rfl).c 2 _ rfl, (S25.out.cellsM 11 rfl).c 3 _ rfl⟩ (fun hHeld => ?_)
          clear hK K
          try simp only [Act.put, List.getElem_toArray, List.getElem_cons_succ, List.getElem_cons_zero, List.setIfInBounds_toArray, List.set_cons_zero, List.set_cons_succ]
          refine wpAnyH_ready (rs := [9]) (by kernel_rfl) (by simp) ?_
          refine AllReadyH.cons rfl (fun K hK => ?_) AllReadyH.nil
          have oc0 := (S25.out.cellsM 0 rfl).c 0 _ rfl
          have of0 := (S25.out.cellsM 0 rfl).f 0 (by simp)
          have oc1 := (S25.out.cellsM 0 rfl).c 1 _ rfl
          have of1 := (S25.out.cellsM 0 rfl).f 1 (by simp)
          have oc2 := (S25.out.cellsM 0 rfl).c 2 _ rfl
          have of2 := (S25.out.cellsM 0 rfl).f 2 (by simp)
          have oc3 := (S25.out.cellsM 0 rfl).c 3 _ rfl
          have of3 := (S25.out.cellsM 0 rfl).f 3 (by simp)
          have SB26 : Seal (Pt w (((((w28.alloc (.cells #[.string { data := #[] }, .string { data := #[] }, .slice none 0 0, .slice none 0 0] 34)).setCell ⟨w28.heap.size, 0, none⟩ (.string D.fu)).setCell ⟨w28.heap.size, 1, none⟩ (.string D.fd)).setCell ⟨w28.heap.size, 2, none⟩ (.slice q71.a1 D.rc.length q71.c1)).setCell ⟨w28.heap.size, 3, none⟩ (.slice q71.a2 D.body.length q71.c2)) [[Res.cells w28.heap.size (mailKL D q71)], mailKR D q71, mailKR m p70, rulesKR xs p69, mailKR (mailKmk 1 D) q29, mailKR m p41, rulesKR xs p40, [Res.cells w15.heap.size (mailKL D q29)], [Res.cells w14.heap.size (mailKL m p23)], [Res.cells k6 (mailKL D q7)], mailKR D q7, [Res.cells (w.heap.size) (mailKL m pm)]]) := ⟨((((S25.out).set 0 (.string D.fu) (by simp)).set 1 (.string D.fd) (by simp)).set 2 (.slice q71.a1 D.rc.length q71.c1) (by simp)).set 3 (.slice q71.a2 D.body.length q71.c2) (by simp)⟩
          have SA26 : Seal (Pt w (w28.alloc (.cells (mailKV D q71) 34)) [[Res.cells w28.heap.size (mailKL D q71)], mailKR D q71, mailKR m p70, rulesKR xs p69, mailKR (mailKmk 1 D) q29, mailKR m p41, rulesKR xs p40, [Res.cells w15.heap.size (mailKL D q29)], [Res.cells w14.heap.size (mailKL m p23)], [Res.cells k6 (mailKL D q7)], mailKR D q7, [Res.cells (w.heap.size) (mailKL m pm)]]) := ⟨S24.out.alloc (mailKV D q71) 34⟩
          go_simp
          refine hK.out _ _ (by first | exact ⟨(SA26.out.cellsM 11 rfl).c 0 _ rfl, (SA26.out.cellsM 11 rfl).c 1 _ rfl, (SA26.out.cellsM 11 rfl).c 2 _ rfl, (SA26.out.cellsM 11 rfl).c 3 _ rfl⟩ | exact ⟨(SB26.out.cellsM 11 rfl).c 0 _ rfl, (SB26.out.cellsM 11 rfl).c 1 _ rfl, (SB26.out.cellsM 11 rfl).c 2 _ rfl, (SB26.out.cellsM 11 rfl).c 3 _ rfl⟩) (fun hHeld => ?_)
          clear hK K
          try simp only [Act.put, List.getElem_toArray, List.getElem_cons_succ, List.getElem_cons_zero, List.setIfInBounds_toArray, List.set_cons_zero, List.set_cons_succ]
          clear oc0 of0 oc1 of1 oc2 of2 oc3 of3
          refine wpAnyH_ready (rs := [10]) (by kernel_rfl) (by simp) ?_
          refine AllReadyH.cons rfl (fun K hK => ?_) AllReadyH.nil
          go_simp
          refine hK.out _ _ (by assumption) (fun hHeld => ?_)
          clear hK K
          try simp only [Act.put, List.getElem_toArray, List.getElem_cons_succ, List.getElem_cons_zero, List.setIfInBounds_toArray, List.set_cons_zero, List.set_cons_succ]
          refine wpAnyH_done (by kernel_rfl) ?_ _
          go_wp2_with fail
          go_meet
          exact ⟨w28.heap.size, q71, rfl, rfl, HFq71.out, by first | exact (Pt.prefix (As := [[Res.cells w28.heap.size (mailKL D q71)], mailKR D q71, mailKR (mailKmk 1 D) q29, mailKR m p41, rulesKR xs p40, [Res.cells w15.heap.size (mailKL D q29)], [Res.cells w14.heap.size (mailKL m p23)], [Res.cells k6 (mailKL D q7)], mailKR D q7, [Res.cells (w.heap.size) (mailKL m pm)]]) (Bs := [mailKR m p70, rulesKR xs p69]) (Pt.bring ((Pt.bring ((Pt.bring ((Pt.bring ((Pt.bring ((Pt.bring ((Pt.bring ((Pt.bring ((Pt.bring ((Pt.bring (SA26.out) 11 rfl)) 11 rfl)) 11 rfl)) 11 rfl)) 11 rfl)) 11 rfl)) 11 rfl)) 11 rfl)) 9 rfl)) 9 rfl)) | exact (Pt.prefix (As := [[Res.cells w28.heap.size (mailKL D q71)], mailKR D q71, mailKR (mailKmk 1 D) q29, mailKR m p41, rulesKR xs p40, [Res.cells w15.heap.size (mailKL D q29)], [Res.cells w14.heap.size (mailKL m p23)], [Res.cells k6 (mailKL D q7)], mailKR D q7, [Res.cells (w.heap.size) (mailKL m pm)]]) (Bs := [mailKR m p70, rulesKR xs p69]) (Pt.bring ((Pt.bring ((Pt.bring ((Pt.bring ((Pt.bring ((Pt.bring ((Pt.bring ((Pt.bring ((Pt.bring ((Pt.bring (SB26.out) 11 rfl)) 11 rfl)) 11 rfl)) 11 rfl)) 11 rfl)) 11 rfl)) 11 rfl)) 11 rfl)) 9 rfl)) 9 rfl))⟩
        · have S24 : Seal (Pt w (w27.alloc (.cells #[.string { data := #[] }, .string { data := #[] }, .slice none 0 0, .slice none 0 0] 34)) [[Res.cells w27.heap.size ((#[.string { data := #[] }, .string { data := #[] }, .slice none 0 0, .slice none 0 0] : Array Value).toList)], mailKR m p70, rulesKR xs p69, mailKR (mailKmk 1 D) q29, mailKR m p41, rulesKR xs p40, [Res.cells w15.heap.size (mailKL D q29)], [Res.cells w14.heap.size (mailKL m p23)], [Res.cells k6 (mailKL D q7)], mailKR D q7, [Res.cells (w.heap.size) (mailKL m pm)]]) := ⟨S23.out.alloc #[.string { data := #[] }, .string { data := #[] }, .slice none 0 0, .slice none 0 0] 34⟩
          go_simp
          refine hK.out _ _ ⟨(S24.out.cellsM 10 rfl).c 0 _ rfl, (S24.out.cellsM 10 rfl).c 1 _ rfl, (S24.out.cellsM 10 rfl).c 2 _ rfl, (S24.out.cellsM 10 rfl).c 3 _ rfl⟩ (fun hHeld => ?_)
          clear hK K
          try simp only [Act.put, List.getElem_toArray, List.getElem_cons_succ, List.getElem_cons_zero, List.setIfInBounds_toArray, List.set_cons_zero, List.set_cons_succ]
          refine wpAnyH_ready (rs := [4]) (by kernel_rfl) (by simp) ?_
          refine AllReadyH.cons rfl (fun K hK => ?_) AllReadyH.nil
          try dsimp only at hHeld
          go_split_ands
          go_simp
          refine (CI.out _ _ (HM.out.below S24.out.below (Nat.le_refl _)) p69 p70 2 1 S24.out rfl rfl HFp69.out HFp70.out).mono ?_
          rintro e w29 ⟨q72, rfl, hfq72, hk⟩
          have HFq72 : Seal _ := ⟨hfq72⟩
          have S25 : Seal (Pt w w29 [mailKR D q72, [Res.cells w27.heap.size ((#[.string { data := #[] }, .string { data := #[] }, .slice none 0 0, .slice none 0 0] : Array Value).toList)], mailKR m p70, rulesKR xs p69, mailKR (mailKmk 1 D) q29, mailKR m p41, rulesKR xs p40, [Res.cells w15.heap.size (mailKL D q29)], [Res.cells w14.heap.size (mailKL m p23)], [Res.cells k6 (mailKL D q7)], mailKR D q7, [Res.cells (w.heap.size) (mailKL m pm)]]) := ⟨S24.out.join hk⟩
          clear hk hfq72
          refine hK.out _ _ ⟨(S25.out.cellsM 11 rfl).c 0 _ rfl, (S25.out.cellsM 11 rfl).c 1 _ rfl, (S25.out.cellsM 11 rfl).c 2 _ rfl, (S25.out.cellsM 11 rfl).c 3 _ rfl⟩ (fun hHeld => ?_)
          clear hK K
          try simp only [Act.put, List.getElem_toArray, List.getElem_cons_succ, List.getElem_cons_zero, List.setIfInBounds_toArray, List.set_cons_zero, List.set_cons_succ]
          (refine wpAnyH_take (i := 5) (v := ?_) rfl (by kernel_rfl) (by kernel_rfl) (by kernel_rfl) (fun _ _ _ h => h) (Or.inl ⟨by rfl, ?_⟩) (by assumption) ?_; rotate_left; (intro w hSw; (try dsimp only at hSw); go_split_ands; go_simp; first | done | with_reducible rfl); rotate_left; simp only [Act.put, List.getElem_toArray, List.getElem_cons_succ, List.getElem_cons_zero, List.setIfInBounds_toArray, List.set_cons_succ, List.set_cons_zero])
          (refine wpAnyH_take (i := 6) (v := ?_) rfl (by kernel_rfl) (by kernel_rfl) (by kernel_rfl) (fun _ _ _ h => h) (Or.inl ⟨by rfl, ?_⟩) (by assumption) ?_; rotate_left; (intro w hSw; (try dsimp only at hSw); go_split_ands; go_simp; first | done | with_reducible rfl); rotate_left; simp only [Act.put, List.getElem_toArray, List.getElem_cons_succ, List.getElem_cons_zero, List.setIfInBounds_toArray, List.set_cons_succ, List.set_cons_zero])
          (refine wpAnyH_take (i := 7) (v := ?_) rfl (by kernel_rfl) (by kernel_rfl) (by kernel_rfl) (fun _ _ _ h => h) (Or.inl ⟨by rfl, ?_⟩) (by assumption) ?_; rotate_left; (intro w hSw; (try dsimp only at hSw); go_split_ands; go_simp; first | done | with_reducible rfl); rotate_left; simp only [Act.put, List.getElem_toArray, List.getElem_cons_succ, List.getElem_cons_zero, List.setIfInBounds_toArray, List.set_cons_succ, List.set_cons_zero])
          refine wpAnyH_ready (rs := [9]) (by kernel_rfl) (by simp) ?_
          refine AllReadyH.cons rfl (fun K hK => ?_) AllReadyH.nil
          have S26 : Seal (Pt w w29 [[Res.cells w27.heap.size ((#[.string { data := #[] }, .string { data := #[] }, .slice none 0 0, .slice none 0 0] : Array Value).toList)], mailKR D q72, mailKR m p70, rulesKR xs p69, mailKR (mailKmk 1 D) q29, mailKR m p41, rulesKR xs p40, [Res.cells w15.heap.size (mailKL D q29)], [Res.cells w14.heap.size (mailKL m p23)], [Res.cells k6 (mailKL D q7)], mailKR D q7, [Res.cells (w.heap.size) (mailKL m pm)]]) := ⟨S25.out.bring 1 rfl⟩
          have oc0 := (S26.out.cellsM 0 rfl).c 0 _ rfl
          have of0 := (S26.out.cellsM 0 rfl).f 0 (by simp)
          have oc1 := (S26.out.cellsM 0 rfl).c 1 _ rfl
          have of1 := (S26.out.cellsM 0 rfl).f 1 (by simp)
          have oc2 := (S26.out.cellsM 0 rfl).c 2 _ rfl
          have of2 := (S26.out.cellsM 0 rfl).f 2 (by simp)
          have oc3 := (S26.out.cellsM 0 rfl).c 3 _ rfl
          have of3 := (S26.out.cellsM 0 rfl).f 3 (by simp)
          have S27 : Seal (Pt w ((((w29.setCell ⟨w27.heap.size, 0, none⟩ (.string D.fu)).setCell ⟨w27.heap.size, 1, none⟩ (.string D.fd)).setCell ⟨w27.heap.size, 2, none⟩ (.slice q72.a1 D.rc.length q72.c1)).setCell ⟨w27.heap.size, 3, none⟩ (.slice q72.a2 D.body.length q72.c2)) [[Res.cells w27.heap.size (mailKL D q72)], mailKR D q72, mailKR m p70, rulesKR xs p69, mailKR (mailKmk 1 D) q29, mailKR m p41, rulesKR xs p40, [Res.cells w15.heap.size (mailKL D q29)], [Res.cells w14.heap.size (mailKL m p23)], [Res.cells k6 (mailKL D q7)], mailKR D q7, [Res.cells (w.heap.size) (mailKL m pm)]]) := ⟨((((S26.out).set 0 (.string D.fu) (by simp)).set 1 (.string D.fd) (by simp)).set 2 (.slice q72.a1 D.rc.length q72.c1) (by simp)).set 3 (.slice q72.a2 D.body.length q72.c2) (by simp)⟩
          go_simp
          refine hK.out _ _ ⟨(S27.out.cellsM 11 rfl).c 0 _ rfl, (S27.out.cellsM 11 rfl).c 1 _ rfl, (S27.out.cellsM 11 rfl).c 2 _ rfl, (S27.out.cellsM 11 rfl).c 3 _ rfl⟩ (fun hHeld => ?_)
          clear hK K
          try simp only [Act.put, List.getElem_toArray, List.getElem_cons_succ, List.getElem_cons_zero, List.setIfInBounds_toArray, List.set_cons_zero, List.set_cons_succ]
          clear oc0 of0 oc1 of1 oc2 of2 oc3 of3
          refine wpAnyH_ready (rs := [10]) (by kernel_rfl) (by simp) ?_
          refine AllReadyH.cons rfl (fun K hK => ?_) AllReadyH.nil
          go_simp
          refine hK.out _ _ (by assumption) (fun hHeld => ?_)
          clear hK K
          try simp only [Act.put, List.getElem_toArray, List.getElem_cons_succ, List.getElem_cons_zero, List.setIfInBounds_toArray, List.set_cons_zero, List.set_cons_succ]
          refine wpAnyH_done (by kernel_rfl) ?_ _
          go_wp2_with fail
          go_meet
          exact ⟨w27.heap.size, q72, rfl, rfl, HFq72.out, by first | exact (Pt.prefix (As := [[Res.cells w27.heap.size (mailKL D q72)], mailKR D q72, mailKR (mailKmk 1 D) q29, mailKR m p41, rulesKR xs p40, [Res.cells w15.heap.size (mailKL D q29)], [Res.cells w14.heap.size (mailKL m p23)], [Res.cells k6 (mailKL D q7)], mailKR D q7, [Res.cells (w.heap.size) (mailKL m pm)]]) (Bs := [mailKR m p70, rulesKR xs p69]) (Pt.bring ((Pt.bring ((Pt.bring ((Pt.bring ((Pt.bring ((Pt.bring ((Pt.bring ((Pt.bring ((Pt.bring ((Pt.bring (S27.out) 11 rfl)) 11 rfl)) 11 rfl)) 11 rfl)) 11 rfl)) 11 rfl)) 11 rfl)) 11 rfl)) 9 rfl)) 9 rfl))⟩
      · have S23 : Seal (Pt w (w26.alloc (.cells #[.string { data := #[] }, .string { data := #[] }, .slice none 0 0, .slice none 0 0] 34)) [[Res.cells w26.heap.size ((#[.string { data := #[] }, .string { data := #[] }, .slice none 0 0, .slice none 0 0] : Array Value).toList)], rulesKR xs p69, mailKR (mailKmk 1 D) q29, mailKR m p41, rulesKR xs p40, [Res.cells w15.heap.size (mailKL D q29)], [Res.cells w14.heap.size (mailKL m p23)], [Res.cells k6 (mailKL D q7)], mailKR D q7, [Res.cells (w.heap.size) (mailKL m pm)]]) := ⟨S22.out.alloc #[.string { data := #[] }, .string { data := #[] }, .slice none 0 0, .slice none 0 0] 34⟩
        go_simp
        refine hK.out _ _ ⟨(S23.out.cellsM 9 rfl).c 0 _ rfl, (S23.out.cellsM 9 rfl).c 1 _ rfl, (S23.out.cellsM 9 rfl).c 2 _ rfl, (S23.out.cellsM 9 rfl).c 3 _ rfl⟩ (fun hHeld => ?_)
        clear hK K
        try simp only [Act.put, List.getElem_toArray, List.getElem_cons_succ, List.getElem_cons_zero, List.setIfInBounds_toArray, List.set_cons_zero, List.set_cons_succ]
        refine wpAnyH_ready (rs := [3]) (by kernel_rfl) (by simp) ?_
        refine AllReadyH.cons rfl (fun K hK => ?_) AllReadyH.nil
        try dsimp only at hHeld
        go_split_ands
        go_simp
        refine (toMail_K m pm _ (mailK_below HAm.out S23.out.below (Nat.le_refl _)) HZm.out).mono ?_
        rintro e w30 ⟨p73, rfl, hf, hk⟩
        have HFp73 : Seal _ := ⟨hf⟩
        have S24 : Seal (Pt w w30 [mailKR m p73, [Res.cells w26.heap.size ((#[.string { data := #[] }, .string { data := #[] }, .slice none 0 0, .slice none 0 0] : Array Value).toList)], rulesKR xs p69, mailKR (mailKmk 1 D) q29, mailKR m p41, rulesKR xs p40, [Res.cells w15.heap.size (mailKL D q29)], [Res.cells w14.heap.size (mailKL m p23)], [Res.cells k6 (mailKL D q7)], mailKR D q7, [Res.cells (w.heap.size) (mailKL m pm)]]) := ⟨S23.out.join hk⟩
        clear hk hf
        refine hK.out _ _ ⟨(S24.out.cellsM 10 rfl).c 0 _ rfl, (S24.out.cellsM 10 rfl).c 1 _ rfl, (S24.out.cellsM 10 rfl).c 2 _ rfl, (S24.out.cellsM 10 rfl).c 3 _ rfl⟩ (fun hHeld => ?_)
        clear hK K
        try simp only [Act.put, List.getElem_toArray, List.getElem_cons_succ, List.getElem_cons_zero, List.setIfInBounds_toArray, List.set_cons_zero, List.set_cons_succ]
        refine wpAnyH_ready (rs := [4]) (by kernel_rfl) (by simp) ?_
        refine AllReadyH.cons rfl (fun K hK => ?_) AllReadyH.nil
        try dsimp only at hHeld
        go_split_ands
        go_simp
        refine (CI.out _ _ (HM.out.below S24.out.below (Nat.le_refl _)) p69 p73 2 0 S24.out rfl rfl HFp69.out HFp73.out).mono ?_
        rintro e w31 ⟨q74, rfl, hfq74, hk⟩
        have HFq74 : Seal _ := ⟨hfq74⟩
        have S25 : Seal (Pt w w31 [mailKR D q74, mailKR m p73, [Res.cells w26.heap.size ((#[.string { data := #[] }, .string { data := #[] }, .slice none 0 0, .slice none 0 0] : Array Value).toList)], rulesKR xs p69, mailKR (mailKmk 1 D) q29, mailKR m p41, rulesKR xs p40, [Res.cells w15.heap.size (mailKL D q29)], [Res.cells w14.heap.size (mailKL m p23)], [Res.cells k6 (mailKL D q7)], mailKR D q7, [Res.cells (w.heap.size) (mailKL m pm)]]) := ⟨S24.out.join hk⟩
        clear hk hfq74
        refine hK.out _ _ ⟨(S25.out.cellsM 11 rfl).c 0 _ rfl, (S25.out.cellsM 11 rfl).c 1 _ rfl, (S25.out.cellsM 11 rfl).c 2 _ rfl, (S25.out.cellsM 11 rfl).c 3 _ rfl⟩ (fun hHeld => ?_)
        clear hK K
        try simp only [Act.put, List.getElem_toArray, List.getElem_cons_succ, List.getElem_cons_zero, List.setIfInBounds_toArray, List.set_cons_zero, List.set_cons_succ]
        (refine wpAnyH_take (i := 5) (v := ?_) rfl (by kernel_rfl) (by kernel_rfl) (by kernel_rfl) (fun _ _ _ h => h) (Or.inl ⟨by rfl, ?_⟩) (by assumption) ?_; rotate_left; (intro w hSw; (try dsimp only at hSw); go_split_ands; go_simp; first | done | with_reducible rfl); rotate_left; simp only [Act.put, List.getElem_toArray, List.getElem_cons_succ, List.getElem_cons_zero, List.setIfInBounds_toArray, List.set_cons_succ, List.set_cons_zero])
        (refine wpAnyH_take (i := 6) (v := ?_) rfl (by kernel_rfl) (by kernel_rfl) (by kernel_rfl) (fun _ _ _ h => h) (Or.inl ⟨by rfl, ?_⟩) (by assumption) ?_; rotate_left; (intro w hSw; (try dsimp only at hSw); go_split_ands; go_simp; first | done | with_reducible rfl); rotate_left; simp only [Act.put, List.getElem_toArray, List.getElem_cons_succ, List.getElem_cons_zero, List.setIfInBounds_toArray, List.set_cons_succ, List.set_cons_zero])
        (refine wpAnyH_take (i := 7) (v := ?_) rfl (by kernel_rfl) (by kernel_rfl) (by kernel_rfl) (fun _ _ _ h => h) (Or.inl ⟨by rfl, ?_⟩) (by assumption) ?_; rotate_left; (intro w hSw; (try dsimp only at hSw); go_split_ands; go_simp; first | done | with_reducible rfl); rotate_left; simp only [Act.put, List.getElem_toArray, List.getElem_cons_succ, List.getElem_cons_zero, List.setIfInBounds_toArray, List.set_cons_succ, List.set_cons_zero])
        refine wpAnyH_ready (rs := [9]) (by kernel_rfl) (by simp) ?_
        refine AllReadyH.cons rfl (fun K hK => ?_) AllReadyH.nil
        have S26 : Seal (Pt w w31 [[Res.cells w26.heap.size ((#[.string { data := #[] }, .string { data := #[] }, .slice none 0 0, .slice none 0 0] : Array Value).toList)], mailKR D q74, mailKR m p73, rulesKR xs p69, mailKR (mailKmk 1 D) q29, mailKR m p41, rulesKR xs p40, [Res.cells w15.heap.size (mailKL D q29)], [Res.cells w14.heap.size (mailKL m p23)], [Res.cells k6 (mailKL D q7)], mailKR D q7, [Res.cells (w.heap.size) (mailKL m pm)]]) := ⟨S25.out.bring 2 rfl⟩
        have oc0 := (S26.out.cellsM 0 rfl).c 0 _ rfl
        have of0 := (S26.out.cellsM 0 rfl).f 0 (by simp)
        have oc1 := (S26.out.cellsM 0 rfl).c 1 _ rfl
        have of1 := (S26.out.cellsM 0 rfl).f 1 (by simp)
        have oc2 := (S26.out.cellsM 0 rfl).c 2 _ rfl
        have of2 := (S26.out.cellsM 0 rfl).f 2 (by simp)
        have oc3 := (S26.out.cellsM 0 rfl).c 3 _ rfl
        have of3 := (S26.out.cellsM 0 rfl).f 3 (by simp)
        have S27 : Seal (Pt w ((((w31.setCell ⟨w26.heap.size, 0, none⟩ (.string D.fu)).setCell ⟨w26.heap.size, 1, none⟩ (.string D.fd)).setCell ⟨w26.heap.size, 2, none⟩ (.slice q74.a1 D.rc.length q74.c1)).setCell ⟨w26.heap.size, 3, none⟩ (.slice q74.a2 D.body.length q74.c2)) [[Res.cells w26.heap.size (mailKL D q74)], mailKR D q74, mailKR m p73, rulesKR xs p69, mailKR (mailKmk 1 D) q29, mailKR m p41, rulesKR xs p40, [Res.cells w15.heap.size (mailKL D q29)], [Res.cells w14.heap.size (mailKL m p23)], [Res.cells k6 (mailKL D q7)], mailKR D q7, [Res.cells (w.heap.size) (mailKL m pm)]]) := ⟨((((S26.out).set 0 (.string D.fu) (by simp)).set 1 (.string D.fd) (by simp)).set 2 (.slice q74.a1 D.rc.length q74.c1) (by simp)).set 3 (.slice q74.a2 D.body.length q74.c2) (by simp)⟩
        go_simp
        refine hK.out _ _ ⟨(S27.out.cellsM 11 rfl).c 0 _ rfl, (S27.out.cellsM 11 rfl).c 1 _ rfl, (S27.out.cellsM 11 rfl).c 2 _ rfl, (S27.out.cellsM 11 rfl).c 3 _ rfl⟩ (fun hHeld => ?_)
        clear hK K
        try simp only [Act.put, List.getElem_toArray, List.getElem_cons_succ, List.getElem_cons_zero, List.setIfInBounds_toArray, List.set_cons_zero, List.set_cons_succ]
        clear oc0 of0 oc1 of1 oc2 of2 oc3 of3
        refine wpAnyH_ready (rs := [10]) (by kernel_rfl) (by simp) ?_
        refine AllReadyH.cons rfl (fun K hK => ?_) AllReadyH.nil
        go_simp
        refine hK.out _ _ (by assumption) (fun hHeld => ?_)
        clear hK K
        try simp only [Act.put, List.getElem_toArray, List.getElem_cons_succ, List.getElem_cons_zero, List.setIfInBounds_toArray, List.set_cons_zero, List.set_cons_succ]
        refine wpAnyH_done (by kernel_rfl) ?_ _
        go_wp2_with fail
        go_meet
        exact ⟨w26.heap.size, q74, rfl, rfl, HFq74.out, by first | exact (Pt.prefix (As := [[Res.cells w26.heap.size (mailKL D q74)], mailKR D q74, mailKR (mailKmk 1 D) q29, mailKR m p41, rulesKR xs p40, [Res.cells w15.heap.size (mailKL D q29)], [Res.cells w14.heap.size (mailKL m p23)], [Res.cells k6 (mailKL D q7)], mailKR D q7, [Res.cells (w.heap.size) (mailKL m pm)]]) (Bs := [mailKR m p73, rulesKR xs p69]) (Pt.bring ((Pt.bring ((Pt.bring ((Pt.bring ((Pt.bring ((Pt.bring ((Pt.bring ((Pt.bring ((Pt.bring ((Pt.bring (S27.out) 11 rfl)) 11 rfl)) 11 rfl)) 11 rfl)) 11 rfl)) 11 rfl)) 11 rfl)) 11 rfl)) 9 rfl)) 9 rfl))⟩
    · have S22 : Seal (Pt w (w25.drew.alloc (.cells #[.string { data := #[] }, .string { data := #[] }, .slice none 0 0, .slice none 0 0] 34)) [[Res.cells w25.heap.size ((#[.string { data := #[] }, .string { data := #[] }, .slice none 0 0, .slice none 0 0] : Array Value).toList)], mailKR (mailKmk 1 D) q29, mailKR m p41, rulesKR xs p40, [Res.cells w15.heap.size (mailKL D q29)], [Res.cells w14.heap.size (mailKL m p23)], [Res.cells k6 (mailKL D q7)], mailKR D q7, [Res.cells (w.heap.size) (mailKL m pm)]]) := ⟨S21.out.alloc #[.string { data := #[] }, .string { data := #[] }, .slice none 0 0, .slice none 0 0] 34⟩
      go_simp
      refine hK.out _ _ ⟨(S22.out.cellsM 8 rfl).c 0 _ rfl, (S22.out.cellsM 8 rfl).c 1 _ rfl, (S22.out.cellsM 8 rfl).c 2 _ rfl, (S22.out.cellsM 8 rfl).c 3 _ rfl⟩ (fun hHeld => ?_)
      clear hK K
      try simp only [Act.put, List.getElem_toArray, List.getElem_cons_succ, List.getElem_cons_zero, List.setIfInBounds_toArray, List.set_cons_zero, List.set_cons_succ]
      refine wpAnyH_ready (rs := [1]) (by kernel_rfl) (by simp) ?_
      refine AllReadyH.cons rfl (fun K hK => ?_) AllReadyH.nil
      try dsimp only at hHeld
      go_split_ands
      go_simp
      refine (toRuleS_K xs pxs _ (rulesK_below HAxs.out S22.out.below (Nat.le_refl _)) HZxs.out).mono ?_
      rintro e w32 ⟨p75, rfl, hf, hk⟩
      have HFp75 : Seal _ := ⟨hf⟩
      have S23 : Seal (Pt w w32 [rulesKR xs p75, [Res.cells w25.heap.size ((#[.string { data := #[] }, .string { data := #[] }, .slice none 0 0, .slice none 0 0] : Array Value).toList)], mailKR (mailKmk 1 D) q29, mailKR m p41, rulesKR xs p40, [Res.cells w15.heap.size (mailKL D q29)], [Res.cells w14.heap.size (mailKL m p23)], [Res.cells k6 (mailKL D q7)], mailKR D q7, [Res.cells (w.heap.size) (mailKL m pm)]]) := ⟨S22.out.join hk⟩
      clear hk hf
      refine hK.out _ _ ⟨(S23.out.cellsM 9 rfl).c 0 _ rfl, (S23.out.cellsM 9 rfl).c 1 _ rfl, (S23.out.cellsM 9 rfl).c 2 _ rfl, (S23.out.cellsM 9 rfl).c 3 _ rfl⟩ (fun hHeld => ?_)
      clear hK K
      try simp only [Act.put, List.getElem_toArray, List.getElem_cons_succ, List.getElem_cons_zero, List.setIfInBounds_toArray, List.set_cons_zero, List.set_cons_succ]
      refine wpAnyH_ready (rs := [3]) (by kernel_rfl) (by simp) ?_
      refine AllReadyH.cons rfl (fun K hK => ?_) AllReadyH.nil
      try dsimp only at hHeld
      go_split_ands
      go_simp
      refine (toMail_K m pm _ (mailK_below HAm.out S23.out.below (Nat.le_refl _)) HZm.out).mono ?_
      rintro e w33 ⟨p76, rfl, hf, hk⟩
      have HFp76 : Seal _ := ⟨hf⟩
      have S24 : Seal (Pt w w33 [mailKR m p76, rulesKR xs p75, [Res.cells w25.heap.size ((#[.string { data := #[] }, .string { data := #[] }, .slice none 0 0, .slice none 0 0] : Array Value).toList)], mailKR (mailKmk 1 D) q29, mailKR m p41, rulesKR xs p40, [Res.cells w15.heap.size (mailKL D q29)], [Res.cells w14.heap.size (mailKL m p23)], [Res.cells k6 (mailKL D q7)], mailKR D q7, [Res.cells (w.heap.size) (mailKL m pm)]]) := ⟨S23.out.join hk⟩
      clear hk hf
      refine hK.out _ _ ⟨(S24.out.cellsM 10 rfl).c 0 _ rfl, (S24.out.cellsM 10 rfl).c 1 _ rfl, (S24.out.cellsM 10 rfl).c 2 _ rfl, (S24.out.cellsM 10 rfl).c 3 _ rfl⟩ (fun hHeld => ?_)
      clear hK K
      try simp only [Act.put, List.getElem_toArray, List.getElem_cons_succ, List.getElem_cons_zero, List.setIfInBounds_toArray, List.set_cons_zero, List.set_cons_succ]
      refine wpAnyH_ready (rs := [4]) (by kernel_rfl) (by simp) ?_
      refine AllReadyH.cons rfl (fun K hK => ?_) AllReadyH.nil
      try dsimp only at hHeld
      go_split_ands
      go_simp
      refine (CI.out _ _ (HM.out.below S24.out.below (Nat.le_refl _)) p75 p76 1 0 S24.out rfl rfl HFp75.out HFp76.out).mono ?_
      rintro e w34 ⟨q77, rfl, hfq77, hk⟩
      have HFq77 : Seal _ := ⟨hfq77⟩
      have S25 : Seal (Pt w w34 [mailKR D q77, mailKR m p76, rulesKR xs p75, [Res.cells w25.heap.size ((#[.string { data := #[] }, .string { data := #[] }, .slice none 0 0, .slice none 0 0] : Array Value).toList)], mailKR (mailKmk 1 D) q29, mailKR m p41, rulesKR xs p40, [Res.cells w15.heap.size (mailKL D q29)], [Res.cells w14.heap.size (mailKL m p23)], [Res.cells k6 (mailKL D q7)], mailKR D q7, [Res.cells (w.heap.size) (mailKL m pm)]]) := ⟨S24.out.join hk⟩
      clear hk hfq77
      refine hK.out _ _ ⟨(S25.out.cellsM 11 rfl).c 0 _ rfl, (S25.out.cellsM 11 rfl).c 1 _ rfl, (S25.out.cellsM 11 rfl).c 2 _ rfl, (S25.out.cellsM 11 rfl).c 3 _ rfl⟩ (fun hHeld => ?_)
      clear hK K
      try simp only [Act.put, List.getElem_toArray, List.getElem_cons_succ, List.getElem_cons_zero, List.setIfInBounds_toArray, List.set_cons_zero, List.set_cons_succ]
      (refine wpAnyH_take (i := 5) (v := ?_) rfl (by kernel_rfl) (by kernel_rfl) (by kernel_rfl) (fun _ _ _ h => h) (Or.inl ⟨by rfl, ?_⟩) (by assumption) ?_; rotate_left; (intro w hSw; (try dsimp only at hSw); go_split_ands; go_simp; first | done | with_reducible rfl); rotate_left; simp only [Act.put, List.getElem_toArray, List.getElem_cons_succ, List.getElem_cons_zero, List.setIfInBounds_toArray, List.set_cons_succ, List.set_cons_zero])
      (refine wpAnyH_take (i := 6) (v := ?_) rfl (by kernel_rfl) (by kernel_rfl) (by kernel_rfl) (fun _ _ _ h => h) (Or.inl ⟨by rfl, ?_⟩) (by assumption) ?_; rotate_left; (intro w hSw; (try dsimp only at hSw); go_split_ands; go_simp; first | done | with_reducible rfl); rotate_left; simp only [Act.put, List.getElem_toArray, List.getElem_cons_succ, List.getElem_cons_zero, List.setIfInBounds_toArray, List.set_cons_succ, List.set_cons_zero])
      (refine wpAnyH_take (i := 7) (v := ?_) rfl (by kernel_rfl) (by kernel_rfl) (by kernel_rfl) (fun _ _ _ h => h) (Or.inl ⟨by rfl, ?_⟩) (by assumption) ?_; rotate_left; (intro w hSw; (try dsimp only at hSw); go_split_ands; go_simp; first | done | with_reducible rfl); rotate_left; simp only [Act.put, List.getElem_toArray, List.getElem_cons_succ, List.getElem_cons_zero, List.setIfInBounds_toArray, List.set_cons_succ, List.set_cons_zero])
      refine wpAnyH_ready (rs := [9]) (by kernel_rfl) (by simp) ?_
      refine AllReadyH.cons rfl (fun K hK => ?_) AllReadyH.nil
      have S26 : Seal (Pt w w34 [[Res.cells w25.heap.size ((#[.string { data := #[] }, .string { data := #[] }, .slice none 0 0, .slice none 0 0] : Array Value).toList)], mailKR D q77, mailKR m p76, rulesKR xs p75, mailKR (mailKmk 1 D) q29, mailKR m p41, rulesKR xs p40, [Res.cells w15.heap.size (mailKL D q29)], [Res.cells w14.heap.size (mailKL m p23)], [Res.cells k6 (mailKL D q7)], mailKR D q7, [Res.cells (w.heap.size) (mailKL m pm)]]) := ⟨S25.out.bring 3 rfl⟩
      have oc0 := (S26.out.cellsM 0 rfl).c 0 _ rfl
      have of0 := (S26.out.cellsM 0 rfl).f 0 (by simp)
      have oc1 := (S26.out.cellsM 0 rfl).c 1 _ rfl
      have of1 := (S26.out.cellsM 0 rfl).f 1 (by simp)
      have oc2 := (S26.out.cellsM 0 rfl).c 2 _ rfl
      have of2 := (S26.out.cellsM 0 rfl).f 2 (by simp)
      have oc3 := (S26.out.cellsM 0 rfl).c 3 _ rfl
      have of3 := (S26.out.cellsM 0 rfl).f 3 (by simp)
      have S27 : Seal (Pt w ((((w34.setCell ⟨w25.heap.size, 0, none⟩ (.string D.fu)).setCell ⟨w25.heap.size, 1, none⟩ (.string D.fd)).setCell ⟨w25.heap.size, 2, none⟩ (.slice q77.a1 D.rc.length q77.c1)).setCell ⟨w25.heap.size, 3, none⟩ (.slice q77.a2 D.body.length q77.c2)) [[Res.cells w25.heap.size (mailKL D q77)], mailKR D q77, mailKR m p76, rulesKR xs p75, mailKR (mailKmk 1 D) q29, mailKR m p41, rulesKR xs p40, [Res.cells w15.heap.size (mailKL D q29)], [Res.cells w14.heap.size (mailKL m p23)], [Res.cells k6 (mailKL D q7)], mailKR D q7, [Res.cells (w.heap.size) (mailKL m pm)]]) := ⟨((((S26.out).set 0 (.string D.fu) (by simp)).set 1 (.string D.fd) (by simp)).set 2 (.slice q77.a1 D.rc.length q77.c1) (by simp)).set 3 (.slice q77.a2 D.body.length q77.c2) (by simp)⟩
      go_simp
      refine hK.out _ _ ⟨(S27.out.cellsM 11 rfl).c 0 _ rfl, (S27.out.cellsM 11 rfl).c 1 _ rfl, (S27.out.cellsM 11 rfl).c 2 _ rfl, (S27.out.cellsM 11 rfl).c 3 _ rfl⟩ (fun hHeld => ?_)
      clear hK K
      try simp only [Act.put, List.getElem_toArray, List.getElem_cons_succ, List.getElem_cons_zero, List.setIfInBounds_toArray, List.set_cons_zero, List.set_cons_succ]
      clear oc0 of0 oc1 of1 oc2 of2 oc3 of3
      refine wpAnyH_ready (rs := [10]) (by kernel_rfl) (by simp) ?_
      refine AllReadyH.cons rfl (fun K hK => ?_) AllReadyH.nil
      go_simp
      refine hK.out _ _ (by assumption) (fun hHeld => ?_)
      clear hK K
      try simp only [Act.put, List.getElem_toArray, List.getElem_cons_succ, List.getElem_cons_zero, List.setIfInBounds_toArray, List.set_cons_zero, List.set_cons_succ]
      refine wpAnyH_done (by kernel_rfl) ?_ _
      go_wp2_with fail
      go_meet
      exact ⟨w25.heap.size, q77, rfl, rfl, HFq77.out, by first | exact (Pt.prefix (As := [[Res.cells w25.heap.size (mailKL D q77)], mailKR D q77, mailKR (mailKmk 1 D) q29, mailKR m p41, rulesKR xs p40, [Res.cells w15.heap.size (mailKL D q29)], [Res.cells w14.heap.size (mailKL m p23)], [Res.cells k6 (mailKL D q7)], mailKR D q7, [Res.cells (w.heap.size) (mailKL m pm)]]) (Bs := [mailKR m p76, rulesKR xs p75]) (Pt.bring ((Pt.bring ((Pt.bring ((Pt.bring ((Pt.bring ((Pt.bring ((Pt.bring ((Pt.bring ((Pt.bring ((Pt.bring (S27.out) 11 rfl)) 11 rfl)) 11 rfl)) 11 rfl)) 11 rfl)) 11 rfl)) 11 rfl)) 11 rfl)) 9 rfl)) 9 rfl))⟩
  case rest =>
  obtain ⟨k67, q68, rfl, rfl, hf, hS⟩ := hcut
  have HFq68 : Seal _ := ⟨hf⟩
  have S21 : Seal (Pt w _ [[Res.cells k67 (mailKL D q68)], mailKR D q68, mailKR (mailKmk 1 D) q29, mailKR m p41, rulesKR xs p40, [Res.cells w15.heap.size (mailKL D q29)], [Res.cells w14.heap.size (mailKL m p23)], [Res.cells k6 (mailKL D q7)], mailKR D q7, [Res.cells (w.heap.size) (mailKL m pm)]]) := ⟨hS⟩
  clear hf hS S20
  generalize wc = w35 at *
  have g78 := (S21.out.cellsM 0 rfl).c 0 _ rfl
  have g79 := (S21.out.cellsM 0 rfl).c 1 _ rfl
  have g80 := (S21.out.cellsM 0 rfl).c 2 _ rfl
  have g81 := (S21.out.cellsM 0 rfl).c 3 _ rfl
  have g82 := (S21.out.cellsM 0 rfl).lt
  have g83 := (S21.out.cellsM 7 rfl).c 0 _ rfl
  have g84 := (S21.out.cellsM 7 rfl).c 1 _ rfl
  have g85 := (S21.out.cellsM 7 rfl).c 2 _ rfl
  have g86 := (S21.out.cellsM 7 rfl).c 3 _ rfl
  have g87 := (S21.out.cellsM 7 rfl).lt
  go_wp2_with fail
  refine (eqMail_K D q68 q7 _ (mailK_read HFq68.out (S21.out.nth 1 rfl)) (mailK_read HFq7.out (S21.out.nth 8 rfl)) HZD.out).mono ?_
  rintro e w36 ⟨rfl, hb⟩
  have S22 : Seal (Pt w w36 [[Res.cells k67 (mailKL D q68)], mailKR D q68, mailKR (mailKmk 1 D) q29, mailKR m p41, rulesKR xs p40, [Res.cells w15.heap.size (mailKL D q29)], [Res.cells w14.heap.size (mailKL m p23)], [Res.cells k6 (mailKL D q7)], mailKR D q7, [Res.cells (w.heap.size) (mailKL m pm)]]) := ⟨S21.out.later hb⟩
  clear hb
  clear S21 g78 g79 g80 g81 g82 g83 g84 g85 g86 g87
  have g88 := (S22.out.cellsM 5 rfl).c 0 _ rfl
  have g89 := (S22.out.cellsM 5 rfl).c 1 _ rfl
  have g90 := (S22.out.cellsM 5 rfl).c 2 _ rfl
  have g91 := (S22.out.cellsM 5 rfl).c 3 _ rfl
  have g92 := (S22.out.cellsM 5 rfl).lt
  go_wp2_with fail
  refine (heldMail_K 1 D q29 _ (mailK_read (mailK_mkF HFq29.out) (S22.out.nth 2 rfl)) HZD.out PN2.out).mono ?_
  rw [HN2.out]
  rintro e w37 ⟨rfl, hb⟩
  have S23 : Seal (Pt w w37 [[Res.cells k67 (mailKL D q68)], mailKR D q68, mailKR (mailKmk 1 D) q29, mailKR m p41, rulesKR xs p40, [Res.cells w15.heap.size (mailKL D q29)], [Res.cells w14.heap.size (mailKL m p23)], [Res.cells k6 (mailKL D q7)], mailKR D q7, [Res.cells (w.heap.size) (mailKL m pm)]]) := ⟨S22.out.later hb⟩
  clear hb
  clear S22 g88 g89 g90 g91 g92
  go_wp2
  go_ret
  exact ⟨rfl, S23.out.below⟩
end Go.Proofs.YtgniokkiejoccaaGreatDoor
