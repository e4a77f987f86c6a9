/- The walk of FnDomain. -/
import Derived.Test.YtaobhhjdkdoceaaDoorDrawDom
import Derived.Test.YtaobhhjdkdoceaaDoorEnds
namespace Go.Proofs.YtaobhhjdkdoceaaDoor
open Go Go.RowKit

/-- What stands: MaxLen's cell, and all that lay there at the beginning. -/
def Now (w W : World) : Prop := HasMax W ∧ Below w.heap.size w W
theorem Now.next {w W W' : World} (h : Now w W) (hb : Below W.heap.size W W') : Now w W' := ⟨h.1.below hb (Nat.le_refl _), h.2.trans (hb.mono h.2.size)⟩
theorem Now.drew {w W : World} (h : Now w W) (n : Nat) : Now w (W.drewN n) := h.next (below_drewN _ _ _)

theorem implIn_now {a b : ByteArray} {v : Bool} (e : inDomB a b = v) (ha : a.size ≤ 100) (hb : b.size ≤ 100) (w : World) : Hid (∀ W, Now w W →
    Calls Tryd.prog 31 #[.string a, .string b] W fun e W' => e = .returned (.bool v) ∧ Now w W') := Lib.hid fun W h => by
  subst e
  refine (implDomainIn_any a b W h.1 (by omega) (by omega)).mono ?_
  rintro e W' ⟨rfl, hb⟩
  exact ⟨rfl, h.next hb⟩
theorem specIn_now {a b : ByteArray} {v : Bool} (e : inDomB a b = v) (ha : a.size ≤ 100) (hb : b.size ≤ 100) (w : World) : Hid (∀ W, Now w W →
    Calls Tryd.prog 32 #[.string a, .string b] W fun e W' => e = .returned (.bool v) ∧ Now w W') := Lib.hid fun W h => by
  subst e
  refine (specDomainIn_any a b W (by omega) (by omega)).mono ?_
  rintro e W' ⟨rfl, hb⟩
  exact ⟨rfl, h.next hb⟩
theorem implOk_now {a : ByteArray} {v : Bool} (e : domB a = v) (ha : a.size ≤ 100) (w : World) : Hid (∀ W, Now w W →
    Calls Tryd.prog 33 #[.string a] W fun e W' => e = .returned (.bool v) ∧ Now w W') := Lib.hid fun W h => by
  subst e
  refine (implDomainOk_max a W h.1 (by omega)).mono ?_
  rintro e W' ⟨rfl, hb⟩
  exact ⟨rfl, h.next hb⟩
theorem specOk_now {a : ByteArray} {v : Bool} (e : domB a = v) (ha : a.size ≤ 100) (w : World) : Hid (∀ W, Now w W →
    Calls Tryd.prog 34 #[.string a] W fun e W' => e = .returned (.bool v) ∧ Now w W') := Lib.hid fun W h => by
  subst e
  refine (specDomainOk_any a W (by omega)).mono ?_
  rintro e W' ⟨rfl, hb⟩
  exact ⟨rfl, h.next hb⟩
theorem ret_now {w W : World} (h : Now w W) : Below w.heap.size w W := h.2

theorem draw_sizes {s t : ByteArray} (hs : s ∈ drawS) (ht : t ∈ drawT) : s.size ≤ 20 ∧ t.size ≤ 20 := by
  have h1 : drawS.all (fun x => decide (x.size ≤ 20)) = true := by decide +kernel
  have h2 : drawT.all (fun x => decide (x.size ≤ 20)) = true := by decide +kernel
  rw [List.all_eq_true] at h1 h2
  exact ⟨of_decide_eq_true (h1 s hs), of_decide_eq_true (h2 t ht)⟩
theorem draw_law {s t : ByteArray} (hs : s ∈ drawS) (ht : t ∈ drawT) : domLaw s t = true := by
  have h := domLaw_all
  rw [List.all_eq_true] at h
  have h := h s hs
  rw [List.all_eq_true] at h
  exact h t ht

theorem domLaw_yes {s t : ByteArray} (h : domLaw s t = true) (h1 : domB s = true) (h2 : domB t = true) :
    inDomB s s = true ∧ (domB (moreB s) = true → inDomB (moreB s) s = true) ∧ (domB (moreB s) = true → inDomB s t = true → inDomB (moreB s) t = true) ∧ inDomB s (moreB s) = false ∧ (inDomB s t = true → t.size ≤ s.size) := by
  unfold domLaw at h
  rw [h1, h2] at h
  generalize inDomB s s = x1 at h ⊢
  generalize domB (moreB s) = x2 at h ⊢
  generalize inDomB (moreB s) s = x3 at h ⊢
  generalize inDomB s t = x4 at h ⊢
  generalize inDomB (moreB s) t = x5 at h ⊢
  generalize inDomB s (moreB s) = x6 at h ⊢
  simp only [Bool.and_self, Bool.not_true, Bool.false_or, Bool.and_eq_true, Bool.or_eq_true, Bool.not_eq_true', decide_eq_true_eq] at h
  refine ⟨h.1.1.1, fun e => ?_, fun e e2 => ?_, h.1.2, fun e => ?_⟩
  · rcases h.1.1.2 with g | g
    · rw [g] at e; cases e
    · exact g.1
  · rcases h.1.1.2 with g | g
    · rw [g] at e; cases e
    · rcases g.2 with g | g
      · rw [g] at e2; cases e2
      · exact g
  · rcases h.2 with g | g
    · rw [g] at e; cases e
    · exact g

set_option maxHeartbeats 2000000 in
set_option maxRecDepth 100000 in
theorem wFnDomain.walk (ao : Option Addr) (len cap : Nat) (w : World) (hr : ByteRow w ao len) (hl : len ≤ cap) (hc : cap ≤ maxLen) (hm : HasMax w) :
    Calls Tryd.prog 5 #[.slice ao len cap] w fun e w' => e = .returned (.bool true) ∧ Below w.heap.size w w' := by
  have HM := Lib.hid hm
  have hc' := hc
  unfold maxLen at hc'
  clear hm
  by_cases hbig : 1048576 < len
  · clear hr
    go_enter Tryd.func5, Tryd.ntmps5
    go_wp2
    go_ret
    exact ⟨rfl, Below.refl _ _⟩
  have CD := Lib.hid (drawDomainIn_any ao len cap w hr hl hc)
  clear hr hc
  go_enter Tryd.func5, Tryd.ntmps5
  go_wp2_with fail
  refine CD.out.mono ?_
  rintro e w1 ⟨s, t, hs, ht, rfl, b1⟩
  have HL := Lib.hid (draw_law hs ht)
  obtain ⟨zs, zt⟩ := draw_sizes hs ht
  have N1 : Now w w1 := ⟨HM.out.below b1 (Nat.le_refl _), b1⟩
  clear hs ht b1 CD
  cases hs : domB s
  · have hi : inDomB s t = false := by unfold inDomB; rw [hs]; rfl
    have iIn := implIn_now hi (by omega) (by omega) w
    have sIn := specIn_now hi (by omega) (by omega) w
    have iS := implOk_now hs (by omega) w
    have sS := specOk_now hs (by omega) w
    clear hi HL hs
    go_wp2_with fail
    refine (iIn.out _ (by assumption)).mono ?_
    rintro e wk0 ⟨rfl, Nk0⟩
    clear N1
    go_wp2_with fail
    refine (sIn.out _ (by assumption)).mono ?_
    rintro e wk1 ⟨rfl, Nk1⟩
    clear Nk0
    go_wp2_with fail
    refine (iS.out _ (by assumption)).mono ?_
    rintro e wk2 ⟨rfl, Nk2⟩
    clear Nk1
    go_wp2_with fail
    refine (sS.out _ (by assumption)).mono ?_
    rintro e wk3 ⟨rfl, Nk3⟩
    clear Nk2
    go_wp2_with fail
    refine (iS.out _ (by assumption)).mono ?_
    rintro e wk4 ⟨rfl, Nk4⟩
    clear Nk3
    go_wp2_with fail
    refine (sIn.out _ (by assumption)).mono ?_
    rintro e wk5 ⟨rfl, Nk5⟩
    clear Nk4
    go_wp2_with fail
    refine (iS.out _ (by assumption)).mono ?_
    rintro e wk6 ⟨rfl, Nk6⟩
    clear Nk5
    go_wp2_with fail
    refine (sS.out _ (by assumption)).mono ?_
    rintro e wk7 ⟨rfl, Nk7⟩
    clear Nk6
    go_wp2
    go_ret
    exact ⟨rfl, ret_now (by assumption)⟩
  · cases ht : domB t
    · have hi : inDomB s t = false := by unfold inDomB; rw [hs, ht]; rfl
      have iIn := implIn_now hi (by omega) (by omega) w
      have sIn := specIn_now hi (by omega) (by omega) w
      have iS := implOk_now hs (by omega) w
      have sS := specOk_now hs (by omega) w
      have iT := implOk_now ht (by omega) w
      clear hi HL hs ht
      go_wp2_with fail
      refine (iIn.out _ (by assumption)).mono ?_
      rintro e wk0 ⟨rfl, Nk0⟩
      clear N1
      go_wp2_with fail
      refine (sIn.out _ (by assumption)).mono ?_
      rintro e wk1 ⟨rfl, Nk1⟩
      clear Nk0
      go_wp2_with fail
      refine (iS.out _ (by assumption)).mono ?_
      rintro e wk2 ⟨rfl, Nk2⟩
      clear Nk1
      go_wp2_with fail
      refine (sS.out _ (by assumption)).mono ?_
      rintro e wk3 ⟨rfl, Nk3⟩
      clear Nk2
      go_wp2_with fail
      refine (iS.out _ (by assumption)).mono ?_
      rintro e wk4 ⟨rfl, Nk4⟩
      clear Nk3
      go_wp2_with fail
      refine (iT.out _ (by assumption)).mono ?_
      rintro e wk5 ⟨rfl, Nk5⟩
      clear Nk4
      go_wp2_with fail
      refine (sIn.out _ (by assumption)).mono ?_
      rintro e wk6 ⟨rfl, Nk6⟩
      clear Nk5
      go_wp2_with fail
      refine (iS.out _ (by assumption)).mono ?_
      rintro e wk7 ⟨rfl, Nk7⟩
      clear Nk6
      go_wp2_with fail
      refine (sS.out _ (by assumption)).mono ?_
      rintro e wk8 ⟨rfl, Nk8⟩
      clear Nk7
      go_wp2
      go_ret
      exact ⟨rfl, ret_now (by assumption)⟩
    · obtain ⟨q1, q2, q3, q4, q5⟩ := domLaw_yes HL.out hs ht
      have zm : (moreB s).size ≤ 100 := by unfold moreB; rw [ByteArray.size_append]; show 2 + s.size ≤ 100; omega
      have iS := implOk_now hs (by omega) w
      have sS := specOk_now hs (by omega) w
      have iT := implOk_now ht (by omega) w
      have iSS := implIn_now q1 (by omega) (by omega) w
      have iSM := implIn_now q4 (by omega) zm w
      clear HL hs ht q1 q4
      cases hi : inDomB s t
      · have iIn := implIn_now hi (by omega) (by omega) w
        have sIn := specIn_now hi (by omega) (by omega) w
        cases hm : domB (moreB s)
        · have iM := implOk_now hm zm w
          clear hi hm q2 q3 q5
          go_wp2_with fail
          refine (iIn.out _ (by assumption)).mono ?_
          rintro e wk0 ⟨rfl, Nk0⟩
          clear N1
          go_wp2_with fail
          refine (sIn.out _ (by assumption)).mono ?_
          rintro e wk1 ⟨rfl, Nk1⟩
          clear Nk0
          go_wp2_with fail
          refine (iS.out _ (by assumption)).mono ?_
          rintro e wk2 ⟨rfl, Nk2⟩
          clear Nk1
          go_wp2_with fail
          refine (sS.out _ (by assumption)).mono ?_
          rintro e wk3 ⟨rfl, Nk3⟩
          clear Nk2
          go_wp2_with fail
          refine (iS.out _ (by assumption)).mono ?_
          rintro e wk4 ⟨rfl, Nk4⟩
          clear Nk3
          go_wp2_with fail
          refine (iT.out _ (by assumption)).mono ?_
          rintro e wk5 ⟨rfl, Nk5⟩
          clear Nk4
          go_wp2_with fail
          refine (iSS.out _ (by assumption)).mono ?_
          rintro e wk6 ⟨rfl, Nk6⟩
          clear Nk5
          go_wp2_with fail
          refine (iM.out _ (by assumption)).mono ?_
          rintro e wk7 ⟨rfl, Nk7⟩
          clear Nk6
          go_wp2_with fail
          refine (iSM.out _ (by assumption)).mono ?_
          rintro e wk8 ⟨rfl, Nk8⟩
          clear Nk7
          go_wp2
          go_ret
          exact ⟨rfl, ret_now (by assumption)⟩
        · have iM := implOk_now hm zm w
          have iMS := implIn_now (q2 hm) zm (by omega) w
          clear hi hm q2 q3 q5
          go_wp2_with fail
          refine (iIn.out _ (by assumption)).mono ?_
          rintro e wk0 ⟨rfl, Nk0⟩
          clear N1
          go_wp2_with fail
          refine (sIn.out _ (by assumption)).mono ?_
          rintro e wk1 ⟨rfl, Nk1⟩
          clear Nk0
          go_wp2_with fail
          refine (iS.out _ (by assumption)).mono ?_
          rintro e wk2 ⟨rfl, Nk2⟩
          clear Nk1
          go_wp2_with fail
          refine (sS.out _ (by assumption)).mono ?_
          rintro e wk3 ⟨rfl, Nk3⟩
          clear Nk2
          go_wp2_with fail
          refine (iS.out _ (by assumption)).mono ?_
          rintro e wk4 ⟨rfl, Nk4⟩
          clear Nk3
          go_wp2_with fail
          refine (iT.out _ (by assumption)).mono ?_
          rintro e wk5 ⟨rfl, Nk5⟩
          clear Nk4
          go_wp2_with fail
          refine (iSS.out _ (by assumption)).mono ?_
          rintro e wk6 ⟨rfl, Nk6⟩
          clear Nk5
          go_wp2_with fail
          refine (iM.out _ (by assumption)).mono ?_
          rintro e wk7 ⟨rfl, Nk7⟩
          clear Nk6
          go_wp2_with fail
          refine (iMS.out _ (by assumption)).mono ?_
          rintro e wk8 ⟨rfl, Nk8⟩
          clear Nk7
          go_wp2_with fail
          refine (iSM.out _ (by assumption)).mono ?_
          rintro e wk9 ⟨rfl, Nk9⟩
          clear Nk8
          go_wp2
          go_ret
          exact ⟨rfl, ret_now (by assumption)⟩
      · have iIn := implIn_now hi (by omega) (by omega) w
        have sIn := specIn_now hi (by omega) (by omega) w
        have hts := q5 hi
        cases hm : domB (moreB s)
        · have iM := implOk_now hm zm w
          clear hi hm q2 q3 q5
          go_wp2_with fail
          refine (iIn.out _ (by assumption)).mono ?_
          rintro e wk0 ⟨rfl, Nk0⟩
          clear N1
          go_wp2_with fail
          refine (sIn.out _ (by assumption)).mono ?_
          rintro e wk1 ⟨rfl, Nk1⟩
          clear Nk0
          go_wp2_with fail
          refine (iS.out _ (by assumption)).mono ?_
          rintro e wk2 ⟨rfl, Nk2⟩
          clear Nk1
          go_wp2_with fail
          refine (sS.out _ (by assumption)).mono ?_
          rintro e wk3 ⟨rfl, Nk3⟩
          clear Nk2
          go_wp2_with fail
          refine (iS.out _ (by assumption)).mono ?_
          rintro e wk4 ⟨rfl, Nk4⟩
          clear Nk3
          go_wp2_with fail
          refine (iT.out _ (by assumption)).mono ?_
          rintro e wk5 ⟨rfl, Nk5⟩
          clear Nk4
          go_wp2_with fail
          refine (iSS.out _ (by assumption)).mono ?_
          rintro e wk6 ⟨rfl, Nk6⟩
          clear Nk5
          go_wp2_with fail
          refine (iM.out _ (by assumption)).mono ?_
          rintro e wk7 ⟨rfl, Nk7⟩
          clear Nk6
          go_wp2_with fail
          refine (iSM.out _ (by assumption)).mono ?_
          rintro e wk8 ⟨rfl, Nk8⟩
          clear Nk7
          go_wp2
          go_ret
          exact ⟨rfl, ret_now (by assumption)⟩
        · have iM := implOk_now hm zm w
          have iMS := implIn_now (q2 hm) zm (by omega) w
          have iMT := implIn_now (q3 hm hi) zm (by omega) w
          clear hi hm q2 q3 q5
          go_wp2_with fail
          refine (iIn.out _ (by assumption)).mono ?_
          rintro e wk0 ⟨rfl, Nk0⟩
          clear N1
          go_wp2_with fail
          refine (sIn.out _ (by assumption)).mono ?_
          rintro e wk1 ⟨rfl, Nk1⟩
          clear Nk0
          go_wp2_with fail
          refine (iS.out _ (by assumption)).mono ?_
          rintro e wk2 ⟨rfl, Nk2⟩
          clear Nk1
          go_wp2_with fail
          refine (sS.out _ (by assumption)).mono ?_
          rintro e wk3 ⟨rfl, Nk3⟩
          clear Nk2
          go_wp2_with fail
          refine (iS.out _ (by assumption)).mono ?_
          rintro e wk4 ⟨rfl, Nk4⟩
          clear Nk3
          go_wp2_with fail
          refine (iT.out _ (by assumption)).mono ?_
          rintro e wk5 ⟨rfl, Nk5⟩
          clear Nk4
          go_wp2_with fail
          refine (iSS.out _ (by assumption)).mono ?_
          rintro e wk6 ⟨rfl, Nk6⟩
          clear Nk5
          go_wp2_with fail
          refine (iM.out _ (by assumption)).mono ?_
          rintro e wk7 ⟨rfl, Nk7⟩
          clear Nk6
          go_wp2_with fail
          refine (iMS.out _ (by assumption)).mono ?_
          rintro e wk8 ⟨rfl, Nk8⟩
          clear Nk7
          go_wp2_with fail
          refine (iMT.out _ (by assumption)).mono ?_
          rintro e wk9 ⟨rfl, Nk9⟩
          clear Nk8
          go_wp2_with fail
          refine (iSM.out _ (by assumption)).mono ?_
          rintro e wk10 ⟨rfl, Nk10⟩
          clear Nk9
          go_wp2
          go_ret
          exact ⟨rfl, ret_now (by assumption)⟩
end Go.Proofs.YtaobhhjdkdoceaaDoor
