/- Contracts: HopPut, of the model and of the program; the walk of its law. -/
import Derived.Test.YtecjifbckjclfaaDoorHop
import Derived.Test.YtecjifbckjclfaaDoorMark
import Derived.Laws.AppendOwnNone
namespace Go.Proofs.YtecjifbckjclfaaDoor
open Go Go.RowKit

theorem bodyB_bd {xs : List ByteArray} (h : bodyB xs = true) : xs.length ≤ 12 ∧ ∀ x ∈ xs, x.size ≤ 40 := by
  unfold bodyB at h
  rw [Bool.and_eq_true, List.all_eq_true, decide_eq_true_eq] at h
  refine ⟨h.2, fun x hx => ?_⟩
  have := h.1 x hx
  unfold lineB at this
  rw [Bool.and_eq_true, decide_eq_true_eq] at this
  exact this.2

def hopPutR (nm : ByteArray) (xs : List ByteArray) : List ByteArray × Bool := if domB nm && bodyB xs && decide (xs.length < 12) then ((hopS ++ nm) :: xs, true) else ([], false)
theorem hopPutR_no {nm : ByteArray} {xs : List ByteArray} (h : domB nm = false ∨ bodyB xs = false ∨ 12 ≤ xs.length) : hopPutR nm xs = ([], false) := by
  unfold hopPutR
  rcases h with h | h | h
  · rw [h]; rfl
  · rw [h, Bool.and_false]; rfl
  · rw [decide_eq_false (by omega), Bool.and_false]; rfl
theorem hopPutR_yes {nm : ByteArray} {xs : List ByteArray} (h1 : domB nm = true) (h2 : bodyB xs = true) (h3 : xs.length < 12) : hopPutR nm xs = ((hopS ++ nm) :: xs, true) := by
  unfold hopPutR; rw [h1, h2, decide_eq_true h3]; rfl

/-- Two results: a row of the call's own, and whether there is one. -/
def RowOkPost (w : World) (r : List ByteArray × Bool) (e : Ending) (w' : World) : Prop :=
  ∃ ao cap, e = .returned (.tuple #[.slice ao r.1.length cap, .bool r.2]) ∧ w'.ownsRow w.heap.size 9 1 (.slice ao r.1.length cap) r.1.length (r.1.map Value.string) ∧ Below w.heap.size w w'
theorem RowOkPost.nil {w w' : World} {r : List ByteArray × Bool} (h : r = ([], false)) (hb : Below w.heap.size w w') : RowOkPost w r (.returned (.tuple #[.slice none 0 0, .bool false])) w' := by
  subst h
  exact ⟨none, 0, rfl, World.ownsRow_nil _ _ _ _, hb⟩

theorem RowOkPost.cons {w w' : World} {r : List ByteArray × Bool} {y : ByteArray} {xs : List ByteArray} {ao : Option Addr} {cap : Nat} (h : r = (y :: xs, true)) (ho : w'.ownsRow w.heap.size 9 1 (.slice ao (1 + xs.length) cap) (1 + xs.length) (.string y :: xs.map Value.string)) (hb : Below w.heap.size w w') :
    RowOkPost w r (.returned (.tuple #[.slice ao (1 + xs.length) cap, .bool true])) w' := by
  subst h
  refine ⟨ao, cap, by simp [Nat.add_comm], ?_, hb⟩
  rw [Nat.add_comm] at ho
  exact ho
theorem shape_of {w : World} {base : Nat} {e : TypeId} {size : Nat} {v : Value} {n : Nat} {xs : List Value} (h : w.ownsRow base e size v n xs) : ∃ ao cap, v = .slice ao n cap := by
  rcases h.2 with ⟨h', rfl⟩ | ⟨g, cap, cur, h', _⟩
  · exact ⟨_, _, h'⟩
  · exact ⟨_, _, h'⟩

theorem row_lit (w : World) (x : ByteArray) (B : Nat) (hB : B ≤ w.heap.size) : (w.alloc (.cells #[.string x] 9)).ownsRow B 9 1 (.slice (some ⟨w.heap.size, 0, none⟩) 1 1) 1 [.string x] :=
  World.ownsRow_lit w #[.string x] 1 hB (by unfold maxLen; omega) rfl

theorem news_row {w : World} {ad : Addr} {xs : List ByteArray} (hr : StrRow w (some ad) xs) : ∀ j u, (xs.map Value.string)[j]? = some u → w.cell? (ad.add j) = some u := by
  intro j u hj
  rw [List.getElem?_map] at hj
  obtain ⟨x, hx, rfl⟩ := Option.map_eq_some_iff.1 hj
  obtain ⟨b, off, e, hc⟩ := hr j x hx
  injection e with e
  subst e
  by_cases h0 : j = 0
  · subst h0; simpa [Addr.add] using hc
  · simpa [Addr.add, h0] using hc
theorem strs_one (xs : List ByteArray) : ∀ u ∈ xs.map Value.string, u.oneCell' = true := by
  intro u hu
  obtain ⟨x, _, rfl⟩ := List.mem_map.1 hu
  rfl

set_option maxHeartbeats 800000 in
set_option maxRecDepth 100000 in
theorem specHopPut_any (nm : ByteArray) (ao : Option Addr) (cap : Nat) (xs : List ByteArray) (w : World) (hnm : nm.size ≤ 1048576) (hr : StrRow w ao xs) (hl : xs.length ≤ 1048576) (hs : ∀ x ∈ xs, x.size ≤ 1048576) :
    Calls Tryd.prog 22 #[.string nm, .slice ao xs.length cap] w (RowOkPost w (hopPutR nm xs)) := by
  have HR := Lib.hid hr
  have HS2 : Hid (∀ x ∈ xs, x.size ≤ maxLen) := Lib.hid (fun x hx => Nat.le_trans (hs x hx) (by unfold maxLen; omega))
  have hl2 : xs.length ≤ maxLen := by unfold maxLen; omega
  obtain ⟨i0, hi, hz0, hz1, hz2⟩ := info_parts infoS
  clear hr hs
  cases h1 : domB nm
  · have hq := Lib.hid (hopPutR_no (xs := xs) (.inl h1))
    have H1 := Lib.hid h1
    clear h1
    go_enter Tryd.func22, Tryd.ntmps22
    go_wp2_with (go_at_call 86; refine (l1Domain_any nm _ (by omega)).mono ?_; rintro e w1 ⟨rfl, hb1⟩; rw [H1.out])
    go_ret2
    exact .nil hq.out hb1
  · have H1 := Lib.hid h1
    cases h2 : bodyB xs
    · have hq := Lib.hid (hopPutR_no (nm := nm) (.inr (.inl h2)))
      have H2 := Lib.hid h2
      clear h1 h2
      go_enter Tryd.func22, Tryd.ntmps22
      go_wp2_with (first | (go_at_call 86; refine (l1Domain_any nm _ (by omega)).mono ?_; rintro e w1 ⟨rfl, hb1⟩; rw [H1.out]) | (go_at_call 87; refine (l2BodyOk_any ao cap xs _ (HR.out.below hb1 (Nat.le_refl _)) hl2 HS2.out).mono ?_; rintro e w2 ⟨rfl, rfl⟩; rw [H2.out]))
      go_ret2
      exact .nil hq.out hb1
    · have H2 := Lib.hid h2
      by_cases h3 : xs.length < 12
      · have hq := Lib.hid (hopPutR_yes h1 h2 h3)
        clear h1 h2
        go_enter Tryd.func22, Tryd.ntmps22
        go_wp2_with fail
        refine (l1Domain_any nm _ (by omega)).mono ?_
        rintro e w1 ⟨rfl, hb1⟩
        rw [H1.out]
        go_wp2_with fail
        refine (l2BodyOk_any ao cap xs _ (HR.out.below hb1 (Nat.le_refl _)) hl2 HS2.out).mono ?_
        rintro e w2 ⟨rfl, rfl⟩
        rw [H2.out]
        have hz := hb1.size
        have hown := Lib.hid (row_lit w1 (({ data := #[72, 111, 112, 58, 32] } : ByteArray) ++ nm) w.heap.size hz)
        have HR2 := Lib.hid (HR.out.below (hb1.alloc hz (.cells #[.string (({ data := #[72, 111, 112, 58, 32] } : ByteArray) ++ nm)] 9)) (Nat.le_refl _))
        cases ao with
        | none =>
          obtain rfl : xs = [] := by
            cases xs with
            | nil => rfl
            | cons x l => obtain ⟨b, off, e, _⟩ := HR.out 0 x rfl; cases e
          go_wp2_with fail
          go_in
          go_wp2_with fail
          go_ret2
          exact .cons (xs := []) hq.out hown.out (hb1.alloc hz _)
        | some ad =>
          go_wp2_with fail
          go_in
          go_wp2_with (at_builtin; refine wpList_append_own _ rfl _ _ 23 rfl w.heap.size 9 i0 (.string ByteArray.empty) 1 16 Tryd.underlying23 hi hz0 hz1 hz2 rfl (by decide) _ _ _ rfl hown.out ad xs.length cap (xs.map Value.string) rfl (by simp) (news_row HR2.out) (strs_one xs) ?c3 ?c4 ?c5 ?_)
          case c3 => unfold maxLen; omega
          case c4 => omega
          case c5 => simp; omega
          intro v' w2 hown' hgrow _
          obtain ⟨ao', cap', rfl⟩ := shape_of hown'
          have HO := Lib.hid hown'
          have HB := Lib.hid ((hb1.alloc hz _).grown hgrow (by simp; omega) (fun j hj => by simp [Value.ownBlock] at hj; omega))
          clear hown' hgrow hown
          go_wp2
          go_ret2
          exact .cons hq.out HO.out HB.out
      · have hq := Lib.hid (hopPutR_no (nm := nm) (xs := xs) (.inr (.inr (by omega))))
        clear h1 h2
        go_enter Tryd.func22, Tryd.ntmps22
        go_wp2_with (first | (go_at_call 86; refine (l1Domain_any nm _ (by omega)).mono ?_; rintro e w1 ⟨rfl, hb1⟩; rw [H1.out]) | (go_at_call 87; refine (l2BodyOk_any ao cap xs _ (HR.out.below hb1 (Nat.le_refl _)) hl2 HS2.out).mono ?_; rintro e w2 ⟨rfl, rfl⟩; rw [H2.out]))
        go_ret2
        exact .nil hq.out hb1
set_option maxHeartbeats 800000 in
set_option maxRecDepth 100000 in
theorem implHopPut_any (nm : ByteArray) (ao : Option Addr) (cap : Nat) (xs : List ByteArray) (w : World) (hm : HasMax w) (hnm : nm.size ≤ 1048576) (hr : StrRow w ao xs) (hl : xs.length ≤ 1048576) (hs : ∀ x ∈ xs, x.size ≤ 1048576) :
    Calls Tryd.prog 21 #[.string nm, .slice ao xs.length cap] w (RowOkPost w (hopPutR nm xs)) := by
  have HR := Lib.hid hr
  have HS2 : Hid (∀ x ∈ xs, x.size ≤ maxLen) := Lib.hid (fun x hx => Nat.le_trans (hs x hx) (by unfold maxLen; omega))
  have hl2 : xs.length ≤ maxLen := by unfold maxLen; omega
  obtain ⟨i0, hi, hz0, hz1, hz2⟩ := info_parts infoS
  have HM := Lib.hid hm
  clear hr hs hm
  cases h1 : domB nm
  · have hq := Lib.hid (hopPutR_no (xs := xs) (.inl h1))
    have H1 := Lib.hid h1
    clear h1
    go_enter Tryd.func21, Tryd.ntmps21
    go_wp2_with (go_at_call 39; refine (implDomainOk_max nm _ HM.out (by omega)).mono ?_; rintro e w1 ⟨rfl, hb1⟩; rw [H1.out])
    go_ret2
    exact .nil hq.out hb1
  · have H1 := Lib.hid h1
    cases h2 : bodyB xs
    · have hq := Lib.hid (hopPutR_no (nm := nm) (.inr (.inl h2)))
      have H2 := Lib.hid h2
      clear h1 h2
      go_enter Tryd.func21, Tryd.ntmps21
      go_wp2_with (first | (go_at_call 39; refine (implDomainOk_max nm _ HM.out (by omega)).mono ?_; rintro e w1 ⟨rfl, hb1⟩; rw [H1.out]) | (go_at_call 83; refine (isBody_any ao cap xs _ (HR.out.below hb1 (Nat.le_refl _)) hl2 HS2.out).mono ?_; rintro e w2 ⟨rfl, rfl⟩; rw [H2.out]))
      go_ret2
      exact .nil hq.out hb1
    · have H2 := Lib.hid h2
      have h12 := (bodyB_bd h2).1
      by_cases h3 : xs.length < 12
      · have hq := Lib.hid (hopPutR_yes h1 h2 h3)
        have e12 : ((xs.length : Int) == 12) = false := by rw [beq_eq_false_iff_ne]; omega
        clear h1 h2
        go_enter Tryd.func21, Tryd.ntmps21
        go_wp2_with fail
        refine (implDomainOk_max nm _ HM.out (by omega)).mono ?_
        rintro e w1 ⟨rfl, hb1⟩
        rw [H1.out]
        go_wp2_with fail
        refine (isBody_any ao cap xs _ (HR.out.below hb1 (Nat.le_refl _)) hl2 HS2.out).mono ?_
        rintro e w2 ⟨rfl, rfl⟩
        rw [H2.out]
        have hz := hb1.size
        have hown := Lib.hid (row_lit w1 (({ data := #[72, 111, 112, 58, 32] } : ByteArray) ++ nm) w.heap.size hz)
        have HR2 := Lib.hid (HR.out.below (hb1.alloc hz (.cells #[.string (({ data := #[72, 111, 112, 58, 32] } : ByteArray) ++ nm)] 9)) (Nat.le_refl _))
        cases ao with
        | none =>
          obtain rfl : xs = [] := by
            cases xs with
            | nil => rfl
            | cons x l => obtain ⟨b, off, e, _⟩ := HR.out 0 x rfl; cases e
          go_wp2_with fail
          go_ret2
          exact .cons (xs := []) hq.out hown.out (hb1.alloc hz _)
        | some ad =>
          go_wp2_with (at_builtin; refine wpList_append_own _ rfl _ _ 23 rfl w.heap.size 9 i0 (.string ByteArray.empty) 1 16 Tryd.underlying23 hi hz0 hz1 hz2 rfl (by decide) _ _ _ rfl hown.out ad xs.length cap (xs.map Value.string) rfl (by simp) (news_row HR2.out) (strs_one xs) ?c3 ?c4 ?c5 ?_)
          case c3 => unfold maxLen; omega
          case c4 => omega
          case c5 => simp; omega
          intro v' w2 hown' hgrow _
          obtain ⟨ao', cap', rfl⟩ := shape_of hown'
          have HO := Lib.hid hown'
          have HB := Lib.hid ((hb1.alloc hz _).grown hgrow (by simp; omega) (fun j hj => by simp [Value.ownBlock] at hj; omega))
          clear hown' hgrow hown
          go_wp2
          go_ret2
          exact .cons hq.out HO.out HB.out
      · have hq := Lib.hid (hopPutR_no (nm := nm) (xs := xs) (.inr (.inr (by omega))))
        have e12 : ((xs.length : Int) == 12) = true := by rw [beq_iff_eq]; omega
        clear h1 h2
        go_enter Tryd.func21, Tryd.ntmps21
        go_wp2_with (first | (go_at_call 39; refine (implDomainOk_max nm _ HM.out (by omega)).mono ?_; rintro e w1 ⟨rfl, hb1⟩; rw [H1.out]) | (go_at_call 83; refine (isBody_any ao cap xs _ (HR.out.below hb1 (Nat.le_refl _)) hl2 HS2.out).mono ?_; rintro e w2 ⟨rfl, rfl⟩; rw [H2.out]))
        go_ret2
        exact .nil hq.out hb1
end Go.Proofs.YtecjifbckjclfaaDoor
