/- The walk of FnDotPut. -/
import Derived.Test.YtaobhhjdkdoceaaSa
import Derived.Test.YtaobhhjdkdoceaaDrawAny
namespace Go.Proofs.Ytaobhhjdkdoceaa
open Go Go.RowKit

theorem pre_ne (y : ByteArray) : (dotPre y).toList ≠ [46] := by
  rw [Lib.toList_data]
  unfold dotPre
  split
  · rename_i h
    obtain ⟨h0, _⟩ := dotted_true h
    rw [mk_data]
    intro e
    injection e with _ e
    rw [Lib.size_eq, e] at h0
    cases h0
  · rename_i h
    intro e
    apply h
    unfold dotted
    rw [e]; rfl
theorem dots_back {xs : List ByteArray} (h : bodyB xs = true) : linesB (mk (dotsAll xs)) = xs.map dotPre ++ [mk [46]] ∧ leftOf (mk (dotsAll xs)) = mk [] ∧ dotGetR (mk (dotsAll xs)) = (xs, true) := by
  obtain ⟨h1, h2⟩ := lines_dots xs (bodyB_lines h)
  have ho : outsB (mk (dotsAll xs)) = xs := by
    unfold outsB
    rw [h1, List.dropLast_concat, List.map_map]
    have : ∀ l : List ByteArray, l.map (strip ∘ dotPre) = l := fun l => by
      induction l with
      | nil => rfl
      | cons y l ih => rw [List.map_cons, ih]; exact congrArg (· :: l) (undot_pre y).2
    exact this xs
  have hz := dotPutB_size xs
  unfold dotPutB at hz
  rw [if_pos h] at hz
  refine ⟨h1, h2, ?_⟩
  have := dotGetR_yes (s := mk (dotsAll xs)) (Nat.le_trans hz (by omega)) (by rw [ho]; exact h) (by rw [ho, mk_data])
  rw [this, ho]

set_option maxHeartbeats 1000000 in
set_option maxRecDepth 100000 in
theorem drawDotPut_any (ao : Option Addr) (len cap : Nat) (w : World) (hr : ByteRow w ao len) (hl : len ≤ cap) (hc : cap ≤ maxLen) :
    Calls Try.prog 9 #[.slice ao len cap] w fun e w' => ∃ ao cap xs, xs.length ≤ 13 ∧ (∀ x ∈ xs, x.size ≤ 45) ∧ e = .returned (.slice ao xs.length cap) ∧ StrRow w' ao xs ∧ Below w.heap.size w w' := by
  have C := Lib.hid (fun W h1 => l20Open_any ao len cap W h1 hl hc)
  have HR := Lib.hid hr
  clear hr hl hc
  go_enter Try.func9, Try.ntmps9
  go_wp2_with fail
  refine (C.out _ HR.out).mono ?_
  rintro e w1 ⟨b, rfl, h1, b1⟩
  have H1 := Lib.hid h1
  have B1 := Lib.hid b1
  clear h1 b1
  go_wp2_with fail
  refine (l20AnyBody_any _ b _ _ H1.out (by omega)).mono ?_
  rintro e w2 ⟨a2, c2, xs, hx, hs, rfl, r2, h2, g2⟩
  have B2 := Lib.hid (B1.out.trans (H1.out.below g2 (Nat.le_refl _)))
  have R2 := Lib.hid r2.strs
  have HS := Lib.hid hs
  clear h2 g2 r2 hs
  go_wp2
  go_ret
  exact ⟨a2, c2, xs, hx, HS.out, rfl, R2.out, B2.out⟩

set_option maxHeartbeats 2000000 in
set_option maxRecDepth 100000 in
theorem wFnDotPut.walk (ao : Option Addr) (len cap : Nat) (w : World) (hr : ByteRow w ao len) (hl : len ≤ cap) (hc : cap ≤ maxLen) (hm : MaxCell w) :
    Calls Try.prog 3 #[.slice ao len cap] w fun e w' => e = .returned (.bool true) ∧ Below w.heap.size w w' := by
  have HM := Lib.hid hm
  have hc' := hc
  unfold maxLen at hc'
  clear hm
  by_cases hbig : 1048576 < len
  · clear hr
    go_enter Try.func3, Try.ntmps3
    go_wp2
    go_ret
    exact ⟨rfl, Below.refl _ _⟩
  have CD := Lib.hid (drawDotPut_any ao len cap w hr hl hc)
  clear hr hc
  go_enter Try.func3, Try.ntmps3
  go_wp2_with fail
  refine CD.out.mono ?_
  rintro e w1 ⟨a1, c1, xs, hx, hs, rfl, r1, b1⟩
  have B1 := Lib.hid b1
  have M1 := Lib.hid (HM.out.below b1 (.inl (Nat.le_refl _)))
  have R1 := Lib.hid r1
  have HS : Hid (∀ x ∈ xs, x.size ≤ maxLen) := Lib.hid fun x hx => Nat.le_trans (hs x hx) (by unfold maxLen; omega)
  have HL : Hid (xs.length ≤ maxLen) := Lib.hid (by unfold maxLen; omega)
  clear b1 r1 CD hs
  have CI := Lib.hid (fun W h => implDotPut_any a1 c1 xs W h HL.out HS.out)
  have CS := Lib.hid (fun W h => specDotPut_any a1 c1 xs W h HL.out HS.out)
  cases hb : bodyB xs
  · rw [show dotPutB xs = { data := #[] } by unfold dotPutB; rw [hb]; rfl] at CI CS
    clear hb
    go_wp2_with fail
    refine (CI.out _ R1.out).mono ?_
    rintro e w2 ⟨rfl, b2⟩
    have B2 := Lib.hid (B1.out.trans (b2.mono B1.out.size))
    have R2 := Lib.hid (R1.out.below b2 (Nat.le_refl _))
    clear b2
    go_wp2_with fail
    refine (CS.out _ R2.out).mono ?_
    rintro e w3 ⟨rfl, rfl⟩
    go_wp2_with fail
    refine (CS.out _ R2.out).mono ?_
    rintro e w3 ⟨rfl, rfl⟩
    go_wp2
    go_ret
    exact ⟨rfl, B2.out⟩
  · obtain ⟨p1, p2, p3⟩ := dots_back hb
    have p2 : leftOf (mk (dotsAll xs)) = { data := #[] } := p2
    have hz := dotPutB_size xs
    have es : dotPutB xs = mk (dotsAll xs) := by unfold dotPutB; rw [if_pos hb]; rfl
    rw [es] at CI CS hz
    have CL := Lib.hid (fun W hW => implLinesOf_any (mk (dotsAll xs)) W hW (by omega))
    have CG := Lib.hid (fun W hW => implDotGet_any (mk (dotsAll xs)) W hW (by omega))
    rw [show linesOfB (mk (dotsAll xs)) = linesB (mk (dotsAll xs)) from if_neg (by omega), show leftOfB (mk (dotsAll xs)) = leftOf (mk (dotsAll xs)) from if_neg (by omega), p1, p2] at CL
    rw [p3] at CG
    have hne : (mk (dotsAll xs)).toList ≠ [] := by rw [Lib.toList_data, mk_data]; exact dotsAll_ne xs
    generalize mk (dotsAll xs) = s at *
    have hne2 : s.toList.isEmpty = false := by simpa [List.isEmpty_iff] using hne
    have hne3 : (!s.toList.isEmpty) = true := by rw [hne2]; rfl
    have hML : (xs.map dotPre ++ [mk [46]]).length = xs.length + 1 := by simp
    obtain ⟨M, hMe⟩ : ∃ M, M = xs.map dotPre ++ [mk [46]] := ⟨_, rfl⟩
    rw [← hMe] at CL hML
    have HMe := Lib.hid hMe
    clear hb p1 p2 p3 es hMe hz
    go_wp2_with fail
    refine (CI.out _ R1.out).mono ?_
    rintro e w2 ⟨rfl, b2⟩
    have B2 := Lib.hid (B1.out.trans (b2.mono B1.out.size))
    have R2 := Lib.hid (R1.out.below b2 (Nat.le_refl _))
    have M2 := Lib.hid (M1.out.below b2 (.inl (Nat.le_refl _)))
    clear b2
    go_wp2_with fail
    refine (CS.out _ R2.out).mono ?_
    rintro e w3 ⟨rfl, rfl⟩
    go_wp2_with fail
    refine (CG.out _ M2.out).mono ?_
    rintro e w3 ⟨a3, c3, rfl, r3, b3⟩
    have B3 := Lib.hid (B2.out.trans (b3.mono B2.out.size))
    have R13 := Lib.hid (R2.out.below b3 (Nat.le_refl _))
    have R3 := Lib.hid (StrRow.of_own r3)
    have M3 := Lib.hid (M2.out.below b3 (.inl (Nat.le_refl _)))
    clear b3 r3
    go_wp2_with fail
    refine (CL.out _ M3.out).mono ?_
    rintro e w4 ⟨a4, c4, rfl, r4, b4⟩
    have B4 := Lib.hid (B3.out.trans (b4.mono B3.out.size))
    have R14 := Lib.hid (R13.out.below b4 (Nat.le_refl _))
    have R34 := Lib.hid (R3.out.below b4 (Nat.le_refl _))
    have R4 := Lib.hid (StrRow.of_own r4)
    clear b4 r4
    go_wp2_with fail
    clear R13 R3 B3 M3 R2 B2 M2 CI CS CG CL
    go_loopw [9] (fun i wr => ∃ k : Nat, i = .int .i64 k ∧ k ≤ xs.length + 1 ∧ Below w4.heap.size w4 wr) (fun i _ => xs.length + 1 - (intOf i).toNat)
    case atStart => exact ⟨0, rfl, Nat.zero_le _, Below.refl _ _⟩
    case round =>
      obtain ⟨k, rfl, hk, hbel⟩ := hrel
      by_cases hlt : k < xs.length
      · obtain ⟨x, hx1⟩ : ∃ x, xs[k]? = some x := ⟨_, List.getElem?_eq_getElem hlt⟩
        have hy : M[k]? = some (dotPre x) := by rw [HMe.out, List.getElem?_append_left (by simpa using hlt), List.getElem?_map, hx1]; rfl
        obtain ⟨b, off, rfl, hcell⟩ := (R4.out.below hbel (Nat.le_refl _)) k _ hy
        have hn1 := pre_ne x
        have hn2 : ((dotPre x).toList == [46]) = false := by rw [beq_eq_false_iff_ne]; exact hn1
        generalize dotPre x = y at hcell hn1 hn2
        have hb1 : ((k : Int) == (xs.length : Int)) = false := by rw [beq_eq_false_iff_ne]; omega
        clear hx1 hy
        go_wp2
        go_roundw
        case rel => exact ⟨k + 1, by go_num, by omega, hbel⟩
        case measure => simp [intOf]; omega
      · by_cases hke : k = xs.length
        · subst hke
          have hy : M[xs.length]? = some { data := #[46] } := by rw [HMe.out, List.getElem?_append_right (by simp)]; simp; rfl
          obtain ⟨b, off, rfl, hcell⟩ := (R4.out.below hbel (Nat.le_refl _)) xs.length _ hy
          clear hy
          go_wp2
          go_roundw
          case rel => exact ⟨xs.length + 1, by go_num, by omega, hbel⟩
          case measure => simp [intOf]
        · obtain rfl : k = xs.length + 1 := by omega
          have R15 := Lib.hid (R14.out.below hbel (Nat.le_refl _))
          have R35 := Lib.hid (R34.out.below hbel (Nat.le_refl _))
          have B5 := Lib.hid (B4.out.trans (hbel.mono B4.out.size))
          clear hbel R14 R34 B4
          go_wp2_with fail
          refine (saTexts_same a3 a1 c3 c1 xs _ R35.out R15.out (by omega)).mono ?_
          rintro e w6 ⟨rfl, n6, rfl⟩
          have B6 := Lib.hid (B5.out.trans ((below_drewN _ wr n6).mono B5.out.size))
          go_wp2
          go_ret
          exact ⟨rfl, B6.out⟩
end Go.Proofs.Ytaobhhjdkdoceaa
