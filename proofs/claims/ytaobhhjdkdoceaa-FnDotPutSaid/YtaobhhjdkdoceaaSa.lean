/- Texts compared; what is drawn to be read as lines that are sent; the walk of FnDotGet. -/
import Derived.Test.YtaobhhjdkdoceaaDrawList
import Derived.Test.YtaobhhjdkdoceaaWDotGet
namespace Go.Proofs.Ytaobhhjdkdoceaa
open Go Go.RowKit

theorem saTexts_same (ao bo : Option Addr) (c1 c2 : Nat) (xs : List ByteArray) (w : World) (ha : StrRow w ao xs) (hb : StrRow w bo xs) (hl : xs.length ≤ 1048576) :
    Calls Try.prog 14 #[.slice ao xs.length c1, .slice bo xs.length c2] w fun e w' => e = .returned (.bool true) ∧ ∃ n, w' = w.drewN n := by
  have HA := Lib.hid ha
  have HB := Lib.hid hb
  clear ha hb
  go_enter Try.func14, Try.ntmps14
  go_wp2
  go_loopw [5] (fun i wr => ∃ k n : Nat, k ≤ xs.length ∧ i = .int .i64 k ∧ wr = w.drewN n) (fun i _ => xs.length - (intOf i).toNat)
  case atStart => exact ⟨0, 0, Nat.zero_le _, rfl, rfl⟩
  case round =>
    obtain ⟨k, n, hk, rfl, rfl⟩ := hrel
    by_cases hlt : k < xs.length
    · obtain ⟨x, hx⟩ : ∃ x, xs[k]? = some x := ⟨_, List.getElem?_eq_getElem hlt⟩
      obtain ⟨b, off, rfl, hcell⟩ := HA.out k x hx
      obtain ⟨b', off', rfl, hcell'⟩ := HB.out k x hx
      clear hx
      go_wp2
      go_quiet (fail)
      go_wp2
      exact ⟨⟨k + 1, n + nq, by omega, by go_num, rfl⟩, by simp [intOf]; omega⟩
    · go_wp2
      go_ret
      exact ⟨rfl, n, rfl⟩

theorem lines_flat : ∀ (D : List ByteArray), (∀ x ∈ D, 13 ∉ x.data.toList) → linesB (mk (D.flatMap fun x => x.data.toList ++ [13, 10])) = D
  | [], _ => by
    have h0 : Lib.indexB (mk []) crlf = -1 := rfl
    exact (linesB_none h0).1
  | x :: D, h => by
    have e : (x :: D).flatMap (fun x => x.data.toList ++ [13, 10]) = x.data.toList ++ [13, 10] ++ D.flatMap fun x => x.data.toList ++ [13, 10] := by rw [List.flatMap_cons]
    rw [e, (linesB_cons (h x List.mem_cons_self)).1, lines_flat D fun y hy => h y (List.mem_cons_of_mem _ hy), mk_of]
theorem pre_no13 {y : ByteArray} (h : lineB y = true) : 13 ∉ (dotPre y).data.toList := by
  have := lineB_no13 h
  unfold dotPre
  split
  · rw [mk_data, List.mem_cons]
    rintro (e | e)
    · exact absurd e (by decide)
    · exact this e
  · exact this
theorem dots_flat (xs : List ByteArray) : dotsAll xs = (xs.map dotPre ++ [mk [46]]).flatMap fun x => x.data.toList ++ [13, 10] := by
  unfold dotsAll dotsL
  rw [List.flatMap_append, List.flatMap_map, List.append_assoc]
  congr 1
  rw [show dotLine = fun a => (dotPre a).data.toList ++ [13, 10] from funext dotLine_pre]
theorem dotGetR_inv {s : ByteArray} {xs : List ByteArray} (h : dotGetR s = (xs, true)) : s.size ≤ 800 ∧ bodyB xs = true ∧ dotsAll xs = s.data.toList := by
  unfold dotGetR at h
  split at h
  · rename_i hc
    simp only [Prod.mk.injEq, and_true] at h
    subst h
    simpa [and_assoc] using hc
  · simp at h
theorem bodyB_lines {xs : List ByteArray} (h : bodyB xs = true) : ∀ y ∈ xs, lineB y = true := by
  unfold bodyB at h
  rw [Bool.and_eq_true, List.all_eq_true] at h
  exact h.1
theorem dotGetR_put {s : ByteArray} {xs : List ByteArray} (h : dotGetR s = (xs, true)) : dotPutB xs = s := by
  obtain ⟨_, h2, h3⟩ := dotGetR_inv h
  unfold dotPutB
  rw [if_pos h2, h3]
def moreDot (s : ByteArray) : ByteArray := s ++ { data := #[46, 13, 10] }
theorem dotGetR_more {s : ByteArray} {xs : List ByteArray} (h : dotGetR s = (xs, true)) : dotGetR (moreDot s) = ([], false) := by
  obtain ⟨_, h2, h3⟩ := dotGetR_inv h
  by_cases hb : 800 < (moreDot s).size
  · exact dotGetR_big hb
  · refine dotGetR_not hb (steps_undot (x := mk [46]) ?_ (by decide +kernel))
    have e : moreDot s = mk ((xs.map dotPre ++ [mk [46]] ++ [mk [46]]).flatMap fun x => x.data.toList ++ [13, 10]) := by
      refine mk_eq ?_
      unfold moreDot
      rw [List.flatMap_append, ← dots_flat, h3]
      simp [mk_data]
    rw [e, lines_flat, List.dropLast_concat]
    · exact List.mem_append_right _ List.mem_cons_self
    · intro x hx
      rcases List.mem_append.1 hx with hx | hx
      · rcases List.mem_append.1 hx with hx | hx
        · obtain ⟨y, hy, rfl⟩ := List.mem_map.1 hx
          exact pre_no13 (bodyB_lines h2 y hy)
        · rw [List.mem_singleton.1 hx]; decide
      · rw [List.mem_singleton.1 hx]; decide
theorem dotPutB_size (xs : List ByteArray) : (dotPutB xs).size ≤ 600 := by
  unfold dotPutB
  split
  · rename_i h
    obtain ⟨h1, h2⟩ := bodyB_bounds h
    have := dotsL_length h2
    have e : (dotsAll xs).length = (dotsL xs).length + 3 := by unfold dotsAll; simp
    show (dotsAll xs).toArray.size ≤ 600
    rw [List.size_toArray, e]; omega
  · exact Nat.zero_le _

set_option maxHeartbeats 1000000 in
set_option maxRecDepth 100000 in
theorem drawDotGet_any (ao : Option Addr) (len cap : Nat) (w : World) (hr : ByteRow w ao len) (hl : len ≤ cap) (hc : cap ≤ maxLen) :
    Calls Try.prog 15 #[.slice ao len cap] w fun e w' => ∃ s, s.size ≤ 700 ∧ e = .returned (.string s) ∧ Below w.heap.size w w' := by
  have C := Lib.hid (fun W h1 => l20Open_any ao len cap W h1 hl hc)
  have HR := Lib.hid hr
  clear hr hl hc
  go_enter Try.func15, Try.ntmps15
  go_wp2_with fail
  refine (C.out _ HR.out).mono ?_
  rintro e w1 ⟨b, rfl, h1, b1⟩
  have H1 := Lib.hid h1
  have B1 := Lib.hid b1
  clear h1 b1
  go_wp2_with fail
  refine (l20Body_any _ b _ 8 _ H1.out (by omega) (by omega)).mono ?_
  rintro e w2 ⟨a2, c2, xs, hx, hs, rfl, r2, h2, g2⟩
  have B2 := Lib.hid (B1.out.trans (H1.out.below g2 (Nat.le_refl _)))
  have H2 := Lib.hid h2
  have R2 := Lib.hid r2.strs
  have HS := Lib.hid hs
  clear h2 g2 r2 hs
  go_wp2_with fail
  refine (specDotPut_any a2 c2 xs _ R2.out (by unfold maxLen; omega) (fun x hx => Nat.le_trans (HS.out x hx) (by unfold maxLen; omega))).mono ?_
  rintro e w3 ⟨rfl, rfl⟩
  have hz := dotPutB_size xs
  generalize dotPutB xs = s at hz
  go_wp2_with fail
  refine (pick_at 2 H2.out rfl (by omega) (by decide) (by decide)).mono ?_
  rintro e w3 ⟨k, rfl, hk, h3, g3⟩
  have B3 := Lib.hid (B2.out.trans (H2.out.below g3 (Nat.le_refl _)))
  have H3 := Lib.hid h3
  clear h3 g3
  by_cases k0 : k = 0
  · subst k0
    go_wp2
    go_ret
    exact ⟨s, by omega, rfl, B3.out⟩
  · have hb0 : ((k : Int) == 0) = false := by rw [beq_eq_false_iff_ne]; omega
    go_wp2_with fail
    refine (l20Bent_any _ b _ s _ H3.out (by omega) (by omega)).mono ?_
    rintro e w4 ⟨x, hx, rfl, h4, g4⟩
    have B4 := Lib.hid (B3.out.trans (H3.out.below g4 (Nat.le_refl _)))
    clear h4 g4
    go_wp2
    go_ret
    exact ⟨x, by omega, rfl, B4.out⟩
end Go.Proofs.Ytaobhhjdkdoceaa
