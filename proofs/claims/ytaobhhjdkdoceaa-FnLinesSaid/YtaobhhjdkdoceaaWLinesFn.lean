/- The walk of FnLines. -/
import Derived.Test.YtaobhhjdkdoceaaSa
import Derived.Test.YtaobhhjdkdoceaaPlainCutLines
import Derived.BigFrame
import Derived.Laws.AppendOwnNone
import Derived.Laws.OwnMore
namespace Go.Proofs.Ytaobhhjdkdoceaa
open Go Go.RowKit

set_option maxHeartbeats 1000000 in
set_option maxRecDepth 100000 in
theorem drawLinesOf_any (ao : Option Addr) (len cap : Nat) (w : World) (hr : ByteRow w ao len) (hl : len ≤ cap) (hc : cap ≤ maxLen) :
    Calls Try.prog 17 #[.slice ao len cap] w fun e w' => ∃ s, s.size ≤ 700 ∧ e = .returned (.string s) ∧ Below w.heap.size w w' := by
  have C := Lib.hid (fun W h1 => l20Open_any ao len cap W h1 hl hc)
  have HR := Lib.hid hr
  clear hr hl hc
  go_enter Try.func17, Try.ntmps17
  go_wp2_with fail
  refine (C.out _ HR.out).mono ?_
  rintro e w1 ⟨b, rfl, h1, b1⟩
  have H1 := Lib.hid h1
  have B1 := Lib.hid b1
  clear h1 b1
  go_wp2_with fail
  refine (l20Body_any _ b _ 6 _ H1.out (by omega) (by omega)).mono ?_
  rintro e w2 ⟨a2, c2, xs, hx, hs, rfl, r2, h2, g2⟩
  have B2 := Lib.hid (B1.out.trans (H1.out.below g2 (Nat.le_refl _)))
  have H2 := Lib.hid h2
  have R2 := Lib.hid r2.strs
  have HS := Lib.hid hs
  clear h2 g2 r2 hs
  go_wp2_with fail
  refine (specDotPut_any a2 c2 xs _ R2.out (by unfold maxLen; omega) (fun x hx => Nat.le_trans (HS.out x hx) (by unfold maxLen; omega))).mono ?_
  rintro e w3 ⟨rfl, rfl⟩
  have hz := dotPutB_size xs
  generalize dotPutB xs = s at hz
  go_wp2_with fail
  refine (l20Bent_any _ b _ s _ H2.out (by omega) (by omega)).mono ?_
  rintro e w4 ⟨x, hx, rfl, h4, g4⟩
  have B4 := Lib.hid (B2.out.trans (H2.out.below g4 (Nat.le_refl _)))
  clear h4 g4
  go_wp2
  go_ret
  exact ⟨x, by omega, rfl, B4.out⟩

section
variable {w : World} {ops : Array Oper} {rest : List Oper} {o : Oper} {a : Act} {Q : Exit → Act → World → Prop}
theorem news_row {w : World} {ad : Addr} {xs : List ByteArray} (hr : StrRow w (some ad) xs) : ∀ j u, (xs.map Value.string)[j]? = some u → w.cell? (ad.add j) = some u := by
  intro j u hj
  rw [List.getElem?_map] at hj
  obtain ⟨x, hx, rfl⟩ := Option.map_eq_some_iff.1 hj
  obtain ⟨b, off, e, hc⟩ := hr j x hx
  injection e with e
  subst e
  by_cases h0 : j = 0
  · subst h0; simpa [Addr.add] using hc
  · simpa [Addr.add, h0] using hc
theorem strs_one (xs : List ByteArray) : ∀ u ∈ xs.map Value.string, u.oneCell' = true := by
  intro u hu
  obtain ⟨x, _, rfl⟩ := List.mem_map.1 hu
  rfl
/-- A row of texts behind a row of the call's own, the operation guarded or not. -/
theorem wpList_append_strs (hw : Region.wanted o (yielded ops a.tmps) = true) (s x : Operand) (ho : o.op = .call { callee := .builtin .append, args := #[s, x], argTypes := #[23, 23] })
    (i0 : TypeInfo) (hi : Try.prog.info? 9 = some i0) (hz0 : i0.zero = some (.string ByteArray.empty)) (hz1 : i0.size = 1) (hz2 : i0.bytes = 16)
    (B : Nat) (v : Value) (xs : List ByteArray) (n : Nat) (hn : n = xs.length) (hs : a.eval s = v) (hown : w.ownsRow B 9 1 v n (xs.map Value.string))
    (B2 : Nat) (bo : Option Addr) (c : Nat) (ys : List ByteArray) (hx : a.eval x = .slice bo ys.length c) (hy : Row w B2 bo c ys) (hl : xs.length + ys.length ≤ 100000) (hB : B ≤ w.heap.size) (zs : List ByteArray) (hzs : zs = xs ++ ys)
    (h : ∀ v' w', w'.ownsRow B 9 1 v' zs.length (zs.map Value.string) → w.grownBy w' v.ownBlock → wpList Try.prog ops Q rest (a.put o.dst v') w') : wpList Try.prog ops Q (o :: rest) a w := by
  subst hn hzs
  rcases hy.2 with ⟨hv, hn⟩ | ⟨g, cap, cur, hv, _⟩
  · obtain rfl : ys = [] := List.length_eq_zero_iff.1 hn
    rw [hv] at hx
    refine BigFrame.wpList_want hw fun K hK => ?_
    have hrun := run_append_owned_none (P := Try.prog) (w := w) B 23 o.type 9 i0 1 Try.underlying23 hi v xs.length (xs.map Value.string) hown
    unfold Oper.wp execOp
    simp only [ho, resolve, invoke, builtin, Sem.run_bind, Sem.run_pure, Result.andThen_ok, List.map_toArray, List.map_cons, List.map_nil, hs, hx, hrun]
    exact hK _ _ (h v w (by rw [List.append_nil]; exact hown) (World.grownBy.refl _ _))
  · have hv' := hv
    simp only [Value.slice.injEq, true_and] at hv'
    obtain ⟨rfl, rfl⟩ := hv'
    refine BigFrame.wpList_want hw fun K hK => ?_
    refine wp_append_own w s x 23 ho B 9 i0 (.string ByteArray.empty) 1 16 Try.underlying23 hi hz0 hz1 hz2 rfl (by decide) v xs.length (xs.map Value.string) hs hown ⟨g, 0, none⟩ ys.length c (ys.map Value.string) hx (by simp) (news_row hy.strs) (strs_one ys) (by unfold maxLen; omega) (by omega) hB fun v' w' h2 h3 _ => hK _ _ (h v' w' ?_ h3)
    rw [List.length_append, List.map_append]; exact h2
end

theorem linesOfB_small {s : ByteArray} (h : s.size ≤ 800) : linesOfB s = linesB s ∧ leftOfB s = leftOf s := ⟨if_neg (by omega), if_neg (by omega)⟩
theorem implLines_at (s : ByteArray) (hs : s.size ≤ 800) : Hid (∀ W, MaxCell W → Calls Try.prog 13 #[.string s] W (RowTextPost W (linesB s) (leftOf s))) := Lib.hid fun W hW => by
  have := implLinesOf_any s W hW (by omega)
  rwa [(linesOfB_small hs).1, (linesOfB_small hs).2] at this
theorem specLines_at (s : ByteArray) (hs : s.size ≤ 800) : Hid (∀ W, Calls Try.prog 18 #[.string s] W (RowTextPost W (linesB s) (leftOf s))) := Lib.hid fun W => by
  have := specLinesOf_any s W (by omega)
  rwa [(linesOfB_small hs).1, (linesOfB_small hs).2] at this

set_option maxHeartbeats 1000000 in
set_option maxRecDepth 100000 in
theorem wFnLines.walk (ao : Option Addr) (len cap : Nat) (bo : Option Addr) (len2 cap2 : Nat) (w : World) (hr : ByteRow w ao len) (hl : len ≤ cap) (hc : cap ≤ maxLen) (_hr2 : ByteRow w bo len2) (_hl2 : len2 ≤ cap2) (hc2 : cap2 ≤ maxLen) (hm : MaxCell w) :
    Calls Try.prog 5 #[.slice ao len cap, .slice bo len2 cap2] w fun e w' => e = .returned (.bool true) ∧ Below w.heap.size w w' := by
  obtain ⟨i0, hi, hz0, hz1, hz2⟩ := info_parts infoS
  have HM := Lib.hid hm
  have hc' := hc
  have hc2' := hc2
  unfold maxLen at hc' hc2'
  clear hm
  by_cases hbig : 1048576 < len
  · clear hr
    go_enter Try.func5, Try.ntmps5
    go_wp2
    go_ret
    exact ⟨rfl, Below.refl _ _⟩
  by_cases hbig2 : 1048576 < len2
  · clear hr
    go_enter Try.func5, Try.ntmps5
    go_wp2
    go_ret
    exact ⟨rfl, Below.refl _ _⟩
  have CD := Lib.hid (drawLinesOf_any ao len cap w hr hl hc)
  clear hr hc hc2
  go_enter Try.func5, Try.ntmps5
  go_wp2_with fail
  refine CD.out.mono ?_
  rintro e w1 ⟨s, zs, rfl, b1⟩
  have B1 := Lib.hid b1
  have M1 := Lib.hid (HM.out.below b1 (.inl (Nat.le_refl _)))
  clear b1 CD
  have CI := implLines_at s (by omega)
  have CS := specLines_at s (by omega)
  obtain ⟨kk, hkk⟩ : ∃ kk, kk = len2 % (s.size + 1) := ⟨_, rfl⟩
  have hk1 : kk ≤ s.size := by have := Nat.mod_lt len2 (show 0 < s.size + 1 by omega); omega
  have hkI : ((len2 : Int) % ((s.size : Int) + 1)) = (kk : Int) := by rw [hkk]; simp
  have zp : (s.extract 0 kk).size = kk := by rw [ByteArray.size_extract]; omega
  have CA := implLines_at (s.extract 0 kk) (by omega)
  have zx := leftOf_size (s.extract 0 kk)
  have CB := implLines_at (leftOf (s.extract 0 kk) ++ s.extract kk s.size) (by rw [ByteArray.size_append, ByteArray.size_extract]; omega)
  obtain ⟨q1, q2⟩ := lines_cut s kk
  have Q2 := Lib.hid q2.symm
  have HJ := Lib.hid (joinL_all s)
  have HRL : (linesB s).length ≤ 700 := Nat.le_trans (lines_len s) (by omega)
  have HRS : Hid (∀ x ∈ linesB s, x.size ≤ 700) := Lib.hid fun x hx => Nat.le_trans (lines_size hx) (by omega)
  have zl : (leftOf s).size ≤ 700 := Nat.le_trans (leftOf_size s) (by omega)
  have zj : (joinL (linesB s)).length ≤ 700 := by
    have := congrArg List.length HJ.out
    rw [List.length_append, ← Lib.size_eq, ← Lib.size_eq] at this; omega
  clear hkk q2
  rw [← Q2.out] at CI CS HJ zl
  have HLA : (linesB (s.extract 0 kk)).length ≤ 700 := Nat.le_trans (lines_len _) (by omega)
  generalize hA : linesB (s.extract 0 kk) = A at q1 CA HLA
  generalize leftOf (s.extract 0 kk) = X at *
  generalize linesB (X ++ s.extract kk s.size) = Bz at q1 CB
  generalize leftOf (X ++ s.extract kk s.size) = T at *
  have Q1 := Lib.hid q1
  have ZX := Lib.hid zx
  have ZJ := Lib.hid zj
  clear q1 zp zx zj hA
  generalize linesB s = R at *
  go_wp2_with fail
  refine (CI.out _ M1.out).mono ?_
  rintro e w2 ⟨a2, c2, rfl, r2, b2⟩
  have R2 := Lib.hid (StrRow.of_own r2)
  have B2 := Lib.hid (B1.out.trans (b2.mono B1.out.size))
  have M2 := Lib.hid (M1.out.below b2 (.inl (Nat.le_refl _)))
  clear r2 b2 CI
  go_wp2_with fail
  refine (CS.out _).mono ?_
  rintro e w3 ⟨a3, c3, rfl, r3, b3⟩
  have R3 := Lib.hid (StrRow.of_own r3)
  have R23 := Lib.hid (R2.out.below b3 (Nat.le_refl _))
  have B3 := Lib.hid (B2.out.trans (b3.mono B2.out.size))
  have M3 := Lib.hid (M2.out.below b3 (.inl (Nat.le_refl _)))
  clear r3 b3 CS
  go_wp2_with fail
  refine (saTexts_same a2 a3 c2 c3 R _ R23.out R3.out (by omega)).mono ?_
  rintro e w4 ⟨rfl, n4, rfl⟩
  have b4 := below_drewN w3.heap.size w3 n4
  have R24 := Lib.hid (R23.out.below b4 (Nat.le_refl _))
  have B4 := Lib.hid (B3.out.trans (b4.mono B3.out.size))
  have M4 := Lib.hid (M3.out.below b4 (.inl (Nat.le_refl _)))
  clear b4
  go_wp2_with fail
  clear R3 R23 B3 M3
  generalize w3.drewN n4 = w5 at R24 B4 M4 ⊢
  go_loopw [10, 11] (fun o i wr => ∃ (k : Nat) (x : ByteArray), o = .string x ∧ i = .int .i64 k ∧ k ≤ R.length ∧ Hid (x.data.toList = joinL (R.take k)) ∧ x.size ≤ 700 ∧ Below w5.heap.size w5 wr) (fun _ i _ => R.length - (intOf i).toNat)
  case atStart => exact ⟨0, { data := #[] }, rfl, rfl, Nat.zero_le _, Lib.hid rfl, Nat.zero_le _, Below.refl _ _⟩
  case round =>
    obtain ⟨k, x, rfl, rfl, hk, HX, hx7, hbel⟩ := hrel
    by_cases hlt : k < R.length
    · obtain ⟨y, hy⟩ : ∃ y, R[k]? = some y := ⟨_, List.getElem?_eq_getElem hlt⟩
      obtain ⟨b, off, rfl, hcell⟩ := (R24.out.below hbel (Nat.le_refl _)) k y hy
      have hys := HRS.out y (List.mem_of_getElem? hy)
      have HN : Hid ((x ++ y ++ { data := #[13, 10] }).data.toList = joinL (R.take (k + 1))) := Lib.hid (by rw [joinL_snoc hy, app_l, app_l, HX.out, List.append_assoc])
      have hsz : (x ++ y ++ { data := #[13, 10] }).size ≤ 700 := by
        rw [Lib.size_eq, HN.out]
        exact Nat.le_trans (joinL_take_len R (k + 1)) ZJ.out
      have HSZ := Lib.hid hsz
      clear hy hsz
      go_wp2
      go_roundw
      case rel => exact ⟨k + 1, _, rfl, by go_num, by omega, HN, HSZ.out, hbel⟩
      case measure => simp [intOf]; omega
    · obtain rfl : k = R.length := by omega
      have HE : Hid ((x ++ T).toList = s.toList) := Lib.hid (by
        rw [Lib.toList_data, Lib.toList_data, app_l, HX.out, List.take_length]; exact HJ.out)
      have R25 := Lib.hid (R24.out.below hbel (Nat.le_refl _))
      have B5 := Lib.hid (B4.out.trans (hbel.mono B4.out.size))
      have M5 := Lib.hid (M4.out.below hbel (.inl (Nat.le_refl _)))
      clear hbel HX R24 B4 M4
      go_wp2_with fail
      refine (CA.out _ M5.out).mono ?_
      rintro e w6 ⟨a6, c6, rfl, r6, b6⟩
      have R26 := Lib.hid (R25.out.below b6 (Nat.le_refl _))
      have R6 : Hid (Row w6 wr.heap.size a6 c6 A) := Lib.hid r6
      have B6 := Lib.hid (B5.out.trans (b6.mono B5.out.size))
      have M6 := Lib.hid (M5.out.below b6 (.inl (Nat.le_refl _)))
      have zX : X.size ≤ 800 := by have := ZX.out; rw [ByteArray.size_extract] at this; omega
      clear r6 b6
      go_wp2_with fail
      refine (CB.out _ M6.out).mono ?_
      rintro e w7 ⟨a7, c7, rfl, r7, b7⟩
      have R27 := Lib.hid (R26.out.below b7 (Nat.le_refl _))
      have R67 := Lib.hid (R6.out.later b7)
      have R7 : Hid (Row w7 w6.heap.size a7 c7 Bz) := Lib.hid r7
      have B7 := Lib.hid (B6.out.trans (b7.mono B6.out.size))
      clear r7 b7
      have O0 := Lib.hid (World.ownsRow_made (e := 9) (size := 1) w7 #[] 0 (Nat.le_refl _) (by unfold maxLen; omega) rfl)
      have A7 : Below w7.heap.size w7 (w7.alloc (.cells #[] 9)) := (Below.refl _ _).alloc (Nat.le_refl _) _
      have S6 := Lib.hid (R67.out.later A7)
      have HA7 := Lib.hid A7
      have HLB : Bz.length ≤ 700 := by
        have := congrArg List.length Q1.out
        rw [List.length_append] at this; omega
      clear A7
      go_wp2_with (at_builtin; refine wpList_append_strs (by rfl) _ _ rfl i0 hi hz0 hz1 hz2 w7.heap.size _ [] 0 rfl rfl O0.out _ a6 c6 A rfl S6.out ?c1 ?c2 A rfl ?_)
      case c1 => simp; omega
      case c2 => simp
      intro v' w8 hown' hgrow
      have HA8 := Lib.hid (HA7.out.grown hgrow (by simp) (fun k hk => by cases hk; exact Nat.le_refl _) : Below w7.heap.size w7 w8)
      have O1 := Lib.hid hown'
      have S8 := Lib.hid (R7.out.later HA8.out)
      have hz8 := HA8.out.size
      clear hown' hgrow O0 HA7 S6
      obtain ⟨ap, cp, rfl⟩ := shape_own O1.out
      go_wp2_with (at_builtin; refine wpList_append_strs (by rfl) _ _ rfl i0 hi hz0 hz1 hz2 w7.heap.size _ A A.length rfl rfl O1.out _ a7 c7 Bz rfl S8.out ?d1 ?d2 R Q1.out ?_)
      case d1 => omega
      case d2 => omega
      intro v' w9 hown' hgrow
      have HA9 := Lib.hid (HA8.out.grown hgrow hz8 (fun k hk => (O1.out.lt k hk).1) : Below w7.heap.size w7 w9)
      have O2 := Lib.hid hown'
      have S9 := Lib.hid (R27.out.below HA9.out (Nat.le_refl _))
      have B9 := Lib.hid (B7.out.trans (HA9.out.mono B7.out.size))
      clear hown' hgrow O1 HA8 S8
      obtain ⟨aq, cq, rfl⟩ := shape_own O2.out
      go_wp2_with fail
      refine (saTexts_same aq a2 cq c2 R _ (StrRow.of_own O2.out) S9.out (by omega)).mono ?_
      rintro e w10 ⟨rfl, n10, rfl⟩
      have B10 := Lib.hid (B9.out.trans ((below_drewN _ w9 n10).mono B9.out.size))
      go_wp2
      go_ret
      exact ⟨rfl, B10.out⟩
end Go.Proofs.Ytaobhhjdkdoceaa
