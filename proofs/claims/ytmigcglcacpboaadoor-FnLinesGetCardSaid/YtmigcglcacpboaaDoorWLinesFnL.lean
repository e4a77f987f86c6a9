/- The walks of FnLinesPut and FnLinesGet. -/
import Derived.Test.YtmigcglcacpboaaDoorLinesGet
import Derived.Test.YtmigcglcacpboaaDoorDrawBytes
import Derived.Test.YtmigcglcacpboaaDoorMails
namespace Go.Proofs.YtmigcglcacpboaaDoor
open Go Go.RowKit

theorem textsSame_any (ao bo : Option Addr) (c1 c2 : Nat) (xs : List ByteArray) (w : World) (ha : StrRow w ao xs) (hb : StrRow w bo xs) (hl : xs.length ≤ 1048576) :
    Calls Tryd.prog 19 #[.slice ao xs.length c1, .slice bo xs.length c2] w fun e w' => e = .returned (.bool true) ∧ ∃ n, w' = w.drewN n := by
  have HA := Lib.hid ha
  have HB := Lib.hid hb
  clear ha hb
  go_enter Tryd.func19, Tryd.ntmps19
  go_wp2
  go_loopw [5] (fun i wr => ∃ k n : Nat, k ≤ xs.length ∧ i = .int .i64 k ∧ wr = w.drewN n) (fun i _ => xs.length - (intOf i).toNat)
  case atStart => exact ⟨0, 0, Nat.zero_le _, rfl, rfl⟩
  case round =>
    obtain ⟨k, n, hk, rfl, rfl⟩ := hrel
    by_cases hlt : k < xs.length
    · obtain ⟨x, hx⟩ : ∃ x, xs[k]? = some x := ⟨_, List.getElem?_eq_getElem hlt⟩
      obtain ⟨b, off, rfl, hcell⟩ := HA.out k x hx
      obtain ⟨b', off', rfl, hcell'⟩ := HB.out k x hx
      clear hx
      go_wp2
      go_quiet (fail)
      go_wp2
      exact ⟨⟨k + 1, n + nq, by omega, by go_num, rfl⟩, by simp [intOf]; omega⟩
    · go_wp2
      go_ret
      exact ⟨rfl, n, rfl⟩

theorem drawLinesPut_any (ao : Option Addr) (len cap : Nat) (w : World) (hr : ByteRow w ao len) (hl : len ≤ cap) (hc : cap ≤ maxLen) :
    Calls Tryd.prog 17 #[.slice ao len cap] w fun e w' => ∃ s : ByteArray, s.size ≤ 241 ∧ e = .returned (.string s) ∧ Below w.heap.size w w' := by
  have C := Lib.hid (fun W h1 => l20Open_any ao len cap W h1 hl hc)
  have HR := Lib.hid hr
  clear hr hl hc
  go_enter Tryd.func17, Tryd.ntmps17
  go_wp2_with fail
  refine (C.out _ HR.out).mono ?_
  rintro e w1 ⟨b, rfl, h1, b1⟩
  have H1 := Lib.hid h1
  have B1 := Lib.hid b1
  clear h1 b1
  go_wp2_with fail
  refine (l20Bytes_any _ b _ _ H1.out (by omega)).mono ?_
  rintro e w2 ⟨s, hs, rfl, h2, g2⟩
  have B2 := Lib.hid (B1.out.trans (H1.out.below g2 (Nat.le_refl _)))
  clear h2 g2
  go_wp2
  go_ret
  exact ⟨s, hs, rfl, B2.out⟩

def abM (ls : List ByteArray) : MailD := ⟨⟨#[97]⟩, ⟨#[98]⟩, [(⟨#[97]⟩, ⟨#[98]⟩)], ls⟩
theorem abM_ok {u : ByteArray} (h : u.size ≤ 240) : mailB (abM (linesPutB u)) = true := by
  unfold mailB
  have h1 : senderB (abM (linesPutB u)).fu (abM (linesPutB u)).fd = true := by
    show senderB ⟨#[97]⟩ ⟨#[98]⟩ = true
    decide +kernel
  have h2 : toB (abM (linesPutB u)).rc = true := by
    show toB [(⟨#[97]⟩, ⟨#[98]⟩)] = true
    decide +kernel
  have h3 : bodyB (abM (linesPutB u)).body = true := linesPutB_body h
  rw [h1, h2, h3]; rfl

set_option maxHeartbeats 4000000 in
set_option maxRecDepth 100000 in
theorem wFnLinesPut.walk (ao : Option Addr) (len cap : Nat) (w : World) (hr : ByteRow w ao len) (hl : len ≤ cap) (hc : cap ≤ maxLen) (hm : HasMax w) (hf : FigCell w) :
    Calls Tryd.prog 5 #[.slice ao len cap] w fun e w' => e = .returned (.bool true) ∧ Below w.heap.size w w' := by
  have HF := Lib.hid hf
  have HM := Lib.hid hm
  clear hf hm
  have hc' := hc
  unfold maxLen at hc'
  by_cases hbig : 1048576 < len
  · clear hr
    go_enter Tryd.func5, Tryd.ntmps5
    go_wp2
    go_ret
    exact ⟨rfl, Below.refl _ _⟩
  have CD := Lib.hid (drawLinesPut_any ao len cap w hr hl hc)
  clear hr hc
  go_enter Tryd.func5, Tryd.ntmps5
  go_wp2_with fail
  refine CD.out.mono ?_
  rintro e w1 ⟨s, zs, rfl, b1⟩
  have B1 := Lib.hid b1
  have F1 := Lib.hid (HF.out.below b1 (.inl (Nat.le_refl _)))
  clear b1 CD
  have C := Lib.hid (fun w => specLinesPut_any s w (by unfold maxLen; omega))
  have D := Lib.hid (fun w hf => implLinesPut_any s w (by unfold maxLen; omega) hf)
  have hln := linesPutB_len s
  obtain ⟨ls, hls⟩ : ∃ ls, linesPutB s = ls := ⟨_, rfl⟩
  rw [hls] at C D hln
  have HLS := Lib.hid hls
  clear hls
  go_wp2_with fail
  refine (D.out _ F1.out).mono ?_
  rintro e w2 ⟨a2, c2, rfl, r2, b2⟩
  have R2 := Lib.hid (StrRow.of_own r2)
  have HC2 := Lib.hid (Row.len_cap r2)
  have B2 := Lib.hid (B1.out.trans (b2.mono B1.out.size))
  clear r2 b2 B1 D
  go_wp2_with fail
  refine (C.out _).mono ?_
  rintro e w3 ⟨a3, c3, rfl, r3, b3⟩
  have R3 := Lib.hid (StrRow.of_own r3)
  have R23 := Lib.hid (R2.out.below b3 (Nat.le_refl _))
  have B3 := Lib.hid (B2.out.trans (b3.mono B2.out.size))
  clear r3 b3 B2 R2
  go_wp2_with fail
  refine (textsSame_any a2 a3 c2 c3 ls _ R23.out R3.out (by omega)).mono ?_
  rintro e w4 ⟨rfl, n4, rfl⟩
  have b4 := below_drewN w3.heap.size w3 n4
  have R24 := Lib.hid (R23.out.below b4 (Nat.le_refl _))
  have B4 := Lib.hid (B3.out.trans (b4.mono B3.out.size))
  clear b4 B3 R23 R3
  by_cases h240 : 240 < s.size
  · go_wp2_with fail
    refine (C.out _).mono ?_
    rintro e w5 ⟨a5, c5, rfl, r5, b5⟩
    have R5 := Lib.hid (StrRow.of_own r5)
    have R25 := Lib.hid (R24.out.below b5 (Nat.le_refl _))
    have B5 := Lib.hid (B4.out.trans (b5.mono B4.out.size))
    clear r5 b5 B4
    go_wp2_with fail
    refine (textsSame_any a2 a5 c2 c5 ls _ R25.out R5.out (by omega)).mono ?_
    rintro e w6 ⟨rfl, n6, rfl⟩
    go_wp2
    go_ret
    exact ⟨rfl, drewN_below B5.out n6⟩
  · have HB := Lib.hid (linesPutB_body (u := s) (by omega))
    rw [HLS.out] at HB
    obtain ⟨h12, h40⟩ := bodyB_bounds HB.out
    have H40 := Lib.hid h40
    have F4 := Lib.hid (HF.out.below B4.out (.inl (Nat.le_refl _)))
    have CG := Lib.hid (implLinesGet_any a2 c2 ls _ R24.out (by unfold maxLen; omega) HC2.out (fun x hx => Nat.le_trans (H40.out x hx) (by unfold maxLen; omega)) F4.out)
    rw [show linesGetB ls = (s, true) by rw [← HLS.out]; exact linesGetB_put (by omega)] at CG
    have qs : (s.toList == s.toList) = true := by simp
    have HMB : Hid (mailB (abM ls) = true) := Lib.hid (by rw [← HLS.out]; exact abM_ok (by omega))
    clear h40 C
    go_wp2_with fail
    refine CG.out.mono ?_
    rintro e w5 ⟨rfl, b5⟩
    have R25 := Lib.hid (R24.out.below b5 (Nat.le_refl _))
    have B5 := Lib.hid (B4.out.trans (b5.mono B4.out.size))
    have hz5 := B5.out.size
    clear b5 B4 R24 CG F4
    have b6 : Below w5.heap.size w5 ((w5.alloc (.cells #[.string { data := #[97] }, .string { data := #[98] }] 33)).alloc (.cells #[.string { data := #[97] }, .string { data := #[98] }] 33)) := ((Below.refl _ _).alloc (Nat.le_refl _) _).alloc (by simp) _
    have R26 := Lib.hid (R25.out.below b6 (Nat.le_refl _))
    have B6 := Lib.hid (B5.out.trans (b6.mono hz5))
    have M6 := Lib.hid (HM.out.below B6.out (Nat.le_refl _))
    have hAT : MailAt ((w5.alloc (.cells #[.string { data := #[97] }, .string { data := #[98] }] 33)).alloc (.cells #[.string { data := #[97] }, .string { data := #[98] }] 33)) (abM ls) (some ⟨w5.heap.size + 1, 0, none⟩) a2 := by
      refine ⟨?_, R26.out⟩
      intro k p hp
      have hk : k = 0 := by
        have := (List.getElem?_eq_some_iff.1 hp).1
        have e : (abM ls).rc.length = 1 := rfl
        omega
      subst hk
      obtain rfl : (⟨#[97]⟩, ⟨#[98]⟩) = p := Option.some.inj hp
      have e1 := World.cell?_alloc_new (w5.alloc (.cells #[.string { data := #[97] }, .string { data := #[98] }] 33)) #[.string { data := #[97] }, .string { data := #[98] }] 33
      rw [World.size_alloc] at e1
      exact ⟨_, _, rfl, e1 0, e1 1⟩
    have hSZ : MailSz 1048576 (abM ls) := ⟨by show 1 ≤ 1048576; omega, by show 1 ≤ 1048576; omega, by show 1 ≤ 1048576; omega, fun p hp => by
      obtain rfl : p = (⟨#[97]⟩, ⟨#[98]⟩) := List.mem_singleton.1 hp
      exact ⟨by show 1 ≤ 1048576; omega, by show 1 ≤ 1048576; omega⟩, by show ls.length ≤ 1048576; omega, fun x hx => Nat.le_trans (H40.out x hx) (by omega)⟩
    have CM := Lib.hid (implMailOk_any (abM ls) (some ⟨w5.heap.size + 1, 0, none⟩) 1 a2 c2 _ M6.out hAT hSZ (Nat.le_refl _))
    rw [HMB.out] at CM
    clear b6 hAT hSZ B5
    go_wp2_with fail
    refine CM.out.mono ?_
    rintro e w7 ⟨rfl, b7⟩
    have B7 := Lib.hid (B6.out.trans (b7.mono B6.out.size))
    clear b7 B6 CM
    go_wp2
    go_ret
    exact ⟨rfl, B7.out⟩

theorem base_mono {w : World} {B C : Nat} {e : TypeId} {size : Nat} {v : Value} {n : Nat} {xs : List Value} (hBC : C ≤ B) (h : w.ownsRow B e size v n xs) : w.ownsRow C e size v n xs :=
  ⟨h.1, h.2.imp id fun ⟨g, c, cur, a, b, d⟩ => ⟨g, c, cur, a, Nat.le_trans hBC b, d⟩⟩
def lineX : List ByteArray := [{ data := #[] }, ⟨#[81, 81, 61, 61]⟩, ⟨#[120]⟩]
theorem linesPutB_sz (s : ByteArray) : ∀ x ∈ linesPutB s, x.size ≤ 40 := by
  intro x hx
  have hx2 : x.data.toList ∈ chunks 40 (codePutB s).data.toList := by
    have := List.mem_map_of_mem (f := fun y : ByteArray => y.data.toList) hx
    unfold linesPutB at this
    rwa [datas_linesP] at this
  rw [Lib.size_eq]
  exact (chunks_mem (by decide) _ _ hx2).1.2

set_option maxHeartbeats 4000000 in
set_option maxRecDepth 100000 in
theorem drawLinesGet_any (ao : Option Addr) (len cap : Nat) (w : World) (hr : ByteRow w ao len) (hl : len ≤ cap) (hc : cap ≤ maxLen) :
    Calls Tryd.prog 23 #[.slice ao len cap] w fun e w' => ∃ a c, ∃ xs : List ByteArray, xs.length ≤ 400 ∧ (∀ x ∈ xs, x.size ≤ 1000) ∧ xs.length ≤ c ∧ e = .returned (.slice a xs.length c) ∧ StrRow w' a xs ∧ Below w.heap.size w w' := by
  obtain ⟨i0, hi, hz0, hz1, hz2⟩ := info_parts infoS
  have C := Lib.hid (fun W h1 => l20Open_any ao len cap W h1 hl hc)
  have HR := Lib.hid hr
  clear hr hl hc
  go_enter Tryd.func23, Tryd.ntmps23
  go_wp2_with fail
  refine (C.out _ HR.out).mono ?_
  rintro e w1 ⟨b, rfl, h1, b1⟩
  have H1 := Lib.hid h1
  have B1 := Lib.hid b1
  clear h1 b1
  go_wp2_with fail
  refine (l20Bytes_any _ b _ _ H1.out (by omega)).mono ?_
  rintro e w2 ⟨s, hs, rfl, h2, g2⟩
  have B2 := Lib.hid (B1.out.trans (H1.out.below g2 (Nat.le_refl _)))
  have H2 := Lib.hid h2
  clear h2 g2 H1 B1
  have CQ := Lib.hid (fun W => specLinesPut_any s W (by unfold maxLen; omega))
  have hln := linesPutB_len s
  have HSZ := Lib.hid (linesPutB_sz s)
  generalize linesPutB s = ls at CQ hln HSZ
  go_wp2_with fail
  refine (CQ.out _).mono ?_
  rintro e w3 ⟨a3, c3, rfl, r3, b3⟩
  have hsz2 := B2.out.size
  have hz3 := b3.size
  have B3 := Lib.hid (B2.out.trans (b3.mono hsz2))
  have H3 := Lib.hid (H2.out.later b3)
  have hb2 := H2.out.lt.2
  have R3 : Hid (Row w3 w2.heap.size a3 c3 ls) := Lib.hid r3
  clear b3 r3 H2 B2 CQ
  go_wp2_with fail
  refine (pick_at 6 H3.out rfl (by omega) (by decide) (by decide)).mono ?_
  rintro e w4 ⟨k, rfl, hk, h4, g4⟩
  have B4 := Lib.hid (B3.out.trans (H3.out.below g4 (Nat.le_refl _)))
  have H4 := Lib.hid h4
  have keep : ∀ (wa wb : World) (a : Option Addr) (c : Nat) (xs : List ByteArray), Row wa w2.heap.size a c xs → wa.grownBy wb (some b) → Row wb w2.heap.size a c xs := fun wa wb a c xs h g => World.ownsRow.kept h g (by
    cases e : (Value.slice a xs.length c).ownBlock with
    | none => exact .inl rfl
    | some j => exact .inr (by have := (World.ownsRow.lt h j e).1; simp; omega))
  have R4 := Lib.hid (keep _ _ _ _ _ R3.out g4)
  have KEEP := Lib.hid keep
  have hz4 := g4.size
  clear h4 g4 H3 B3 R3 keep
  by_cases k0 : k = 0
  · subst k0
    go_wp2_with fail
    refine (of_at' lineX H4.out (by simp) (by omega) rfl rfl (by decide) (by decide)).mono ?_
    rintro e w5 ⟨y, hy, rfl, h5, g5⟩
    have B5 := Lib.hid (B4.out.trans (H4.out.below g5 (Nat.le_refl _)))
    have R5 := Lib.hid (KEEP.out _ _ _ _ _ R4.out g5)
    have hyz : y.size ≤ 4 := small_in (by decide) hy
    have hz5 := g5.size
    have hown := R5.out
    unfold Row at hown
    clear h5 g5 hy H4 B4 R4
    go_wp2_with (at_builtin; refine wpList_append_own _ rfl _ _ 28 rfl w2.heap.size 9 i0 (.string ByteArray.empty) 1 16 Tryd.underlying28 hi hz0 hz1 hz2 rfl (by decide) _ _ _ rfl (hown.alloc _) ⟨w5.heap.size, 0, none⟩ 1 1 [.string y] rfl rfl (cell_one_new _ _ _) ?c2 ?c3 ?c4 ?c5 ?_)
    case c2 => intro u hu; rw [List.mem_singleton.1 hu]; rfl
    case c3 => unfold maxLen; omega
    case c4 => omega
    case c5 => first | (simp; omega) | omega
    intro v' w6 hown' hgrow _
    have HB6 := Lib.hid (below_app (o := .cells #[.string y] 9) (B5.out.mono (B := w.heap.size) (Nat.le_refl _)) B5.out.size (base_mono hsz2 hown) hgrow)
    have ho1 := snoc_own hown'
    obtain ⟨a6, c6, rfl⟩ := shape_own ho1
    have R6 : Hid (Row w6 w2.heap.size a6 c6 (ls ++ [y])) := Lib.hid ho1
    clear hown hown' hgrow ho1 R5 B5
    go_wp2
    go_ret
    exact ⟨a6, c6, ls ++ [y], by rw [List.length_append, List.length_singleton]; omega, fun x hx => by
      rcases List.mem_append.1 hx with hx | hx
      · exact Nat.le_trans (HSZ.out x hx) (by omega)
      · rw [List.mem_singleton.1 hx]; omega, Row.len_cap R6.out, by simp, R6.out.strs, HB6.out⟩
  · have hb0 : ((k : Int) == 0) = false := by rw [beq_eq_false_iff_ne]; omega
    by_cases k1 : k = 1
    · subst k1
      by_cases hl0 : 0 < ls.length
      · go_wp2_with fail
        refine (pick_at ls.length H4.out rfl (by omega) (by omega) (by omega)).mono ?_
        rintro e w5 ⟨j, rfl, hj, h5, g5⟩
        have B5 := Lib.hid (B4.out.trans (H4.out.below g5 (Nat.le_refl _)))
        have R5 := Lib.hid (KEEP.out _ _ _ _ _ R4.out g5)
        have H5 := Lib.hid h5
        have hz5 := g5.size
        obtain ⟨x, hx⟩ : ∃ x, ls[j]? = some x := ⟨_, List.getElem?_eq_getElem hj⟩
        obtain ⟨bk, off, rfl, hcell⟩ := R5.out.strs j x hx
        have hxz := HSZ.out x (List.mem_of_getElem? hx)
        have hoff : off = 0 ∧ w2.heap.size ≤ bk := by
          rcases R5.out.2 with ⟨hv, _⟩ | ⟨g, cp, cur, hv, hB, _⟩
          · cases hv
          · simp only [Value.slice.injEq, Option.some.injEq, Addr.mk.injEq] at hv
            obtain ⟨⟨rfl, rfl, _⟩, _⟩ := hv
            exact ⟨rfl, hB⟩
        obtain ⟨rfl, hbk⟩ := hoff
        rw [Nat.zero_add] at hcell
        clear h5 g5 H4 B4 R4
        go_wp2_with fail
        refine (l20Bent_any _ b _ x _ H5.out (by omega) (by omega)).mono ?_
        rintro e w6 ⟨y, hy, rfl, h6, g6⟩
        have B6 := Lib.hid (B5.out.trans (H5.out.below g6 (Nat.le_refl _)))
        have R6 := Lib.hid (KEEP.out _ _ _ _ _ R5.out g6)
        have hz6 := g6.size
        have hc6 : w6.cell? ⟨bk, j, none⟩ = some (.string x) := g6.cell hcell (fun e => by have := Option.some.inj e; simp at this; omega)
        have hf6 : w6.frozen? ⟨bk, j, none⟩ = false := World.ownsRow.frozenAt R6.out j
        have hst := (World.ownsRow.stored R6.out j (.string y)).1
        have R7 : Hid (Row (w6.setCell ⟨bk, j, none⟩ (.string y)) w2.heap.size (some ⟨bk, 0, none⟩) c3 (ls.set j y)) := Lib.hid (by
          unfold Row
          rw [List.length_set, List.map_set]
          exact hst)
        have B7 := Lib.hid (B6.out.setCell (p := ⟨bk, j, none⟩) (show w.heap.size ≤ bk by omega) (.string y))
        have HYZ := Lib.hid (show y.size ≤ 1000 by omega)
        clear h6 g6 hst B5 R5 B6 R6 hx hcell
        go_wp2
        go_ret
        exact ⟨some ⟨bk, 0, none⟩, c3, ls.set j y, by rw [List.length_set]; omega, fun z hz => by
          rcases List.mem_or_eq_of_mem_set hz with hz | rfl
          · exact Nat.le_trans (HSZ.out z hz) (by omega)
          · exact HYZ.out, Row.len_cap R7.out, by rw [List.length_set]; rfl, R7.out.strs, B7.out⟩
      · go_wp2
        go_ret
        exact ⟨a3, c3, ls, by omega, fun x hx => Nat.le_trans (HSZ.out x hx) (by omega), Row.len_cap R4.out, rfl, R4.out.strs, B4.out⟩
    · have hb1 : ((k : Int) == 1) = false := by rw [beq_eq_false_iff_ne]; omega
      go_wp2
      go_ret
      exact ⟨a3, c3, ls, by omega, fun x hx => Nat.le_trans (HSZ.out x hx) (by omega), Row.len_cap R4.out, rfl, R4.out.strs, B4.out⟩

set_option maxHeartbeats 4000000 in
set_option maxRecDepth 100000 in
theorem wFnLinesGet.walk (ao : Option Addr) (len cap : Nat) (w : World) (hr : ByteRow w ao len) (hl : len ≤ cap) (hc : cap ≤ maxLen) (hf : FigCell w) :
    Calls Tryd.prog 6 #[.slice ao len cap] w fun e w' => e = .returned (.bool true) ∧ Below w.heap.size w w' := by
  have HF := Lib.hid hf
  clear hf
  have hc' := hc
  unfold maxLen at hc'
  by_cases hbig : 1048576 < len
  · clear hr
    go_enter Tryd.func6, Tryd.ntmps6
    go_wp2
    go_ret
    exact ⟨rfl, Below.refl _ _⟩
  have CD := Lib.hid (drawLinesGet_any ao len cap w hr hl hc)
  clear hr hc
  go_enter Tryd.func6, Tryd.ntmps6
  go_wp2_with fail
  refine CD.out.mono ?_
  rintro e w1 ⟨a1, c1, xs, hlx, hsx, hcx, rfl, r1, b1⟩
  have B1 := Lib.hid b1
  have R1 := Lib.hid r1
  have F1 := Lib.hid (HF.out.below b1 (.inl (Nat.le_refl _)))
  have HSX := Lib.hid (fun x hx => Nat.le_trans (hsx x hx) (show 1000 ≤ maxLen by unfold maxLen; omega))
  clear b1 r1 CD hsx
  have C := Lib.hid (fun w h => specLinesGet_any a1 c1 xs w h (by unfold maxLen; omega) HSX.out)
  have D := Lib.hid (fun w h hf => implLinesGet_any a1 c1 xs w h (by unfold maxLen; omega) hcx HSX.out hf)
  have hcs := Lib.hid (linesGetB_cases xs)
  generalize linesGetB xs = pr at C D hcs
  obtain ⟨p, b⟩ := pr
  have q : (p.toList == p.toList) = true := by simp
  have qb : (b == b) = true := by simp
  go_wp2_with fail
  refine (D.out _ R1.out F1.out).mono ?_
  rintro e w2 ⟨rfl, b2⟩
  have R2 := Lib.hid (R1.out.below b2 (Nat.le_refl _))
  have B2 := Lib.hid (B1.out.trans (b2.mono B1.out.size))
  clear b2 B1 R1
  go_wp2_with fail
  refine (C.out _ R2.out).mono ?_
  rintro e w3 ⟨rfl, b3⟩
  have R3 := Lib.hid (R2.out.below b3 (Nat.le_refl _))
  have B3 := Lib.hid (B2.out.trans (b3.mono B2.out.size))
  clear b3 B2 C D R2
  cases b
  · go_wp2
    go_ret
    exact ⟨rfl, B3.out⟩
  · have hu : Hid (p.size ≤ 240 ∧ linesPutB p = xs) := Lib.hid (by
      rcases hcs.out with ⟨u, hu, e1, e2⟩ | ⟨_, e2⟩
      · obtain rfl : p = u := congrArg Prod.fst e2
        exact ⟨hu, e1.symm⟩
      · exact absurd (congrArg Prod.snd e2) (by simp))
    have F3 := Lib.hid (HF.out.below B3.out (.inl (Nat.le_refl _)))
    have CP := Lib.hid (implLinesPut_any p w3 (by have := hu.out.1; unfold maxLen; omega) F3.out)
    rw [hu.out.2] at CP
    clear hcs F3
    go_wp2_with fail
    refine CP.out.mono ?_
    rintro e w4 ⟨a4, c4, rfl, r4, b4⟩
    have R4 := Lib.hid (StrRow.of_own r4)
    have R34 := Lib.hid (R3.out.below b4 (Nat.le_refl _))
    have B4 := Lib.hid (B3.out.trans (b4.mono B3.out.size))
    clear r4 b4 B3 R3 CP
    go_wp2_with fail
    refine (textsSame_any a4 a1 c4 c1 xs _ R4.out R34.out (by omega)).mono ?_
    rintro e w5 ⟨rfl, n5, rfl⟩
    go_wp2
    go_ret
    exact ⟨rfl, drewN_below B4.out n5⟩
end Go.Proofs.YtmigcglcacpboaaDoor
