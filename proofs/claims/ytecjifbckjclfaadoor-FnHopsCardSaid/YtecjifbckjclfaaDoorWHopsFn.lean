/- The walk of FnHops. -/
import Derived.Test.YtecjifbckjclfaaDoorDrawHops
import Derived.Test.YtecjifbckjclfaaDoorPlainGet
namespace Go.Proofs.YtecjifbckjclfaaDoor
open Go Go.RowKit

theorem hop_data (nm : ByteArray) : (hopS ++ nm).data.toList = [72, 111, 112, 58, 32] ++ nm.data.toList := by
  show ((hopS ++ nm).data).toList = _
  rw [ByteArray.data_append, Array.toList_append]
  rfl
theorem hop_line {nm : ByteArray} (h : domB nm = true) (hz : nm.size ≤ 20) : lineB (hopS ++ nm) = true := by
  have hp : (piecesB 46 3 nm).all wordB = true := by
    unfold domB at h
    rw [Bool.and_eq_true] at h
    exact h.1
  have hs : (hopS ++ nm).size ≤ 40 := by rw [ByteArray.size_append]; show 5 + nm.size ≤ 40; omega
  unfold lineB
  rw [decide_eq_true hs, Bool.and_true, hop_data, List.all_append, Bool.and_eq_true]
  refine ⟨by decide, List.all_eq_true.2 fun c hc => ?_⟩
  rcases pieces_chars 3 nm hp c hc with h1 | rfl
  · unfold chB at h1
    unfold lineC
    simp only [Bool.or_eq_true, decide_eq_true_eq] at h1 ⊢
    omega
  · decide
theorem hop_hop {nm : ByteArray} (h : domB nm = true) : hopB (hopS ++ nm) = true := by
  have hm : marked (hopS ++ nm) = true := by
    rw [marked_take, hop_data]
    rfl
  rw [hopB_yes hm]
  have e : (hopS ++ nm).extract 5 (hopS ++ nm).size = nm := by
    rw [← marked_rest hm]
    apply ByteArray.ext
    apply Array.ext'
    show (Lib.trimPrefix (hopS ++ nm).data.toList hopS.data.toList) = nm.data.toList
    unfold marked at hm
    unfold Lib.trimPrefix
    rw [if_pos hm, hop_data]
    rfl
  rw [e]
  exact h
theorem hops_more {nm : ByteArray} {xs : List ByteArray} (h : domB nm = true) (hz : nm.size ≤ 20) (hb : bodyB xs = true) (hl : xs.length < 12) : hopsOfB ((hopS ++ nm) :: xs) = hopsOfB xs + 1 := by
  have hb2 : bodyB ((hopS ++ nm) :: xs) = true := by
    unfold bodyB at hb ⊢
    rw [Bool.and_eq_true, decide_eq_true_eq] at hb
    rw [List.all_cons, hop_line h hz, hb.1, decide_eq_true (by simp; omega)]; rfl
  unfold hopsOfB
  rw [if_pos hb2, if_pos hb]
  unfold hopsN
  rw [List.takeWhile_cons, hop_hop h]
  simp
theorem hops_x (xs : List ByteArray) : hopsOfB (⟨#[120]⟩ :: xs) ≤ 0 := by
  unfold hopsOfB
  split
  · have : hopB ⟨#[120]⟩ = false := by decide +kernel
    unfold hopsN
    rw [List.takeWhile_cons, this]
    simp
  · omega
theorem hops_len (xs : List ByteArray) : hopsOfB xs ≤ xs.length := by
  unfold hopsOfB
  have := hopsN_le xs
  split <;> omega

theorem StrRow.tail {w : World} {b off : Nat} {y : ByteArray} {xs : List ByteArray} (h : StrRow w (some ⟨b, off, none⟩) (y :: xs)) : StrRow w (some ⟨b, off + 1, none⟩) xs := fun k x hx => by
  obtain ⟨b', off', e, hc⟩ := h (k + 1) x (by simpa using hx)
  cases e
  exact ⟨b, off + 1, rfl, by rw [show off + 1 + k = off + (k + 1) by omega]; exact hc⟩
theorem own_cap {w : World} {B : Nat} {e : TypeId} {size n cap : Nat} {ao : Option Addr} {xs : List Value} (h : w.ownsRow B e size (.slice ao n cap) n xs) (h0 : 0 < n) : n ≤ cap ∧ cap ≤ maxLen := by
  rcases h.2 with ⟨hv, hn⟩ | ⟨g, c, cur, hv, _, _, hc, hm, _⟩
  · omega
  · simp only [Value.slice.injEq, true_and] at hv
    obtain ⟨_, rfl⟩ := hv
    exact ⟨hc, hm⟩
theorem iHops {xs : List ByteArray} {n : Int} (e : hopsOfB xs = n) (hl : xs.length ≤ 1048576) (hs : ∀ x ∈ xs, x.size ≤ 1048576) : Hid (∀ ao cap w, HasMax w → StrRow w ao xs → Calls Tryd.prog 19 #[.slice ao xs.length cap] w fun e w' => e = .returned (.int .i64 n) ∧ Below w.heap.size w w') :=
  Lib.hid fun ao cap w hm hr => e ▸ implHopsOf_any ao cap xs w hm hr hl hs
theorem sHops {xs : List ByteArray} {n : Int} (e : hopsOfB xs = n) (hl : xs.length ≤ 1048576) (hs : ∀ x ∈ xs, x.size ≤ 1048576) : Hid (∀ ao cap w, StrRow w ao xs → Calls Tryd.prog 23 #[.slice ao xs.length cap] w fun e w' => e = .returned (.int .i64 n) ∧ Below w.heap.size w w') :=
  Lib.hid fun ao cap w hr => e ▸ specHopsOf_any ao cap xs w hr hl hs
theorem iPut {nm : ByteArray} {xs : List ByteArray} {r : List ByteArray × Bool} (e : hopPutR nm xs = r) (hn : nm.size ≤ 1048576) (hl : xs.length ≤ 1048576) (hs : ∀ x ∈ xs, x.size ≤ 1048576) : Hid (∀ ao cap w, HasMax w → StrRow w ao xs → Calls Tryd.prog 21 #[.string nm, .slice ao xs.length cap] w (RowOkPost w r)) :=
  Lib.hid fun ao cap w hm hr => e ▸ implHopPut_any nm ao cap xs w hm hn hr hl hs
theorem sPut {nm : ByteArray} {xs : List ByteArray} {r : List ByteArray × Bool} (e : hopPutR nm xs = r) (hn : nm.size ≤ 1048576) (hl : xs.length ≤ 1048576) (hs : ∀ x ∈ xs, x.size ≤ 1048576) : Hid (∀ ao cap w, StrRow w ao xs → Calls Tryd.prog 22 #[.string nm, .slice ao xs.length cap] w (RowOkPost w r)) :=
  Lib.hid fun ao cap w hr => e ▸ specHopPut_any nm ao cap xs w hn hr hl hs

set_option maxHeartbeats 4000000 in
set_option maxRecDepth 100000 in
theorem wFnHops.walk (ao : Option Addr) (len cap : Nat) (bo : Option Addr) (len2 cap2 : Nat) (w : World) (hr : ByteRow w ao len) (hl : len ≤ cap) (hc : cap ≤ maxLen) (hr2 : ByteRow w bo len2) (hl2 : len2 ≤ cap2) (hc2 : cap2 ≤ maxLen) (hm : HasMax w) :
    Calls Tryd.prog 3 #[.slice ao len cap, .slice bo len2 cap2] w fun e w' => e = .returned (.bool true) ∧ Below w.heap.size w w' := by
  have hc' := hc
  have hc2' := hc2
  unfold maxLen at hc' hc2'
  by_cases hbig : 1048576 < len
  · clear hr hr2
    go_enter Tryd.func3, Tryd.ntmps3
    go_wp2
    go_ret
    exact ⟨rfl, Below.refl _ _⟩
  by_cases hbig2 : 1048576 < len2
  · clear hr hr2
    go_enter Tryd.func3, Tryd.ntmps3
    go_wp2
    go_ret
    exact ⟨rfl, Below.refl _ _⟩
  obtain ⟨i0, hi, hz0, hz1, hz2⟩ := info_parts infoS
  have CD := Lib.hid (drawHopsOf_any ao len cap w hr hl hc)
  have CE := Lib.hid (fun W h => drawHopPut_any bo len2 cap2 W h hl2 hc2)
  have HB2 := Lib.hid hr2
  have HM := Lib.hid hm
  clear hr hc hr2 hc2 hm
  go_enter Tryd.func3, Tryd.ntmps3
  go_wp2_with fail
  refine CD.out.mono ?_
  rintro e w1 ⟨a1, c1, xs, rfl, ho1, hx17, hx45, b1⟩
  have S1 := Lib.hid ho1.strs
  have O1 := Lib.hid ho1
  have B1 := Lib.hid b1
  have hxs : ∀ x ∈ xs, x.size ≤ 1048576 := fun x hx => Nat.le_trans (hx45 x hx) (by omega)
  obtain ⟨n, hn⟩ : ∃ n, hopsOfB xs = n := ⟨_, rfl⟩
  have IH := iHops hn (by omega) hxs
  have SH := sHops hn (by omega) hxs
  have hnl : n ≤ (xs.length : Int) := hn ▸ hops_len xs
  have HN := Lib.hid hn
  have HXS := Lib.hid hxs
  clear CD b1 ho1 hx45 hxs hn
  go_wp2_with fail
  refine (IH.out a1 c1 _ (HM.out.below B1.out (Nat.le_refl _)) S1.out).mono ?_
  rintro e w2 ⟨rfl, hb2⟩
  have S2 := Lib.hid (S1.out.below hb2 (Nat.le_refl _))
  have O2 := Lib.hid (O1.out.later hb2)
  have B2 := Lib.hid (B1.out.trans (hb2.mono B1.out.size))
  clear hb2 S1 B1 O1
  go_wp2_with fail
  refine (CE.out _ (HB2.out.below B2.out (Nat.le_refl _))).mono ?_
  rintro e w3 ⟨nm, nv, hnm, rfl, hb3⟩
  have S3 := Lib.hid (S2.out.below hb3 (Nat.le_refl _))
  have O3 := Lib.hid (O2.out.later hb3)
  have B3 := Lib.hid (B2.out.trans (hb3.mono B2.out.size))
  clear hb3 S2 B2 CE O2
  obtain ⟨r, hr⟩ : ∃ r, hopPutR nm xs = r := ⟨_, rfl⟩
  have IP := iPut hr (by omega) (by omega) HXS.out
  have SP := sPut hr (by omega) (by omega) HXS.out
  have HR := Lib.hid hr
  have hrl : r.1.length ≤ 100 := by
    rw [← hr]
    unfold hopPutR
    split
    · simp; omega
    · simp
  clear hr
  go_wp2_with fail
  refine (IP.out a1 c1 _ (HM.out.below B3.out (Nat.le_refl _)) S3.out).mono ?_
  rintro e w4 ⟨a4, c4, rfl, ho4, hb4⟩
  have S4 := Lib.hid (S3.out.below hb4 (Nat.le_refl _))
  have O4 := Lib.hid (O3.out.later hb4)
  have P4 := Lib.hid (StrRow.of_own ho4)
  have Q4 := Lib.hid ho4
  have B4 := Lib.hid (B3.out.trans (hb4.mono B3.out.size))
  clear hb4 S3 B3 ho4 O3
  go_wp2_with fail
  refine (SP.out a1 c1 _ S4.out).mono ?_
  rintro e w5 ⟨a5, c5, rfl, ho5, hb5⟩
  have S5 := Lib.hid (S4.out.below hb5 (Nat.le_refl _))
  have O5 := Lib.hid (O4.out.later hb5)
  have P5 := Lib.hid (P4.out.below hb5 (Nat.le_refl _))
  have R5 := Lib.hid (StrRow.of_own ho5)
  have B5 := Lib.hid (B4.out.trans (hb5.mono B4.out.size))
  clear hb5 S4 B4 ho5 O4 P4
  obtain ⟨rs, rb⟩ := r
  have q1 : (n != n) = false := by simp
  have q2 : (rb != rb) = false := by simp
  go_wp2_with fail
  refine (SH.out a1 c1 _ S5.out).mono ?_
  rintro e w6 ⟨rfl, hb6⟩
  have S6 := Lib.hid (S5.out.below hb6 (Nat.le_refl _))
  have O6 := Lib.hid (O5.out.later hb6)
  have P6 := Lib.hid (P5.out.below hb6 (Nat.le_refl _))
  have R6 := Lib.hid (R5.out.below hb6 (Nat.le_refl _))
  have B6 := Lib.hid (B5.out.trans (hb6.mono B5.out.size))
  clear hb6 S5 B5 O5 P5 R5
  go_wp2_with fail
  refine (saTexts_same a4 a5 c4 c5 rs _ P6.out R6.out (Nat.le_trans (show rs.length ≤ 100 from hrl) (by omega))).mono ?_
  rintro e w7 ⟨rfl, n7, rfl⟩
  have d7 := below_drewN w6.heap.size w6 n7
  have S7 := Lib.hid (S6.out.below d7 (Nat.le_refl _))
  have O7 := Lib.hid (O6.out.later d7)
  have P7 := Lib.hid (P6.out.below d7 (Nat.le_refl _))
  have R7 := Lib.hid (R6.out.below d7 (Nat.le_refl _))
  have B7 := Lib.hid (B6.out.trans (d7.mono B6.out.size))
  clear d7 S6 B6 O6 P6 R6
  generalize w6.drewN n7 = W at *
  by_cases hneg : n < 0
  · go_wp2_with fail
    refine (SH.out a1 c1 _ S7.out).mono ?_
    rintro e w8 ⟨rfl, hb8⟩
    have P8 := P7.out.below hb8 (Nat.le_refl _)
    have R8 := R7.out.below hb8 (Nat.le_refl _)
    have B8 := Lib.hid (B7.out.trans (hb8.mono B7.out.size))
    clear hb8
    have q3 : (rb == rb) = true := by simp
    go_wp2_with fail
    refine (saTexts_same a4 a5 c4 c5 rs _ P8 R8 (Nat.le_trans (show rs.length ≤ 100 from hrl) (by omega))).mono ?_
    rintro e w9 ⟨rfl, n9, rfl⟩
    have B9 := Lib.hid (B8.out.trans ((below_drewN _ w8 n9).mono B8.out.size))
    go_wp2
    go_ret
    exact ⟨rfl, B9.out⟩
  · have hnx := hops_x xs
    obtain ⟨mx, hmx⟩ : ∃ mx, hopsOfB (⟨#[120]⟩ :: xs) = mx := ⟨_, rfl⟩
    rw [hmx] at hnx
    have IX := iHops hmx (by simp; omega) (by
      intro x hx
      rcases List.mem_cons.1 hx with rfl | hx
      · decide
      · exact HXS.out x hx)
    clear hmx
    have X0 := Lib.hid (row_lit W ⟨#[120]⟩ W.heap.size (Nat.le_refl _))
    go_wp2_with (at_builtin; refine wpList_append_strs (by rfl) _ _ rfl i0 hi hz0 hz1 hz2 W.heap.size _ [⟨#[120]⟩] 1 rfl rfl X0.out _ a1 c1 xs rfl (O7.out.alloc _) ?d1 ?d2 (⟨#[120]⟩ :: xs) rfl ?_)
    case d1 => simp; omega
    case d2 => simp
    intro v' w8 hown' hgrow
    have hb8 : Below W.heap.size W w8 := ((Below.refl _ W).alloc (Nat.le_refl _) _).grown hgrow (by simp) (fun k e => by have : W.heap.size = k := Option.some.inj e; omega)
    obtain ⟨a8, c8, rfl⟩ := shape_own hown'
    have X8 : Hid (StrRow w8 a8 (⟨#[120]⟩ :: xs)) := Lib.hid (StrRow.of_own (xs := ⟨#[120]⟩ :: xs) hown')
    have S8 := Lib.hid (S7.out.below hb8 (Nat.le_refl _))
    have P8 := Lib.hid (P7.out.below hb8 (Nat.le_refl _))
    have B8 := Lib.hid (B7.out.trans (hb8.mono B7.out.size))
    clear hown' hgrow hb8 X0 O7 S7 P7 R7 B7
    go_wp2_with fail
    refine (IX.out a8 c8 _ (HM.out.below B8.out (Nat.le_refl _)) X8.out).mono ?_
    rintro e w9 ⟨rfl, hb9⟩
    have S9 := Lib.hid (S8.out.below hb9 (Nat.le_refl _))
    have P9 := Lib.hid (P8.out.below hb9 (Nat.le_refl _))
    have B9 := Lib.hid (B8.out.trans (hb9.mono B8.out.size))
    clear hb9 X8 S8 P8 B8
    cases rb
    · go_wp2
      go_ret
      exact ⟨rfl, B9.out⟩
    · have hR : domB nm = true ∧ bodyB xs = true ∧ xs.length < 12 ∧ rs = (hopS ++ nm) :: xs := by
        have h := HR.out
        unfold hopPutR at h
        split at h
        · rename_i hc3
          simp only [Bool.and_eq_true, decide_eq_true_eq] at hc3
          simp only [Prod.mk.injEq, and_true] at h
          exact ⟨hc3.1.1, hc3.1.2, hc3.2, h.symm⟩
        · simp at h
      obtain ⟨r1, r2, r3, rfl⟩ := hR
      have hmore := hops_more r1 hnm r2 r3
      rw [HN.out] at hmore
      have IY := iHops hmore (by simp; omega) (by
        intro x hx
        rcases List.mem_cons.1 hx with rfl | hx
        · rw [ByteArray.size_append]; show 5 + nm.size ≤ 1048576; omega
        · exact HXS.out x hx)
      obtain ⟨hcp, hcm⟩ := own_cap Q4.out (by simp)
      simp only [List.length_cons] at hcp
      unfold maxLen at hcm
      obtain ⟨b4, off4, rfl, _⟩ := P9.out 0 _ rfl
      have hw1 : IntKind.i64.wrap (n + 1) = n + 1 := IntWalk.i64_in _ (by omega)
      clear hmore r1 r2 Q4
      go_wp2_with fail
      refine (IY.out _ c4 _ (HM.out.below B9.out (Nat.le_refl _)) P9.out).mono ?_
      rintro e w10 ⟨rfl, hb10⟩
      have S10 := Lib.hid (S9.out.below hb10 (Nat.le_refl _))
      have P10 := Lib.hid (P9.out.below hb10 (Nat.le_refl _)).tail
      have B10 := Lib.hid (B9.out.trans (hb10.mono B9.out.size))
      clear hb10 S9 P9 B9
      by_cases h1c : c4 = 1
      · subst h1c
        obtain rfl : xs = [] := List.eq_nil_of_length_eq_zero (by omega)
        have E10 : Hid (StrRow w10 (some ⟨b4, off4, none⟩) []) := Lib.hid fun k x hx => by simp at hx
        go_wp2_with fail
        refine (saTexts_same (some ⟨b4, off4, none⟩) a1 0 c1 [] w10 E10.out S10.out (by simp)).mono ?_
        rintro e w11 ⟨rfl, n11, rfl⟩
        have B11 := B10.out.trans ((below_drewN _ w10 n11).mono B10.out.size)
        go_wp2
        go_ret
        exact ⟨rfl, B11⟩
      · have h1d : ¬ (c4 - 1 = 0) := by omega
        have h1e : ¬ (c4 ≤ 1) := by omega
        go_wp2_with fail
        refine (saTexts_same (some ⟨b4, off4 + 1, none⟩) a1 (c4 - 1) c1 xs w10 P10.out S10.out (by omega)).mono ?_
        rintro e w11 ⟨rfl, n11, rfl⟩
        have B11 := B10.out.trans ((below_drewN _ w10 n11).mono B10.out.size)
        go_wp2
        go_ret
        exact ⟨rfl, B11⟩
end Go.Proofs.YtecjifbckjclfaaDoor
