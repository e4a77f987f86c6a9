/- Contracts: bytes in figures of base 16, of the program. -/
import Derived.Test.YtmigcglcacpboaaQuote
namespace Go.Proofs.Ytmigcglcacpboaa
open Go Go.RowKit

theorem take_at1 {l : List UInt8} {k : Nat} {c : UInt8} (h : l[k]? = some c) : l.take (k + 1) = l.take k ++ [c] := by
  obtain ⟨hk, e⟩ := List.getElem?_eq_some_iff.1 h
  rw [List.take_succ_eq_append_getElem hk, e]
theorem data_at (s : ByteArray) (k : Nat) (h : k < s.size) : s.data.toList[k]? = some s[k] := Lib.data_getElem? s k h
theorem str_eqq {a : ByteArray} {l : List UInt8} (h : a.data.toList = l) : (⟨l.toArray⟩ : ByteArray) = a := by cases a; subst h; rfl

/-- What is read of bytes in figures, when they are such; of others it is some bytes, no more of them. -/
def ReadQ (s : ByteArray) (i : Nat) (o : List UInt8) : Prop := o.length ≤ i ∧ ∀ u, s.data.toList = quoteL u → QAt s.data.toList u i o.length ∧ o = u.take o.length
theorem readQ_start (s : ByteArray) : ReadQ s 0 [] := ⟨Nat.le_refl _, fun _ h => ⟨qat_start h, rfl⟩⟩
theorem readQ_plain {s : ByteArray} {i : Nat} {o : List UInt8} (h : ReadQ s i o) (hi : i < s.size) (hn : s[i] ≠ 61) : ReadQ s (i + 1) (o ++ [s[i]]) := by
  refine ⟨by rw [List.length_append, List.length_singleton]; have := h.1; omega, fun u hu => ?_⟩
  obtain ⟨h1, h2⟩ := h.2 u hu
  obtain ⟨h3, h4⟩ := qat_plain h1 (data_at s i hi) hn
  rw [List.length_append, List.length_singleton]
  exact ⟨h4, by rw [take_at1 h3, ← h2]⟩
theorem readQ_mark {s : ByteArray} {i : Nat} {o : List UInt8} {x : UInt8} (h : ReadQ s i o) (hi : i + 2 < s.size) (hc : s[i] = 61) (hx : ∀ p q, p < 16 → q < 16 → s[i + 1] = hexC p → s[i + 2] = hexC q → x = UInt8.ofNat (16 * p + q)) : ReadQ s (i + 3) (o ++ [x]) := by
  refine ⟨by rw [List.length_append, List.length_singleton]; have := h.1; omega, fun u hu => ?_⟩
  obtain ⟨h1, h2⟩ := h.2 u hu
  obtain ⟨c, h3, h4, h5, h6⟩ := qat_mark h1 (by rw [data_at s i (by omega), hc])
  rw [data_at s (i + 1) (by omega)] at h4
  rw [data_at s (i + 2) (by omega)] at h5
  have hc8 := c.toNat_lt
  have e := hx _ _ (by omega) (by omega) (Option.some.inj h4) (Option.some.inj h5)
  rw [byte_parts] at e
  rw [List.length_append, List.length_singleton]
  exact ⟨h6, by rw [take_at1 h3, ← h2, e]⟩
theorem readQ_short {s : ByteArray} {i : Nat} {o : List UInt8} (h : ReadQ s i o) (hi : i < s.size) (hi2 : s.size ≤ i + 2) (hc : s[i] = 61) : ReadQ s (i + 1) (o ++ [61]) := by
  refine ⟨by rw [List.length_append, List.length_singleton]; have := h.1; omega, fun u hu => ?_⟩
  obtain ⟨h1, _⟩ := h.2 u hu
  obtain ⟨c, _, _, h5, _⟩ := qat_mark h1 (by rw [data_at s i hi, hc])
  rw [List.getElem?_eq_none (by simpa using hi2)] at h5
  cases h5
theorem readQ_end {s : ByteArray} {i : Nat} {o : List UInt8} (h : ReadQ s i o) (hi : s.size ≤ i) : ∀ u, s.data.toList = quoteL u → o = u := by
  intro u hu
  obtain ⟨h1, h2⟩ := h.2 u hu
  have := qat_end h1 (by simpa using hi)
  rw [h2, List.take_of_length_le this]

theorem HoldsS.drewN {B b : Nat} {l : List UInt8} : ∀ (n : Nat) (w : World), HoldsS B b l w → HoldsS B b l (w.drewN n)
  | 0, _, h => h
  | n + 1, w, h => HoldsS.drewN n w.drew h
theorem size_drewN' : ∀ (n : Nat) (w : World), (w.drewN n).heap.size = w.heap.size
  | 0, _ => rfl
  | n + 1, w => size_drewN' n w.drew
theorem below_drewN' (B : Nat) (w : World) : ∀ n, Below B w (w.drewN n)
  | 0 => Below.refl _ _
  | n + 1 => (below_drewN' B w n).drew

set_option maxHeartbeats 1000000 in
theorem unquote_any (s : ByteArray) (w : World) (hs : s.size ≤ 1048576) :
    Calls Try.prog 19 #[.string s] w fun e w' => (∃ o : List UInt8, e = .returned (.string ⟨o.toArray⟩) ∧ o.length ≤ s.size ∧ ∀ u, s.data.toList = quoteL u → o = u) ∧ Below w.heap.size w w' := by
  have H0 := Lib.hid (freshS w)
  have B0 : Hid (Below w.heap.size w (w.alloc (.cells #[.pointer none, .slice none 0 0] 35))) := Lib.hid ((Below.refl _ w).alloc (Nat.le_refl _) _)
  go_enter Try.func19, Try.ntmps19
  go_wp2
  go_loopw [4] (fun i wr => ∃ (k : Nat) (o : List UInt8), k ≤ s.size ∧ i = .int .i64 k ∧ Hid (ReadQ s k o) ∧ Hid (HoldsS w.heap.size w.heap.size o wr) ∧ Hid (Below w.heap.size w wr)) (fun i _ => s.size - (intOf i).toNat)
  case atStart => exact ⟨0, [], Nat.zero_le _, rfl, Lib.hid (readQ_start s), H0, B0⟩
  case round =>
    obtain ⟨k, o, hk, rfl, HQ, HO, HB⟩ := hrel
    clear H0 B0
    have hol := HQ.out.1
    have hsz := HB.out.size
    by_cases hlt : k < s.size
    · by_cases hc : s[k] = 61
      · have c0 : ((s[k].toNat : Int) == 61) = true := by rw [hc]; rfl
        by_cases h2 : k + 2 < s.size
        · obtain ⟨k1, hk1⟩ : ∃ k1, k1 = k + 1 := ⟨_, rfl⟩
          obtain ⟨k2, hk2⟩ : ∃ k2, k2 = k + 2 := ⟨_, rfl⟩
          have i1 : k1 < s.size := by omega
          have i2 : k2 < s.size := by omega
          have C := Lib.hid (fun w => quotedByte_any s[k1] s[k2] w)
          have HN := Lib.hid (readQ_mark (x := qByte s[k1] s[k2]) HQ.out h2 hc (fun p q hp hq e1 e2 => qByte_hex hp hq (by subst hk1; exact e1) (by subst hk2; exact e2)))
          have HW := Lib.hid (fun W hw hB => writeByteS_any w.heap.size w.heap.size o (qByte s[k1] s[k2]) W hw (by omega) hB)
          generalize qByte s[k1] s[k2] = x at C HN HW
          have j1 : (k1 : Int) < (s.size : Int) := by omega
          have j2 : (k2 : Int) < (s.size : Int) := by omega
          have q1 : IntKind.i64.wrap ((k : Int) + 1) = (k1 : Int) := by rw [IntWalk.i64_in _ (by omega)]; omega
          have q2 : IntKind.i64.wrap ((k : Int) + 2) = (k2 : Int) := by rw [IntWalk.i64_in _ (by omega)]; omega
          have HK2 := Lib.hid hk2
          clear hc HQ hk1 hk2
          go_wp2_with fail
          go_quiet (first | (go_at_call 28; refine Calls.quiet_of_same (C.out _)))
          have HH := Lib.hid (HO.out.drewN nq)
          have hs2 := size_drewN' nq wr
          have HB2 := Lib.hid (HB.out.trans (below_drewN' w.heap.size wr nq))
          clear HO HB C q1
          go_wp2_with fail
          refine (HW.out _ HH.out (by omega)).mono ?_
          rintro e w2 ⟨rfl, h3, b3⟩
          have HO3 := Lib.hid h3
          have HB3 := Lib.hid (HB2.out.trans b3)
          clear h3 b3 HH HB2 HW
          go_wp2
          go_roundw
          case rel => exact ⟨k2 + 1, o ++ [x], by omega, by go_num, Lib.hid (by rw [HK2.out]; exact HN.out), HO3, HB3⟩
          case measure => simp [intOf]; have := HK2.out; omega
        · have HN := Lib.hid (readQ_short HQ.out hlt (by omega) hc)
          have HW := Lib.hid (fun W hw hB => writeByteS_any w.heap.size w.heap.size o s[k] W hw (by omega) hB)
          have HC := Lib.hid hc
          clear hc HQ
          go_wp2_with fail
          refine (HW.out _ HO.out (by omega)).mono ?_
          rintro e w2 ⟨rfl, h3, b3⟩
          have HO3 := Lib.hid h3
          have HB3 := Lib.hid (HB.out.trans b3)
          clear h3 b3 HO HB HW
          go_wp2
          go_roundw
          case rel => exact ⟨k + 1, o ++ [s[k]], by omega, by go_num, Lib.hid (by rw [HC.out]; exact HN.out), HO3, HB3⟩
          case measure => simp [intOf]; omega
      · have HN := Lib.hid (readQ_plain HQ.out hlt hc)
        have HW := Lib.hid (fun W hw hB => writeByteS_any w.heap.size w.heap.size o s[k] W hw (by omega) hB)
        have c0 : ((s[k].toNat : Int) == 61) = false := by
          rw [beq_eq_false_iff_ne]; intro e; exact hc (UInt8.toNat_inj.1 (by simpa using (by omega : s[k].toNat = 61)))
        clear hc HQ
        go_wp2_with fail
        refine (HW.out _ HO.out (by omega)).mono ?_
        rintro e w2 ⟨rfl, h3, b3⟩
        have HO3 := Lib.hid h3
        have HB3 := Lib.hid (HB.out.trans b3)
        clear h3 b3 HO HB HW
        go_wp2
        go_roundw
        case rel => exact ⟨k + 1, o ++ [s[k]], by omega, by go_num, HN, HO3, HB3⟩
        case measure => simp [intOf]; omega
    · have HE := Lib.hid (readQ_end HQ.out (by omega))
      have hle : o.length ≤ s.size := by omega
      clear HQ
      go_wp2_with fail
      refine (stringS_any _ _ o _ HO.out (by omega)).mono ?_
      rintro e w2 ⟨rfl, b2⟩
      have HB2 := Lib.hid (HB.out.trans b2)
      clear HO HB b2
      go_wp2
      go_ret
      exact ⟨⟨o, rfl, hle, HE.out⟩, HB2.out⟩

theorem hexS_get {p : Nat} (h : p < 16) : hexS[p]'(show p < 16 from h) = hexC p := by
  have : ∀ p (h : p < 16), hexS[p]'(show p < 16 from h) = hexC p := by decide
  exact this p h

set_option maxHeartbeats 1000000 in
theorem implQuotePut_any (s : ByteArray) (w : World) (hs : s.size ≤ maxLen) :
    Calls Try.prog 8 #[.string s] w fun e w' => e = .returned (.string (quotePutB s)) ∧ Below w.heap.size w w' := by
  unfold maxLen at hs
  by_cases h240 : 240 < s.size
  · have hm : Hid (quotePutB s = { data := #[] }) := Lib.hid (by unfold quotePutB; rw [if_neg (by omega)])
    go_enter Try.func8, Try.ntmps8
    go_wp2
    go_ret
    exact ⟨ret_stq hm.out.symm, Below.refl _ _⟩
  · have hm : Hid (∀ o, o = quoteL s.data.toList → (⟨o.toArray⟩ : ByteArray) = quotePutB s) := Lib.hid (by rintro o rfl; unfold quotePutB; rw [if_pos (by omega)])
    have H0 := Lib.hid (freshS w)
    have B0 : Hid (Below w.heap.size w (w.alloc (.cells #[.pointer none, .slice none 0 0] 35))) := Lib.hid ((Below.refl _ w).alloc (Nat.le_refl _) _)
    go_enter Try.func8, Try.ntmps8
    go_wp2
    go_loopw [11] (fun i wr => ∃ (k : Nat) (o : List UInt8), k ≤ s.size ∧ i = .int .i64 k ∧ o.length ≤ 3 * k ∧ Hid (o = quoteL (s.data.toList.take k)) ∧ Hid (HoldsS w.heap.size w.heap.size o wr) ∧ Hid (Below w.heap.size w wr)) (fun i _ => s.size - (intOf i).toNat)
    case atStart => exact ⟨0, [], Nat.zero_le _, rfl, Nat.le_refl _, Lib.hid (by simp [quoteL]), H0, B0⟩
    case round =>
      obtain ⟨k, o, hk, rfl, hol, HQ, HO, HB⟩ := hrel
      clear H0 B0
      have hsz := HB.out.size
      by_cases hlt : k < s.size
      · have HN := Lib.hid (quoteL_snoc (data_at s k hlt))
        have CP := Lib.hid (fun w => isQuotePlain_any s[k] w)
        have HW := Lib.hid (fun W hw hB => writeByteS_any w.heap.size w.heap.size o s[k] W hw (by omega) hB)
        obtain ⟨n, q0⟩ : ∃ n, s[k].toNat = n := ⟨_, rfl⟩
        have hn8 : n < 256 := by have := s[k].toNat_lt; omega
        rw [q0] at CP HW
        cases hp : plainC s[k]
        · have HL := Lib.hid (quoteC_no hp)
          rw [hp] at CP
          rw [q0] at HL
          clear hp HW
          obtain ⟨n1, hn1⟩ : ∃ n1 : Nat, n / 16 = n1 := ⟨_, rfl⟩
          obtain ⟨n2, hn2⟩ : ∃ n2 : Nat, n % 16 = n2 := ⟨_, rfl⟩
          have d1 : (n : Int) / 16 = (n1 : Int) := by omega
          have d2 : (n : Int) % 16 = (n2 : Int) := by omega
          have l1 : n1 < 16 := by omega
          have l2 : n2 < 16 := by omega
          rw [hn1, hn2] at HL
          have HX1 := Lib.hid (hexS_get l1)
          have HX2 := Lib.hid (hexS_get l2)
          clear hn1 hn2
          go_wp2_with fail
          refine (CP.out _).mono ?_
          rintro e w1 ⟨rfl, rfl⟩
          go_wp2_with fail
          refine (writeByteS_any w.heap.size w.heap.size o 61 _ HO.out (by omega) (by omega)).mono ?_
          rintro e w1 ⟨rfl, h1, b1⟩
          have HO1 := Lib.hid h1
          have HB1 := Lib.hid (HB.out.trans b1)
          have hz1 := HB1.out.size
          clear HO HB h1 b1
          go_wp2_with fail
          refine (writeByteS_any w.heap.size w.heap.size _ (hexS[n1]'(show n1 < 16 from l1)) _ HO1.out (by rw [List.length_append, List.length_singleton]; omega) (by omega)).mono ?_
          rintro e w2 ⟨rfl, h1, b1⟩
          rw [HX1.out] at h1
          have HO2 := Lib.hid h1
          have HB2 := Lib.hid (HB1.out.trans b1)
          have hz2 := HB2.out.size
          clear HO1 HB1 h1 b1
          go_wp2_with fail
          refine (writeByteS_any w.heap.size w.heap.size _ (hexS[n2]'(show n2 < 16 from l2)) _ HO2.out (by rw [List.length_append, List.length_append, List.length_singleton, List.length_singleton]; omega) (by omega)).mono ?_
          rintro e w3 ⟨rfl, h1, b1⟩
          rw [HX2.out] at h1
          have HO3 := Lib.hid h1
          have HB3 := Lib.hid (HB2.out.trans b1)
          clear HO2 HB2 h1 b1
          go_wp2
          go_roundw
          case rel => exact ⟨k + 1, _, by omega, by go_num, by rw [List.length_append, List.length_append, List.length_append, List.length_singleton, List.length_singleton, List.length_singleton]; omega, Lib.hid (by rw [HN.out, HL.out, HQ.out]; simp), HO3, HB3⟩
          case measure => simp [intOf]; omega
        · have HL := Lib.hid (quoteC_yes hp)
          rw [hp] at CP
          clear hp
          go_wp2_with fail
          refine (CP.out _).mono ?_
          rintro e w1 ⟨rfl, rfl⟩
          go_wp2_with fail
          refine (HW.out _ HO.out (by omega)).mono ?_
          rintro e w1 ⟨rfl, h1, b1⟩
          have HO1 := Lib.hid h1
          have HB1 := Lib.hid (HB.out.trans b1)
          clear HO HB h1 b1
          go_wp2
          go_roundw
          case rel => exact ⟨k + 1, o ++ [s[k]], by omega, by go_num, by rw [List.length_append, List.length_singleton]; omega, Lib.hid (by rw [HN.out, HL.out, HQ.out]), HO1, HB1⟩
          case measure => simp [intOf]; omega
      · have HE := Lib.hid (hm.out o (by rw [HQ.out, List.take_of_length_le (by rw [← Lib.size_eq]; omega)]))
        clear HQ
        go_wp2_with fail
        refine (stringS_any _ _ o _ HO.out (by omega)).mono ?_
        rintro e w2 ⟨rfl, b2⟩
        have HB2 := Lib.hid (HB.out.trans b2)
        clear HO HB b2
        go_wp2
        go_ret
        exact ⟨ret_stq HE.out, HB2.out⟩

theorem ret_gq {s : ByteArray} {a : ByteArray} {b : Bool} (h : quoteGetB s = (a, b)) : Ending.returned (.tuple #[.string a, .bool b]) = .returned (.tuple #[.string (quoteGetB s).1, .bool (quoteGetB s).2]) := by rw [h]
theorem ne_toList {a b : ByteArray} (h : a ≠ b) : (a.toList == b.toList) = false := by
  rw [beq_eq_false_iff_ne]; intro e; apply h
  rw [Lib.toList_data, Lib.toList_data] at e
  cases a; cases b; simp_all

set_option maxHeartbeats 1000000 in
theorem implQuoteGet_any (s : ByteArray) (w : World) (hs : s.size ≤ 1048576) :
    Calls Try.prog 10 #[.string s] w fun e w' => e = .returned (.tuple #[.string (quoteGetB s).1, .bool (quoteGetB s).2]) ∧ Below w.heap.size w w' := by
  go_enter Try.func10, Try.ntmps10
  go_wp2_with fail
  refine (unquote_any s _ hs).mono ?_
  rintro e w1 ⟨⟨o, rfl, hol, hou⟩, b1⟩
  obtain ⟨t, ht⟩ : ∃ t : ByteArray, t = ⟨o.toArray⟩ := ⟨_, rfl⟩
  have hto : t.data.toList = o := by rw [ht]
  have hts : t.size = o.length := by rw [Lib.size_eq, hto]
  rw [← ht]
  have hb1 := b1.size
  have HB1 := Lib.hid b1
  have HT := Lib.hid hto
  have HO := Lib.hid hou
  clear ht hto hou b1
  go_wp2_with fail
  refine (implQuotePut_any t _ (by unfold maxLen; omega)).mono ?_
  rintro e w2 ⟨rfl, b2⟩
  have HB2 := Lib.hid (HB1.out.trans (b2.mono hb1))
  clear b2 HB1
  by_cases hq : quotePutB t = s
  · have hz : t.size ≤ 240 ∨ 240 < t.size := by omega
    have hm : Hid (quoteGetB s = (t, true)) := Lib.hid (by
      rcases hz with hz | hz
      · rw [← hq]; exact quoteGetB_put hz
      · exfalso
        have e0 : quotePutB t = { data := #[] } := by unfold quotePutB; rw [if_neg (by omega)]
        rw [e0] at hq
        rw [← hq] at hol
        have : o.length ≤ 0 := hol
        omega)
    rw [hq]
    clear hq hz
    go_wp2
    go_ret2
    exact ⟨ret_gq hm.out, HB2.out⟩
  · have hm : Hid (quoteGetB s = ({ data := #[] }, false)) := Lib.hid (by
      rcases quoteGetB_cases s with ⟨u, hu, e1, _⟩ | ⟨_, e⟩
      · exfalso
        have e2 := HO.out u.data.toList (by rw [e1]; exact quotePutB_data hu)
        have e3 : t = u := by
          have e4 := HT.out.trans e2
          cases t; cases u; simp_all
        exact hq (by rw [e3, ← e1])
      · exact e)
    have e1 := ne_toList hq
    have e2 : (!(quotePutB t).toList == s.toList) = true := by rw [e1]; rfl
    have e3 : ¬ (quotePutB t).toList = s.toList := by simpa using e1
    clear hq
    go_wp2
    go_ret2
    exact ⟨ret_gq hm.out, HB2.out⟩
end Go.Proofs.Ytmigcglcacpboaa
