/- The walks of FnCodePut and FnCodeGet. -/
import Derived.Test.YtmigcglcacpboaaDoorCodeGetS
import Derived.Test.YtmigcglcacpboaaDoorDrawBytes
namespace Go.Proofs.YtmigcglcacpboaaDoor
open Go Go.RowKit

theorem codePutB_le (s : ByteArray) : (codePutB s).size ≤ 320 := by
  by_cases h : s.size ≤ 240
  · rw [codePutB_size h]; omega
  · unfold codePutB; rw [if_neg h]; exact Nat.zero_le _
theorem bytes_ext {a b : ByteArray} (h : a.data.toList = b.data.toList) : a = b := by cases a; cases b; simp_all
theorem codePutB_abc {p : ByteArray} (h : p.size ≤ 237) : codePutB (({ data := #[97, 98, 99] } : ByteArray) ++ p) = ({ data := #[89, 87, 74, 106] } : ByteArray) ++ codePutB p := by
  have hz : (({ data := #[97, 98, 99] } : ByteArray) ++ p).size ≤ 240 := by rw [ByteArray.size_append]; show 3 + p.size ≤ 240; omega
  apply bytes_ext
  have e1 : (({ data := #[97, 98, 99] } : ByteArray) ++ p).data.toList = [97, 98, 99] ++ p.data.toList := by simp
  have e2 : (({ data := #[89, 87, 74, 106] } : ByteArray) ++ codePutB p).data.toList = [89, 87, 74, 106] ++ (codePutB p).data.toList := by simp
  have e3 : figs3 [97, 98, 99] = [89, 87, 74, 106] := by decide +kernel
  rw [codePutB_data hz, e1, e2, codePutB_data (by omega), codeL_cons rfl, e3]

theorem drawCodePut_any (ao : Option Addr) (len cap : Nat) (w : World) (hr : ByteRow w ao len) (hl : len ≤ cap) (hc : cap ≤ maxLen) :
    Calls Tryd.prog 11 #[.slice ao len cap] w fun e w' => ∃ s : ByteArray, s.size ≤ 241 ∧ e = .returned (.string s) ∧ Below w.heap.size w w' := by
  have C := Lib.hid (fun W h1 => l20Open_any ao len cap W h1 hl hc)
  have HR := Lib.hid hr
  clear hr hl hc
  go_enter Tryd.func11, Tryd.ntmps11
  go_wp2_with fail
  refine (C.out _ HR.out).mono ?_
  rintro e w1 ⟨b, rfl, h1, b1⟩
  have H1 := Lib.hid h1
  have B1 := Lib.hid b1
  clear h1 b1
  go_wp2_with fail
  refine (l20Bytes_any _ b _ _ H1.out (by omega)).mono ?_
  rintro e w2 ⟨s, hs, rfl, h2, g2⟩
  have B2 := Lib.hid (B1.out.trans (H1.out.below g2 (Nat.le_refl _)))
  clear h2 g2
  go_wp2
  go_ret
  exact ⟨s, hs, rfl, B2.out⟩

def codeX : List ByteArray := [⟨#[81, 81, 61, 61]⟩, ⟨#[81, 82, 61, 61]⟩, ⟨#[81, 61, 61, 61]⟩, ⟨#[61, 81, 81, 81]⟩, ⟨#[81, 81, 61, 81]⟩, ⟨#[81, 85, 73, 61]⟩, ⟨#[81, 85, 74, 61]⟩]
theorem drawCodeGet_any (ao : Option Addr) (len cap : Nat) (w : World) (hr : ByteRow w ao len) (hl : len ≤ cap) (hc : cap ≤ maxLen) :
    Calls Tryd.prog 15 #[.slice ao len cap] w fun e w' => ∃ s : ByteArray, s.size ≤ 1000 ∧ e = .returned (.string s) ∧ Below w.heap.size w w' := by
  have C := Lib.hid (fun W h1 => l20Open_any ao len cap W h1 hl hc)
  have HR := Lib.hid hr
  clear hr hl hc
  go_enter Tryd.func15, Tryd.ntmps15
  go_wp2_with fail
  refine (C.out _ HR.out).mono ?_
  rintro e w1 ⟨b, rfl, h1, b1⟩
  have H1 := Lib.hid h1
  have B1 := Lib.hid b1
  clear h1 b1
  go_wp2_with fail
  refine (l20Bytes_any _ b _ _ H1.out (by omega)).mono ?_
  rintro e w2 ⟨s, hs, rfl, h2, g2⟩
  have B2 := Lib.hid (B1.out.trans (H1.out.below g2 (Nat.le_refl _)))
  have H2 := Lib.hid h2
  clear h2 g2 H1 B1
  have CQ := Lib.hid (fun W => specCodePut_any s W (by unfold maxLen; omega))
  have hz := codePutB_le s
  generalize codePutB s = t at CQ hz
  go_wp2_with fail
  refine (CQ.out _).mono ?_
  rintro e w3 ⟨rfl, b3⟩
  have B3 := Lib.hid (B2.out.trans (b3.mono B2.out.size))
  have H3 := Lib.hid (H2.out.later b3)
  clear b3 H2 B2
  go_wp2_with fail
  refine (pick_at 3 H3.out rfl (by omega) (by decide) (by decide)).mono ?_
  rintro e w4 ⟨k, rfl, hk, h4, g4⟩
  have B4 := Lib.hid (B3.out.trans (H3.out.below g4 (Nat.le_refl _)))
  have H4 := Lib.hid h4
  clear h4 g4 H3 B3
  by_cases k0 : 0 < k
  · go_wp2
    go_ret
    exact ⟨t, by omega, rfl, B4.out⟩
  · go_wp2_with fail
    refine (l20Bent_any _ b _ t _ H4.out (by omega) (by omega)).mono ?_
    rintro e w5 ⟨x, hx, rfl, h5, g5⟩
    have B5 := Lib.hid (B4.out.trans (H4.out.below g5 (Nat.le_refl _)))
    have H5 := Lib.hid h5
    clear h5 g5 H4 B4
    go_wp2_with fail
    refine (of_at' (x :: codeX) H5.out (by simp) (by omega) rfl rfl (by simp) (by simp [codeX])).mono ?_
    rintro e w6 ⟨y, hy, rfl, h6, g6⟩
    have B6 := Lib.hid (B5.out.trans (H5.out.below g6 (Nat.le_refl _)))
    have hyz : y.size ≤ 1000 := by
      rcases List.mem_cons.1 hy with rfl | hy
      · omega
      · have : y.size ≤ 4 := small_in (by decide) hy
        omega
    clear h6 g6 hy
    go_wp2
    go_ret
    exact ⟨y, hyz, rfl, B6.out⟩

set_option maxHeartbeats 2000000 in
set_option maxRecDepth 100000 in
theorem wFnCodePut.walk (ao : Option Addr) (len cap : Nat) (w : World) (hr : ByteRow w ao len) (hl : len ≤ cap) (hc : cap ≤ maxLen) (hf : FigCell w) :
    Calls Tryd.prog 3 #[.slice ao len cap] w fun e w' => e = .returned (.bool true) ∧ Below w.heap.size w w' := by
  have HF := Lib.hid hf
  clear hf
  have hc' := hc
  unfold maxLen at hc'
  by_cases hbig : 1048576 < len
  · clear hr
    go_enter Tryd.func3, Tryd.ntmps3
    go_wp2
    go_ret
    exact ⟨rfl, Below.refl _ _⟩
  have CD := Lib.hid (drawCodePut_any ao len cap w hr hl hc)
  clear hr hc
  go_enter Tryd.func3, Tryd.ntmps3
  go_wp2_with fail
  refine CD.out.mono ?_
  rintro e w1 ⟨s, zs, rfl, b1⟩
  have B1 := Lib.hid b1
  have F1 := Lib.hid (HF.out.below b1 (.inl (Nat.le_refl _)))
  clear b1 CD
  have C := Lib.hid (fun w => specCodePut_any s w (by unfold maxLen; omega))
  have D := Lib.hid (fun w hf => implCodePut_any s w (by unfold maxLen; omega) hf)
  obtain ⟨t, ht⟩ : ∃ t, codePutB s = t := ⟨_, rfl⟩
  rw [ht] at C D
  have HT := Lib.hid ht
  have qt : (t.toList == t.toList) = true := by simp
  clear ht
  go_wp2_with fail
  refine (D.out _ F1.out).mono ?_
  rintro e w2 ⟨rfl, b2⟩
  have B2 := Lib.hid (B1.out.trans (b2.mono B1.out.size))
  clear b2 B1 D
  go_wp2_with fail
  refine (C.out _).mono ?_
  rintro e w3 ⟨rfl, b3⟩
  have B3 := Lib.hid (B2.out.trans (b3.mono B2.out.size))
  clear b3 B2
  by_cases h240 : 240 < s.size
  · go_wp2_with fail
    refine (C.out _).mono ?_
    rintro e w4 ⟨rfl, b4⟩
    have B4 := Lib.hid (B3.out.trans (b4.mono B3.out.size))
    clear b4 B3
    go_wp2
    go_ret
    exact ⟨rfl, B4.out⟩
  · have CG : Hid (∀ W, FigCell W → Calls Tryd.prog 14 #[.string t] W fun e w' => e = .returned (.tuple #[.string s, .bool true]) ∧ Below W.heap.size W w') := Lib.hid (fun W hW => by
      have hz := codePutB_le s
      rw [HT.out] at hz
      have := implCodeGet_any t W (by omega) hW
      rw [← HT.out, codeGetB_put (by omega)] at this
      rw [← HT.out]
      exact this)
    have F3 := Lib.hid (HF.out.below B3.out (.inl (Nat.le_refl _)))
    have hts : t.size = (s.size + 2) / 3 * 4 := by rw [← HT.out]; exact codePutB_size (by omega)
    obtain ⟨d, hd⟩ : ∃ d, d = (s.size + 2) / 3 := ⟨_, rfl⟩
    have q1 : ((s.size : Int) + 2) / 3 = (d : Int) := by omega
    have q2 : ((s.size : Int) + 2).tdiv 3 = (d : Int) := by rw [Int.tdiv_eq_ediv_of_nonneg (by omega)]; exact q1
    have q3 : (t.size : Int) = (d : Int) * 4 := by omega
    have q4 : ((d : Int) * 4 == (d : Int) * 4) = true := by simp
    have qs : (s.toList == s.toList) = true := by simp
    have hdl : d ≤ 81 := by omega
    clear C hts hd
    go_wp2_with fail
    refine (CG.out _ F3.out).mono ?_
    rintro e w4 ⟨rfl, b4⟩
    have B4 := Lib.hid (B3.out.trans (b4.mono B3.out.size))
    clear b4 B3 CG
    go_wp2
    go_ret
    exact ⟨rfl, B4.out⟩

set_option maxHeartbeats 2000000 in
set_option maxRecDepth 100000 in
theorem wFnCodeGet.walk (ao : Option Addr) (len cap : Nat) (w : World) (hr : ByteRow w ao len) (hl : len ≤ cap) (hc : cap ≤ maxLen) (hf : FigCell w) :
    Calls Tryd.prog 4 #[.slice ao len cap] w fun e w' => e = .returned (.bool true) ∧ Below w.heap.size w w' := by
  have HF := Lib.hid hf
  clear hf
  have hc' := hc
  unfold maxLen at hc'
  by_cases hbig : 1048576 < len
  · clear hr
    go_enter Tryd.func4, Tryd.ntmps4
    go_wp2
    go_ret
    exact ⟨rfl, Below.refl _ _⟩
  have CD := Lib.hid (drawCodeGet_any ao len cap w hr hl hc)
  clear hr hc
  go_enter Tryd.func4, Tryd.ntmps4
  go_wp2_with fail
  refine CD.out.mono ?_
  rintro e w1 ⟨s, zs, rfl, b1⟩
  have B1 := Lib.hid b1
  have F1 := Lib.hid (HF.out.below b1 (.inl (Nat.le_refl _)))
  clear b1 CD
  have C := Lib.hid (fun w => specCodeGet_any s w (by omega))
  have D := Lib.hid (fun w hf => implCodeGet_any s w (by omega) hf)
  have hcs := Lib.hid (codeGetB_cases s)
  generalize codeGetB s = pr at C D hcs
  obtain ⟨p, b⟩ := pr
  have q : (p.toList == p.toList) = true := by simp
  have qb : (b == b) = true := by simp
  go_wp2_with fail
  refine (D.out _ F1.out).mono ?_
  rintro e w2 ⟨rfl, b2⟩
  have B2 := Lib.hid (B1.out.trans (b2.mono B1.out.size))
  clear b2 B1
  go_wp2_with fail
  refine (C.out _).mono ?_
  rintro e w3 ⟨rfl, b3⟩
  have B3 := Lib.hid (B2.out.trans (b3.mono B2.out.size))
  clear b3 B2 C D
  cases b
  · go_wp2
    go_ret
    exact ⟨rfl, B3.out⟩
  · have hu : Hid (p.size ≤ 240 ∧ codePutB p = s) := Lib.hid (by
      rcases hcs.out with ⟨u, hu, e1, e2⟩ | ⟨_, e2⟩
      · obtain rfl : p = u := congrArg Prod.fst e2
        exact ⟨hu, e1.symm⟩
      · exact absurd (congrArg Prod.snd e2) (by simp))
    have CP : Hid (∀ W, FigCell W → Calls Tryd.prog 12 #[.string p] W fun e w' => e = .returned (.string s) ∧ Below W.heap.size W w') := Lib.hid (fun W hW => by
      have := implCodePut_any p W (by have := hu.out.1; unfold maxLen; omega) hW
      rw [hu.out.2] at this
      exact this)
    have hps := hu.out.1
    have q2 : (s.toList == s.toList) = true := by simp
    have F3 := Lib.hid (HF.out.below B3.out (.inl (Nat.le_refl _)))
    clear hcs
    go_wp2_with fail
    refine (CP.out _ F3.out).mono ?_
    rintro e w4 ⟨rfl, b4⟩
    have B4 := Lib.hid (B3.out.trans (b4.mono B3.out.size))
    have F4 := Lib.hid (HF.out.below B4.out (.inl (Nat.le_refl _)))
    clear b4 B3 F3
    by_cases h237 : 237 < p.size
    · go_wp2
      go_ret
      exact ⟨rfl, B4.out⟩
    · obtain ⟨p3, hp3⟩ : ∃ p3, p3 = ({ data := #[97, 98, 99] } : ByteArray) ++ p := ⟨_, rfl⟩
      obtain ⟨s3, hs3⟩ : ∃ s3, s3 = ({ data := #[89, 87, 74, 106] } : ByteArray) ++ s := ⟨_, rfl⟩
      have CP3 : Hid (∀ W, FigCell W → Calls Tryd.prog 12 #[.string p3] W fun e w' => e = .returned (.string s3) ∧ Below W.heap.size W w') := Lib.hid (fun W hW => by
        have := implCodePut_any p3 W (by rw [hp3, ByteArray.size_append]; show 3 + p.size ≤ maxLen; unfold maxLen; omega) hW
        rw [hp3, codePutB_abc (by omega), hu.out.2, ← hp3, ← hs3] at this
        exact this)
      have q3 : (s3.toList == s3.toList) = true := by simp
      go_wp2_with fail
      rw [← hp3]
      refine (CP3.out _ F4.out).mono ?_
      rintro e w5 ⟨rfl, b5⟩
      have B5 := Lib.hid (B4.out.trans (b5.mono B4.out.size))
      clear b5 B4
      go_wp2
      go_ret
      exact ⟨rfl, B5.out⟩
end Go.Proofs.YtmigcglcacpboaaDoor
