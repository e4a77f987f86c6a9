/- The walk of FnAddrGet. -/
import Derived.Test.YtaobhhjdkdoceaaDoorWAddrPutFn
import Derived.Test.YtaobhhjdkdoceaaDoorBent
namespace Go.Proofs.YtaobhhjdkdoceaaDoor
open Go Go.RowKit

theorem getR_sizes {s u d : ByteArray} (h : getR s = (u, d, true)) : u.size ≤ s.size ∧ d.size ≤ s.size := by
  cases hn : (s.toList == [60, 62])
  · obtain ⟨u', d', f, _, _, _, hu, hd, e⟩ := getR_steps s hn
    rw [e] at h
    split at h
    · simp only [Prod.mk.injEq, and_true] at h
      obtain ⟨rfl, rfl⟩ := h
      exact ⟨hu, hd⟩
    · simp [noAddr] at h
  · rw [getR_null hn] at h
    simp only [Prod.mk.injEq, and_true] at h
    obtain ⟨rfl, rfl⟩ := h
    exact ⟨Nat.zero_le _, Nat.zero_le _⟩
theorem putB_size {u d : ByteArray} (hu : u.size ≤ 20) (hd : d.size ≤ 20) : (putB u d).size ≤ 50 := by
  unfold putB
  split
  · show 2 ≤ 50; omega
  · split
    · rw [wire_size]; omega
    · exact Nat.zero_le _

set_option maxHeartbeats 1000000 in
set_option maxRecDepth 100000 in
theorem drawAddrGet_any (ao : Option Addr) (len cap : Nat) (w : World) (hr : ByteRow w ao len) (hl : len ≤ cap) (hc : cap ≤ maxLen) :
    Calls Tryd.prog 19 #[.slice ao len cap] w fun e w' => ∃ s, s.size ≤ 60 ∧ e = .returned (.string s) ∧ Below w.heap.size w w' := by
  have C := Lib.hid (fun W h1 => l20Open_any ao len cap W h1 hl hc)
  have HR := Lib.hid hr
  clear hr hl hc
  go_enter Tryd.func19, Tryd.ntmps19
  go_wp2_with fail
  refine (C.out _ HR.out).mono ?_
  rintro e w1 ⟨b, rfl, h1, b1⟩
  have H1 := Lib.hid h1
  have B1 := Lib.hid b1
  clear h1 b1
  go_wp2_with fail
  refine (l20AnyAddr_any _ b _ _ H1.out (by omega)).mono ?_
  rintro e w2 ⟨u, d, zu, zd, rfl, h2, g2⟩
  have B2 := Lib.hid (B1.out.trans (H1.out.below g2 (Nat.le_refl _)))
  have H2 := Lib.hid h2
  clear h2 g2
  go_wp2_with fail
  refine (specAddrPut_any u d _ (by omega) (by omega)).mono ?_
  rintro e w3 ⟨rfl, b3⟩
  have hz := putB_size zu zd
  generalize putB u d = s at hz
  have B3 := Lib.hid (B2.out.trans (b3.mono B2.out.size))
  have H3 := Lib.hid (H2.out.later b3)
  clear b3
  go_wp2_with fail
  refine (pick_at 2 H3.out rfl (by omega) (by decide) (by decide)).mono ?_
  rintro e w4 ⟨k, rfl, hk, h4, g4⟩
  have B4 := Lib.hid (B3.out.trans (H3.out.below g4 (Nat.le_refl _)))
  have H4 := Lib.hid h4
  clear h4 g4
  by_cases k0 : k = 0
  · subst k0
    go_wp2
    go_ret
    exact ⟨s, by omega, rfl, B4.out⟩
  · have hb0 : ((k : Int) == 0) = false := by rw [beq_eq_false_iff_ne]; omega
    go_wp2_with fail
    refine (l20Bent_any _ b _ s _ H4.out (by omega) (by omega)).mono ?_
    rintro e w5 ⟨x, hx, rfl, h5, g5⟩
    have B5 := Lib.hid (B4.out.trans (H4.out.below g5 (Nat.le_refl _)))
    clear h5 g5
    go_wp2
    go_ret
    exact ⟨x, by omega, rfl, B5.out⟩

set_option maxHeartbeats 2000000 in
set_option maxRecDepth 100000 in
theorem wFnAddrGet.walk (ao : Option Addr) (len cap : Nat) (w : World) (hr : ByteRow w ao len) (hl : len ≤ cap) (hc : cap ≤ maxLen) (hm : HasMax w) :
    Calls Tryd.prog 3 #[.slice ao len cap] w fun e w' => e = .returned (.bool true) ∧ Below w.heap.size w w' := by
  have HM := Lib.hid hm
  have hc' := hc
  unfold maxLen at hc'
  clear hm
  by_cases hbig : 1048576 < len
  · clear hr
    go_enter Tryd.func3, Tryd.ntmps3
    go_wp2
    go_ret
    exact ⟨rfl, Below.refl _ _⟩
  have CD := Lib.hid (fun W h1 => drawAddrGet_any ao len cap W h1 hl hc)
  have HR := Lib.hid hr
  clear hr hc
  go_enter Tryd.func3, Tryd.ntmps3
  go_wp2_with fail
  refine (CD.out _ HR.out).mono ?_
  rintro e w1 ⟨s, zs, rfl, b1⟩
  have N1 : Now w w1 := ⟨HM.out.below b1 (Nat.le_refl _), b1⟩
  have hw1 := b1.size
  clear CD HR b1
  obtain ⟨u, d, ok, hq⟩ : ∃ u d ok, getR s = (u, d, ok) := ⟨_, _, _, rfl⟩
  have iG := implGet_st hq (by omega) (Now.steady w)
  go_wp2_with fail
  refine (iG.out _ N1).mono ?_
  rintro e w2 ⟨rfl, N2⟩
  have hw2 := N2.2.size
  have N3 : Now2 w w2.heap.size u d (w2.alloc (.cells #[.string u, .string d] 25)) := ⟨N2.next ((Below.refl _ _).alloc (Nat.le_refl _) _), TwoAt.new _ _ _ _⟩
  clear N1 N2 iG
  have sG := specGet_st hq (by omega) (Now2.steady w w2.heap.size u d)
  go_wp2_with fail
  refine (sG.out _ N3).mono ?_
  rintro e w4 ⟨rfl, N4⟩
  have hl4 := World.block_lt_of_cell? w4 _ N4.2.1
  have N5 : Now2 w w2.heap.size u d (w4.alloc (.cells #[.string u, .string d] 25)) := Now2.new N4 _
  obtain ⟨s0, s1, s2, s3⟩ := N5.2
  obtain ⟨x0, x1, x2, x3⟩ := TwoAt.new w4 (.string u) (.string d) 25
  clear N3 N4 sG
  cases ok
  · clear hq
    go_wp2_with fail
    go_ret
    exact ⟨rfl, N5.1.2⟩
  · have hp := getR_put hq
    obtain ⟨zu, zd⟩ := getR_sizes hq
    have iP := implPut_st hp (by omega) (by omega) (Now2.steady w w2.heap.size u d)
    clear hq hp zu zd
    go_wp2_with fail
    refine (iP.out _ N5).mono ?_
    rintro e w6 ⟨rfl, N6⟩
    clear N5 s0 s1 s2 s3 x0 x1 x2 x3
    go_wp2
    go_ret
    exact ⟨rfl, N6.1.2⟩
end Go.Proofs.YtaobhhjdkdoceaaDoor
