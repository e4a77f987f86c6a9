/- The walks of FnExactQuotePut and FnExactQuoteGet. -/
import Derived.Test.YtmigcglcacpboaaQuoteW
namespace Go.Proofs.Ytmigcglcacpboaa
open Go Go.RowKit

theorem wFnExactQuotePut.walk (s : ByteArray) (w : World) (hs : s.size ≤ maxLen) (_ : True) :
    Calls Try.prog 5 #[.string s] w fun e w' => e = .returned (.bool true) ∧ Below w.heap.size w w' := by
  have C := Lib.hid (fun w => specQuotePut_any s w hs)
  have D := Lib.hid (fun w => implQuotePut_any s w hs)
  unfold maxLen at hs
  by_cases hbig : 1048576 < s.size
  · go_enter Try.func5, Try.ntmps5
    go_wp2
    go_ret
    exact ⟨rfl, Below.refl _ _⟩
  · have q : ((quotePutB s).toList == (quotePutB s).toList) = true := by simp
    generalize quotePutB s = p at C D q
    go_enter Try.func5, Try.ntmps5
    go_wp2_with fail
    refine (C.out _).mono ?_
    rintro e w1 ⟨rfl, b1⟩
    have B1 := Lib.hid b1
    clear b1
    go_wp2_with fail
    refine (D.out _).mono ?_
    rintro e w2 ⟨rfl, b2⟩
    have B2 := Lib.hid (B1.out.trans (b2.mono B1.out.size))
    clear b2 B1
    go_wp2
    go_ret
    exact ⟨rfl, B2.out⟩

theorem wFnExactQuoteGet.walk (s : ByteArray) (w : World) (hs : s.size ≤ maxLen) (_ : True) :
    Calls Try.prog 6 #[.string s] w fun e w' => e = .returned (.bool true) ∧ Below w.heap.size w w' := by
  unfold maxLen at hs
  by_cases hbig : 1048576 < s.size
  · go_enter Try.func6, Try.ntmps6
    go_wp2
    go_ret
    exact ⟨rfl, Below.refl _ _⟩
  · have C := Lib.hid (fun w => specQuoteGet_any s w (by omega))
    have D := Lib.hid (fun w => implQuoteGet_any s w (by omega))
    generalize (quoteGetB s).1 = p at C D
    generalize (quoteGetB s).2 = b at C D
    have q : (p.toList == p.toList) = true := by simp
    have qb : (b == b) = true := by simp
    go_enter Try.func6, Try.ntmps6
    go_wp2_with fail
    refine (C.out _).mono ?_
    rintro e w1 ⟨rfl, b1⟩
    have B1 := Lib.hid b1
    clear b1
    go_wp2_with fail
    refine (D.out _).mono ?_
    rintro e w2 ⟨rfl, b2⟩
    have B2 := Lib.hid (B1.out.trans (b2.mono B1.out.size))
    clear b2 B1
    go_wp2
    go_ret
    exact ⟨rfl, B2.out⟩
end Go.Proofs.Ytmigcglcacpboaa
