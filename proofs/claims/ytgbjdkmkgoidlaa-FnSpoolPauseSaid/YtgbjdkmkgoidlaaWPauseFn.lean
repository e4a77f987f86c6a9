/- The walk of FnSpoolPause. -/
import Derived.Test.YtgbjdkmkgoidlaaOne
import Derived.Test.YtgbjdkmkgoidlaaPause
namespace Go.Proofs.Ytgbjdkmkgoidlaa
open Go Go.RowKit

set_option maxHeartbeats 1000000 in
set_option maxRecDepth 100000 in
theorem drawSpoolPause_any (ao : Option Addr) (len cap : Nat) (w : World) (hr : ByteRow w ao len) (hl : len ≤ cap) (hc : cap ≤ maxLen) :
    Calls Try.prog 7 #[.slice ao len cap] w fun e w' => ∃ x : Int, x ∈ ([1, 2, 3, 4, 0, 5] : List Int) ∧ e = .returned (.int .i64 x) ∧ Below w.heap.size w w' := by
  have C := Lib.hid (fun W h1 => l20Open_any ao len cap W h1 hl hc)
  have HR := Lib.hid hr
  clear hr hl hc
  go_enter Try.func7, Try.ntmps7
  go_wp2_with fail
  refine (C.out _ HR.out).mono ?_
  rintro e w1 ⟨b, rfl, h1, b1⟩
  go_wp2_with fail
  refine (one_int (B := w.heap.size) (b := b) (P := 0) [1, 2, 3, 4, 0, 5] h1 (by simp) (by omega) rfl rfl (by decide) (by decide)).mono ?_
  rintro e w2 ⟨x, hx, rfl, h2, g2⟩
  have b2 := b1.trans (h1.below g2 (Nat.le_refl _))
  have HX := Lib.hid hx
  clear hx b1 h1 g2
  go_wp2
  go_ret
  exact ⟨x, HX.out, rfl, b2⟩

theorem iPause {n p : Int} (h : pauseZ n = p) : Hid (∀ w, Calls Try.prog 8 #[.int .i64 n] w fun e w' => e = .returned (.int .i64 p) ∧ w = w') := Lib.hid fun w => h ▸ implSpoolPause_any n w
theorem sPause {n p : Int} (h : pauseZ n = p) : Hid (∀ w, Calls Try.prog 9 #[.int .i64 n] w fun e w' => e = .returned (.int .i64 p) ∧ w = w') := Lib.hid fun w => h ▸ specSpoolPause_any n w

set_option maxHeartbeats 1000000 in
set_option maxRecDepth 100000 in
theorem wFnSpoolPause.walk (ao : Option Addr) (len cap : Nat) (w : World) (hr : ByteRow w ao len) (hl : len ≤ cap) (hc : cap ≤ maxLen) (_ : True) :
    Calls Try.prog 3 #[.slice ao len cap] w fun e w' => e = .returned (.bool true) ∧ Below w.heap.size w w' := by
  have hc' := hc
  unfold maxLen at hc'
  by_cases hbig : 1048576 < len
  · clear hr
    go_enter Try.func3, Try.ntmps3
    go_wp2
    go_ret
    exact ⟨rfl, Below.refl _ _⟩
  have CD := Lib.hid (drawSpoolPause_any ao len cap w hr hl hc)
  clear hr hc
  go_enter Try.func3, Try.ntmps3
  go_wp2_with fail
  refine CD.out.mono ?_
  rintro e w1 ⟨x, hx, rfl, b1⟩
  clear CD
  simp only [List.mem_cons, List.not_mem_nil, or_false] at hx
  rcases hx with rfl | rfl | rfl | rfl | rfl | rfl
  · go_wp2_with fail
    refine ((iPause (show pauseZ 1 = 2 by decide)).out _).mono ?_
    rintro e w' ⟨rfl, rfl⟩
    go_wp2_with fail
    refine ((sPause (show pauseZ 1 = 2 by decide)).out _).mono ?_
    rintro e w' ⟨rfl, rfl⟩
    go_wp2
    go_ret
    exact ⟨rfl, b1⟩
  · go_wp2_with fail
    refine ((iPause (show pauseZ 2 = 4 by decide)).out _).mono ?_
    rintro e w' ⟨rfl, rfl⟩
    go_wp2_with fail
    refine ((sPause (show pauseZ 2 = 4 by decide)).out _).mono ?_
    rintro e w' ⟨rfl, rfl⟩
    go_wp2_with fail
    refine ((iPause (show pauseZ 1 = 2 by decide)).out _).mono ?_
    rintro e w' ⟨rfl, rfl⟩
    go_wp2
    go_ret
    exact ⟨rfl, b1⟩
  · go_wp2_with fail
    refine ((iPause (show pauseZ 3 = 8 by decide)).out _).mono ?_
    rintro e w' ⟨rfl, rfl⟩
    go_wp2_with fail
    refine ((sPause (show pauseZ 3 = 8 by decide)).out _).mono ?_
    rintro e w' ⟨rfl, rfl⟩
    go_wp2_with fail
    refine ((iPause (show pauseZ 2 = 4 by decide)).out _).mono ?_
    rintro e w' ⟨rfl, rfl⟩
    go_wp2
    go_ret
    exact ⟨rfl, b1⟩
  · go_wp2_with fail
    refine ((iPause (show pauseZ 4 = 16 by decide)).out _).mono ?_
    rintro e w' ⟨rfl, rfl⟩
    go_wp2_with fail
    refine ((sPause (show pauseZ 4 = 16 by decide)).out _).mono ?_
    rintro e w' ⟨rfl, rfl⟩
    go_wp2_with fail
    refine ((iPause (show pauseZ 3 = 8 by decide)).out _).mono ?_
    rintro e w' ⟨rfl, rfl⟩
    go_wp2
    go_ret
    exact ⟨rfl, b1⟩
  · go_wp2_with fail
    refine ((iPause (show pauseZ 0 = -1 by decide)).out _).mono ?_
    rintro e w' ⟨rfl, rfl⟩
    go_wp2_with fail
    refine ((sPause (show pauseZ 0 = -1 by decide)).out _).mono ?_
    rintro e w' ⟨rfl, rfl⟩
    go_wp2_with fail
    refine ((sPause (show pauseZ 0 = -1 by decide)).out _).mono ?_
    rintro e w' ⟨rfl, rfl⟩
    go_wp2
    go_ret
    exact ⟨rfl, b1⟩
  · go_wp2_with fail
    refine ((iPause (show pauseZ 5 = -1 by decide)).out _).mono ?_
    rintro e w' ⟨rfl, rfl⟩
    go_wp2_with fail
    refine ((sPause (show pauseZ 5 = -1 by decide)).out _).mono ?_
    rintro e w' ⟨rfl, rfl⟩
    go_wp2_with fail
    refine ((sPause (show pauseZ 5 = -1 by decide)).out _).mono ?_
    rintro e w' ⟨rfl, rfl⟩
    go_wp2
    go_ret
    exact ⟨rfl, b1⟩
end Go.Proofs.Ytgbjdkmkgoidlaa
