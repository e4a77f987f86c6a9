/- Contracts: the line by which a mail is known. -/
import Derived.Test.YtfacdiimoncnnaaPlainId
import Derived.Test.YtfacdiimoncnnaaBody
import Derived.Test.YtfacdiimoncnnaaShelf
import Derived.WalkSpells
namespace Go.Proofs.Ytfacdiimoncnnaa
open Go Go.RowKit

theorem ret_str {a b : ByteArray} (h : a = b) : Ending.returned (.string a) = .returned (.string b) := by rw [h]
theorem ret_int {a b : Int} (h : a = b) : Ending.returned (.int .i64 a) = .returned (.int .i64 b) := by rw [h]

theorem isMark_any (s : ByteArray) (w : World) (hs : s.size ≤ maxLen) :
    Calls Try.prog 14 #[.string s] w fun e w' => e = .returned (.bool (knownB s)) ∧ w = w' := by
  unfold maxLen at hs
  by_cases h4 : 4 < s.size
  · have hq : Hid (knownB s = idP s) := Lib.hid (known_long h4)
    have HP : Hid (Lib.hasPrefix s.data.toList ({ data := #[73, 100, 58, 32] } : ByteArray).data.toList = idP s) := Lib.hid rfl
    go_enter Try.func14, Try.ntmps14
    go_wp2_with (go_at_call 19; refine (Try.strings_HasPrefix _ _ _).mono ?_; rintro e w' ⟨rfl, rfl⟩; rw [HP.out])
    go_ret
    exact ⟨ret_bo hq.out.symm, rfl⟩
  · have hq : Hid (knownB s = false) := Lib.hid (known_short (by omega))
    go_enter Try.func14, Try.ntmps14
    go_wp2
    go_ret
    exact ⟨ret_bo hq.out.symm, rfl⟩

theorem l7Mark_any (ao : Option Addr) (cap : Nat) (xs : List ByteArray) (w : World) (hr : StrRow w ao xs) (hl : xs.length ≤ 1048576) (hs : ∀ x ∈ xs, x.size ≤ 1048576) :
    Calls Try.prog 12 #[.slice ao xs.length cap] w fun e w' => e = .returned (.string (markR xs)) ∧ w = w' := by
  have HR := Lib.hid hr
  have HS := Lib.hid hs
  clear hr hs
  go_enter Try.func12, Try.ntmps12
  go_wp2
  go_loop [3] (fun i => ∃ k : Nat, k ≤ xs.length ∧ i = .int .i64 k ∧ Hid (noId (xs.take k) = true)) (fun i => xs.length - (intOf i).toNat)
  case atStart => exact ⟨0, Nat.zero_le _, rfl, Lib.hid (by simp [noId])⟩
  case round =>
    obtain ⟨k, hk, rfl, H⟩ := hrel
    by_cases hlt : k < xs.length
    · obtain ⟨x, hx⟩ : ∃ x, xs[k]? = some x := ⟨_, List.getElem?_eq_getElem hlt⟩
      obtain ⟨b, off, rfl, hcell⟩ := HR.out k x hx
      have hxs := HS.out x (List.mem_of_getElem? hx)
      have HX := Lib.hid hx
      clear hx
      by_cases h4 : 4 < x.size
      · cases hp : idP x
        · have HC := Lib.hid ((known_long h4).trans hp)
          have hpc : ((x.extract 0 4).toList == [73, 100, 58, 32]) = false := (idP_piece x).trans hp
          clear hp
          go_wp2
          go_round
          case rel => exact ⟨k + 1, by omega, by go_num, Lib.hid (noId_succ HX.out H.out HC.out)⟩
          case measure => simp [intOf]; omega
        · have hm : Hid (markR xs = x) := Lib.hid (markR_at HX.out H.out ((known_long h4).trans hp))
          have hpc : ((x.extract 0 4).toList == [73, 100, 58, 32]) = true := (idP_piece x).trans hp
          clear hp
          go_wp2
          go_ret
          exact ⟨ret_str hm.out.symm, rfl⟩
      · have HC := Lib.hid (known_short (show x.size ≤ 4 by omega))
        go_wp2
        go_round
        case rel => exact ⟨k + 1, by omega, by go_num, Lib.hid (noId_succ HX.out H.out HC.out)⟩
        case measure => simp [intOf]; omega
    · have hm : Hid (markR xs = { data := #[] }) := Lib.hid (markR_none (by omega) H.out)
      go_wp2
      go_ret
      exact ⟨ret_str hm.out.symm, rfl⟩

theorem indexMark_any (ao : Option Addr) (cap : Nat) (xs : List ByteArray) (w : World) (hr : StrRow w ao xs) (hl : xs.length ≤ 1048576) (hs : ∀ x ∈ xs, x.size ≤ 1048576) :
    Calls Try.prog 13 #[.slice ao xs.length cap, .func (.func 14) #[] #[]] w fun e w' => e = .returned (.int .i64 (idAt xs)) ∧ w = w' := by
  have HR := Lib.hid hr
  have HS := Lib.hid hs
  have eg : ∀ args w, (callFunc 14 args).run Try.prog w = .ok (.enter 14 args) w := enters_of Try.func14 (by kernel_rfl) rfl
  clear hr hs
  go_enter Try.func13, Try.ntmps13
  go_wp2
  go_loop [8] (fun i => ∃ k : Nat, k ≤ xs.length ∧ i = .int .i64 k ∧ Hid (noId (xs.take k) = true)) (fun i => xs.length - (intOf i).toNat)
  case atStart => exact ⟨0, Nat.zero_le _, rfl, Lib.hid (by simp [noId])⟩
  case round =>
    obtain ⟨k, hk, rfl, H⟩ := hrel
    by_cases hlt : k < xs.length
    · obtain ⟨x, hx⟩ : ∃ x, xs[k]? = some x := ⟨_, List.getElem?_eq_getElem hlt⟩
      obtain ⟨b, off, rfl, hcell⟩ := HR.out k x hx
      have hxs : x.size ≤ maxLen := by have := HS.out x (List.mem_of_getElem? hx); unfold maxLen; omega
      have HX := Lib.hid hx
      clear hx
      cases hp : knownB x
      · have HC := Lib.hid hp
        clear hp
        go_wp2_with (go_at_fn 14; refine (isMark_any x _ hxs).mono ?_; rintro e w1 ⟨rfl, rfl⟩; rw [HC.out])
        go_round
        case rel => exact ⟨k + 1, by omega, by go_num, Lib.hid (noId_succ HX.out H.out HC.out)⟩
        case measure => simp [intOf]; omega
      · have hm : Hid (idAt xs = (k : Int)) := Lib.hid (idAt_at HX.out H.out hp)
        have HC := Lib.hid hp
        clear hp
        go_wp2_with (go_at_fn 14; refine (isMark_any x _ hxs).mono ?_; rintro e w1 ⟨rfl, rfl⟩; rw [HC.out])
        go_ret
        exact ⟨ret_int hm.out.symm, rfl⟩
    · have hm : Hid (idAt xs = -1) := Lib.hid (idAt_none (by omega) H.out)
      go_wp2
      go_ret
      exact ⟨ret_int hm.out.symm, rfl⟩

theorem implMarkOf_any (ao : Option Addr) (cap : Nat) (xs : List ByteArray) (w : World) (hr : StrRow w ao xs) (hl : xs.length ≤ 1048576) (hs : ∀ x ∈ xs, x.size ≤ 1048576) :
    Calls Try.prog 8 #[.slice ao xs.length cap] w fun e w' => e = .returned (.string (markOfB xs)) ∧ w = w' := by
  have HR := Lib.hid hr
  have HS := Lib.hid hs
  have HS2 : Hid (∀ x ∈ xs, x.size ≤ maxLen) := Lib.hid (fun x hx => Nat.le_trans (hs x hx) (by unfold maxLen; omega))
  have hl2 : xs.length ≤ maxLen := by unfold maxLen; omega
  clear hr hs
  rcases id_cases xs with ⟨h1, h2⟩ | ⟨k, x, hk, hx, h1, h2, _⟩
  · have hm : Hid (markOfB xs = { data := #[] }) := Lib.hid (by unfold markOfB; split; exact h2; rfl)
    have H1 := Lib.hid h1
    clear h1 h2
    go_enter Try.func8, Try.ntmps8
    go_wp2_with (go_at_call 13; refine (indexMark_any ao cap xs _ HR.out hl HS.out).mono ?_; rintro e w1 ⟨rfl, rfl⟩; rw [H1.out])
    go_ret
    exact ⟨ret_str hm.out.symm, rfl⟩
  · obtain ⟨b, off, rfl, hcell⟩ := HR.out k x hx
    have H1 := Lib.hid h1
    have H2 := Lib.hid h2
    clear h1 h2 hx
    cases hb : bodyB xs
    · have hm : Hid (markOfB xs = { data := #[] }) := Lib.hid (markOf_no hb)
      have HB := Lib.hid hb
      clear hb
      go_enter Try.func8, Try.ntmps8
      go_wp2_with (first | (go_at_call 13; refine (indexMark_any _ cap xs _ HR.out hl HS.out).mono ?_; rintro e w1 ⟨rfl, rfl⟩; rw [H1.out]) | (go_at_call 15; refine (isBody_any _ cap xs _ HR.out hl2 HS2.out).mono ?_; rintro e w1 ⟨rfl, rfl⟩; rw [HB.out]))
      go_ret
      exact ⟨ret_str hm.out.symm, rfl⟩
    · have hm : Hid (markOfB xs = x) := Lib.hid ((markOf_yes hb).trans H2.out)
      have HB := Lib.hid hb
      clear hb
      go_enter Try.func8, Try.ntmps8
      go_wp2_with (first | (go_at_call 13; refine (indexMark_any _ cap xs _ HR.out hl HS.out).mono ?_; rintro e w1 ⟨rfl, rfl⟩; rw [H1.out]) | (go_at_call 15; refine (isBody_any _ cap xs _ HR.out hl2 HS2.out).mono ?_; rintro e w1 ⟨rfl, rfl⟩; rw [HB.out]))
      go_ret
      exact ⟨ret_str hm.out.symm, rfl⟩

theorem specMarkOf_any (ao : Option Addr) (cap : Nat) (xs : List ByteArray) (w : World) (hr : StrRow w ao xs) (hl : xs.length ≤ 1048576) (hs : ∀ x ∈ xs, x.size ≤ 1048576) :
    Calls Try.prog 6 #[.slice ao xs.length cap] w fun e w' => e = .returned (.string (markOfB xs)) ∧ w = w' := by
  have HR := Lib.hid hr
  have HS := Lib.hid hs
  have HS2 : Hid (∀ x ∈ xs, x.size ≤ maxLen) := Lib.hid (fun x hx => Nat.le_trans (hs x hx) (by unfold maxLen; omega))
  have hl2 : xs.length ≤ maxLen := by unfold maxLen; omega
  clear hr hs
  cases hb : bodyB xs
  · have hm : Hid (markOfB xs = { data := #[] }) := Lib.hid (markOf_no hb)
    have HB := Lib.hid hb
    clear hb
    go_enter Try.func6, Try.ntmps6
    go_wp2_with (go_at_call 11; refine (l2BodyOk_any ao cap xs _ HR.out hl2 HS2.out).mono ?_; rintro e w1 ⟨rfl, rfl⟩; rw [HB.out])
    go_ret
    exact ⟨ret_str hm.out.symm, rfl⟩
  · have hm : Hid (markOfB xs = markR xs) := Lib.hid (markOf_yes hb)
    have HB := Lib.hid hb
    clear hb
    go_enter Try.func6, Try.ntmps6
    go_wp2_with (first | (go_at_call 11; refine (l2BodyOk_any ao cap xs _ HR.out hl2 HS2.out).mono ?_; rintro e w1 ⟨rfl, rfl⟩; rw [HB.out]) | (go_at_call 12; refine (l7Mark_any ao cap xs _ HR.out hl HS.out).mono ?_; rintro e w1 ⟨rfl, rfl⟩))
    go_ret
    exact ⟨ret_str hm.out.symm, rfl⟩
end Go.Proofs.Ytfacdiimoncnnaa
