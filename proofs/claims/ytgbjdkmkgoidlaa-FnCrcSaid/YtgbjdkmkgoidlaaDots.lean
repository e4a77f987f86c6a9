/- Contracts: lines as they are sent, by the model and by the program. -/
import Derived.Test.YtgbjdkmkgoidlaaPlainDots
import Derived.Test.YtgbjdkmkgoidlaaBody
import Derived.Test.YtgbjdkmkgoidlaaBuild
import Derived.Test.YtgbjdkmkgoidlaaShelf
namespace Go.Proofs.Ytgbjdkmkgoidlaa
open Go Go.RowKit

theorem ret_st {a b : ByteArray} (h : a = b) : Ending.returned (.string a) = .returned (.string b) := by rw [h]

set_option maxHeartbeats 800000 in
theorem l2Dots_any (ao : Option Addr) (cap : Nat) (xs : List ByteArray) (w : World) (hr : StrRow w ao xs) (hl : xs.length ≤ 12) (hs : ∀ x ∈ xs, x.size ≤ 40) :
    Calls Try.prog 30 #[.slice ao xs.length cap] w fun e w' => e = .returned (.string ⟨(dotsAll xs).toArray⟩) ∧ w = w' := by
  have HR := Lib.hid hr
  have HS := Lib.hid hs
  clear hr hs
  go_enter Try.func30, Try.ntmps30
  go_wp2
  go_loop [3, 4] (fun v i => ∃ (k : Nat) (o : ByteArray), k ≤ xs.length ∧ i = .int .i64 k ∧ v = .string o ∧ o.size ≤ 43 * k ∧ Hid (o.data.toList = dotsL (xs.take k))) (fun _ i => xs.length - (intOf i).toNat)
  case atStart => exact ⟨0, { data := #[] }, Nat.zero_le _, rfl, rfl, Nat.le_refl _, Lib.hid (by simp [dotsL])⟩
  case round =>
    obtain ⟨k, o, hk, rfl, rfl, ho, H⟩ := hrel
    by_cases hlt : k < xs.length
    · obtain ⟨x, hx⟩ : ∃ x, xs[k]? = some x := ⟨_, List.getElem?_eq_getElem hlt⟩
      obtain ⟨b, off, rfl, hcell⟩ := HR.out k x hx
      have hxs := HS.out x (List.mem_of_getElem? hx)
      have HN := Lib.hid (dotsL_snoc hx)
      clear hx
      cases hd : dotted x
      · have HD := Lib.hid (dotLine_no hd)
        rcases dotted_false hd with he | ⟨he, h0, hne⟩
        · clear hd
          go_wp2
          go_round
          case rel => exact ⟨k + 1, o ++ x ++ { data := #[13, 10] }, by omega, by go_num, rfl, by simp only [ByteArray.size_append]; show o.size + x.size + 2 ≤ _; omega, Lib.hid (by rw [HN.out, HD.out, app_data, app_data, H.out]; simp)⟩
          case measure => simp [intOf]; omega
        · have hb0 : ((x[0].toNat : Int) == 46) = false := by
            rw [beq_eq_false_iff_ne]; intro e; exact hne (UInt8.toNat_inj.1 (by simpa using (by omega : x[0].toNat = 46)))
          have he2 : (!x.toList.isEmpty) = true := by simpa [List.isEmpty_iff] using he
          clear hd hne
          go_wp2
          go_round
          case rel => exact ⟨k + 1, o ++ x ++ { data := #[13, 10] }, by omega, by go_num, rfl, by simp only [ByteArray.size_append]; show o.size + x.size + 2 ≤ _; omega, Lib.hid (by rw [HN.out, HD.out, app_data, app_data, H.out]; simp)⟩
          case measure => simp [intOf]; omega
      · have HD := Lib.hid (dotLine_yes hd)
        obtain ⟨h0, he⟩ := dotted_true hd
        have hb0 : ((x[0].toNat : Int) == 46) = true := by rw [he]; rfl
        have hne : ¬ x.toList = [] := by rw [Lib.toList_data]; intro e; rw [Lib.size_eq, e] at h0; cases h0
        have hne2 : (!x.toList.isEmpty) = true := by simpa [List.isEmpty_iff] using hne
        clear hd he
        go_wp2
        go_round
        case rel => exact ⟨k + 1, o ++ ({ data := #[46] } ++ x) ++ { data := #[13, 10] }, by omega, by go_num, rfl, by simp only [ByteArray.size_append]; show o.size + (1 + x.size) + 2 ≤ _; omega, Lib.hid (by rw [HN.out, HD.out, app_data, app_data, app_data, H.out]; simp)⟩
        case measure => simp [intOf]; omega
    · have hm : Hid ((o ++ ({ data := #[46, 13, 10] } : ByteArray)).data.toList = dotsAll xs) := Lib.hid (by
        have e := H.out
        rw [List.take_of_length_le (by omega)] at e
        rw [app_data, e]; unfold dotsAll; simp)
      go_wp2
      go_ret
      exact ⟨ret_st (str_eq hm.out), rfl⟩

end Go.Proofs.Ytgbjdkmkgoidlaa
