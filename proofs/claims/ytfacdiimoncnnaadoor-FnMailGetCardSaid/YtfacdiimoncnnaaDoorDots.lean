/- Contracts: lines as they are sent, by the model and by the program. -/
import Derived.Test.YtfacdiimoncnnaaDoorPlains
import Derived.Test.YtfacdiimoncnnaaDoorBasis
import Derived.Test.YtfacdiimoncnnaaDoorBuild
import Derived.Test.YtfacdiimoncnnaaDoorShelf
namespace Go.Proofs.YtfacdiimoncnnaaDoor
open Go Go.RowKit

theorem ret_st {a b : ByteArray} (h : a = b) : Ending.returned (.string a) = .returned (.string b) := by rw [h]

set_option maxHeartbeats 800000 in
theorem l2Dots_any (ao : Option Addr) (cap : Nat) (xs : List ByteArray) (w : World) (hr : StrRow w ao xs) (hl : xs.length ≤ 12) (hs : ∀ x ∈ xs, x.size ≤ 40) :
    Calls Tryd.prog 178 #[.slice ao xs.length cap] w fun e w' => e = .returned (.string ⟨(dotsAll xs).toArray⟩) ∧ w = w' := by
  have HR := Lib.hid hr
  have HS := Lib.hid hs
  clear hr hs
  go_enter Tryd.func178, Tryd.ntmps178
  go_wp2
  go_loop [3, 4] (fun v i => ∃ (k : Nat) (o : ByteArray), k ≤ xs.length ∧ i = .int .i64 k ∧ v = .string o ∧ o.size ≤ 43 * k ∧ Hid (o.data.toList = dotsL (xs.take k))) (fun _ i => xs.length - (intOf i).toNat)
  case atStart => exact ⟨0, { data := #[] }, Nat.zero_le _, rfl, rfl, Nat.le_refl _, Lib.hid (by simp [dotsL])⟩
  case round =>
    obtain ⟨k, o, hk, rfl, rfl, ho, H⟩ := hrel
    by_cases hlt : k < xs.length
    · obtain ⟨x, hx⟩ : ∃ x, xs[k]? = some x := ⟨_, List.getElem?_eq_getElem hlt⟩
      obtain ⟨b, off, rfl, hcell⟩ := HR.out k x hx
      have hxs := HS.out x (List.mem_of_getElem? hx)
      have HN := Lib.hid (dotsL_snoc hx)
      clear hx
      cases hd : dotted x
      · have HD := Lib.hid (dotLine_no hd)
        rcases dotted_false hd with he | ⟨he, h0, hne⟩
        · clear hd
          go_wp2
          go_round
          case rel => exact ⟨k + 1, o ++ x ++ { data := #[13, 10] }, by omega, by go_num, rfl, by simp only [ByteArray.size_append]; show o.size + x.size + 2 ≤ _; omega, Lib.hid (by rw [HN.out, HD.out, app_data, app_data, H.out]; simp)⟩
          case measure => simp [intOf]; omega
        · have hb0 : ((x[0].toNat : Int) == 46) = false := by
            rw [beq_eq_false_iff_ne]; intro e; exact hne (UInt8.toNat_inj.1 (by simpa using (by omega : x[0].toNat = 46)))
          have he2 : (!x.toList.isEmpty) = true := by simpa [List.isEmpty_iff] using he
          clear hd hne
          go_wp2
          go_round
          case rel => exact ⟨k + 1, o ++ x ++ { data := #[13, 10] }, by omega, by go_num, rfl, by simp only [ByteArray.size_append]; show o.size + x.size + 2 ≤ _; omega, Lib.hid (by rw [HN.out, HD.out, app_data, app_data, H.out]; simp)⟩
          case measure => simp [intOf]; omega
      · have HD := Lib.hid (dotLine_yes hd)
        obtain ⟨h0, he⟩ := dotted_true hd
        have hb0 : ((x[0].toNat : Int) == 46) = true := by rw [he]; rfl
        have hne : ¬ x.toList = [] := by rw [Lib.toList_data]; intro e; rw [Lib.size_eq, e] at h0; cases h0
        have hne2 : (!x.toList.isEmpty) = true := by simpa [List.isEmpty_iff] using hne
        clear hd he
        go_wp2
        go_round
        case rel => exact ⟨k + 1, o ++ ({ data := #[46] } ++ x) ++ { data := #[13, 10] }, by omega, by go_num, rfl, by simp only [ByteArray.size_append]; show o.size + (1 + x.size) + 2 ≤ _; omega, Lib.hid (by rw [HN.out, HD.out, app_data, app_data, app_data, H.out]; simp)⟩
        case measure => simp [intOf]; omega
    · have hm : Hid ((o ++ ({ data := #[46, 13, 10] } : ByteArray)).data.toList = dotsAll xs) := Lib.hid (by
        have e := H.out
        rw [List.take_of_length_le (by omega)] at e
        rw [app_data, e]; unfold dotsAll; simp)
      go_wp2
      go_ret
      exact ⟨ret_st (str_eq hm.out), rfl⟩

set_option maxHeartbeats 800000 in
theorem body_any (ao : Option Addr) (cap B b : Nat) (l : List UInt8) (xs : List ByteArray) (w : World) (hr : StrRow w ao xs) (hrB : ∀ a, xs ≠ [] → ao = some a → a.block < B) (hl : xs.length ≤ 12) (hs : ∀ x ∈ xs, x.size ≤ 40) (hll : l.length ≤ 16777216) (h : Holds B b l w) (hBw : B ≤ w.heap.size) :
    Calls Tryd.prog 127 #[.pointer (some ⟨b, 0, none⟩), .slice ao xs.length cap] w fun e w' => e = .returned (.tuple #[]) ∧ (Holds B b (l ++ dotsAll xs) w' ∧ Below B w w') := by
  have HR := Lib.hid hr
  have HS := Lib.hid hs
  have HB := Lib.hid hrB
  clear hr hs hrB
  go_enter Tryd.func127, Tryd.ntmps127
  go_wp2
  go_loopw [8] (fun i wr => ∃ k : Nat, k ≤ xs.length ∧ i = .int .i64 k ∧ Hid (Holds B b (l ++ dotsL (xs.take k)) wr) ∧ Below B w wr) (fun i _ => xs.length - (intOf i).toNat)
  case atStart => exact ⟨0, Nat.zero_le _, rfl, Lib.hid (by simpa [dotsL] using h), Below.refl _ _⟩
  case round =>
    obtain ⟨k, hk, rfl, H, hb⟩ := hrel
    clear h
    have hsz := hb.size
    have hlen := dotsL_take HS.out k
    by_cases hlt : k < xs.length
    · obtain ⟨x, hx⟩ : ∃ x, xs[k]? = some x := ⟨_, List.getElem?_eq_getElem hlt⟩
      obtain ⟨q, off, rfl, hcell0⟩ := HR.out k x hx
      have hqB : q < B := HB.out ⟨q, off, none⟩ (by intro e; rw [e] at hlt; simp at hlt) rfl
      have hcell := (hb.cell (p := ⟨q, off + k, none⟩) hqB).trans hcell0
      have hxs := HS.out x (List.mem_of_getElem? hx)
      have HN := Lib.hid (dotsL_snoc hx)
      clear hx hcell0
      cases hd : dotted x
      · have HD := Lib.hid (dotLine_no hd)
        have HP : Hid (Lib.hasPrefix x.data.toList ({ data := #[46] } : ByteArray).data.toList = false) := Lib.hid hd
        clear hd
        go_wp2_with (go_at_call 188; refine (Tryd.strings_HasPrefix _ _ _).mono ?_; rintro e w' ⟨rfl, rfl⟩; rw [HP.out])
        refine (line_any B b _ x _ H.out (by rw [List.length_append]; omega) (by omega)).mono ?_
        rintro e w1 ⟨rfl, h1, hb1⟩
        have H1 := Lib.hid h1
        clear h1
        go_wp2
        go_roundw
        case rel => exact ⟨k + 1, by omega, by go_num, Lib.hid (by rw [HN.out, HD.out]; simpa using H1.out), hb.trans hb1⟩
        case measure => simp [intOf]; omega
      · have HD := Lib.hid (dotLine_yes hd)
        have HP : Hid (Lib.hasPrefix x.data.toList ({ data := #[46] } : ByteArray).data.toList = true) := Lib.hid hd
        clear hd
        go_wp2_with (go_at_call 188; refine (Tryd.strings_HasPrefix _ _ _).mono ?_; rintro e w' ⟨rfl, rfl⟩; rw [HP.out])
        refine (writeString_any B b _ { data := #[46] } _ H.out (by rw [List.length_append, show ({ data := #[46] } : ByteArray).size = 1 from rfl]; omega) (by omega)).mono ?_
        rintro e w1 ⟨rfl, h1, hb1⟩
        have H1 := Lib.hid h1
        have hs1 := hb1.size
        clear h1
        go_wp2_with fail
        refine (line_any B b _ x _ H1.out (by rw [List.length_append, List.length_append, show ({ data := #[46] } : ByteArray).data.toList.length = 1 from rfl]; omega) (by omega)).mono ?_
        rintro e w2 ⟨rfl, h2, hb2⟩
        have H2 := Lib.hid h2
        clear h2
        go_wp2
        go_roundw
        case rel => exact ⟨k + 1, by omega, by go_num, Lib.hid (by rw [HN.out, HD.out]; simpa using H2.out), (hb.trans hb1).trans hb2⟩
        case measure => simp [intOf]; omega
    · go_wp2_with fail
      refine (line_any B b _ { data := #[46] } _ H.out (by rw [List.length_append, show ({ data := #[46] } : ByteArray).size = 1 from rfl]; omega) (by omega)).mono ?_
      rintro e w1 ⟨rfl, h1, hb1⟩
      have hm : Hid (Holds B b (l ++ dotsAll xs) w1) := Lib.hid (by
        rw [List.take_of_length_le (by omega)] at h1
        unfold dotsAll
        simpa using h1)
      clear h1
      go_wp2
      go_end0
      exact ⟨rfl, hm.out, hb.trans hb1⟩
end Go.Proofs.YtfacdiimoncnnaaDoor
