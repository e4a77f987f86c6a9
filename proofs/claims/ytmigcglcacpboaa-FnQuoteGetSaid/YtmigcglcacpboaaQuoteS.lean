/- Contracts: bytes in figures of base 16, of the model. -/
import Derived.Test.YtmigcglcacpboaaQuoteI
namespace Go.Proofs.Ytmigcglcacpboaa
open Go Go.RowKit

theorem hex_conv (x y : UInt8) (w : World) : (convert 22 9 (.slice (some ⟨w.heap.size, 0, none⟩) 2 2)).run Try.prog (w.alloc (.cells #[.int .u8 (x.toNat : Int), .int .u8 (y.toNat : Int)] 5)).drew = .ok (.string ⟨#[x, y]⟩) (w.alloc (.cells #[.int .u8 (x.toNat : Int), .int .u8 (y.toNat : Int)] 5)).drew := by
  refine run_convert_bytes_back (P := Try.prog) _ _ _ _ ⟨w.heap.size, 0, none⟩ 2 [x, y] Try.underlying22 Try.underlying5 Try.underlying9 ?_
  intro j hj
  have hj2 : j < 2 := hj
  match j, hj2 with
  | 0, _ =>
    show (w.alloc _).cell? ⟨w.heap.size, 0, none⟩ = _
    rw [World.cell?_alloc_new]; rfl
  | 1, _ =>
    show (w.alloc _).cell? ⟨w.heap.size, 1, none⟩ = _
    rw [World.cell?_alloc_new]; rfl

theorem l11Hex_any (c : UInt8) (w : World) :
    Calls Try.prog 27 #[.int .u8 (c.toNat : Int)] w fun e w' => e = .returned (.string ⟨#[61, hexC (c.toNat / 16), hexC (c.toNat % 16)]⟩) ∧ Below w.heap.size w w' := by
  have hc8 := c.toNat_lt
  generalize c.toNat = n at hc8
  obtain ⟨n1, hn1⟩ : ∃ n1 : Nat, n / 16 = n1 := ⟨_, rfl⟩
  obtain ⟨n2, hn2⟩ : ∃ n2 : Nat, n % 16 = n2 := ⟨_, rfl⟩
  have d1 : (n : Int) / 16 = (n1 : Int) := by omega
  have d2 : (n : Int) % 16 = (n2 : Int) := by omega
  have d3 : (n : Int).tdiv 16 = (n1 : Int) := by rw [Int.tdiv_eq_ediv_of_nonneg (by omega)]; exact d1
  have d4 : (n : Int).tmod 16 = (n2 : Int) := by rw [Int.tmod_eq_emod_of_nonneg (by omega)]; exact d2
  have l1 : n1 < 16 := by omega
  have l2 : n2 < 16 := by omega
  have m1 : (n1 : Int) < 16 := by omega
  have m2 : (n2 : Int) < 16 := by omega
  rw [hn1, hn2]
  have HX1 := Lib.hid (hexS_get l1)
  have HX2 := Lib.hid (hexS_get l2)
  have hconv := fun W => hex_conv (({ data := #[48, 49, 50, 51, 52, 53, 54, 55, 56, 57, 65, 66, 67, 68, 69, 70] } : ByteArray)[n1]'(show n1 < 16 from l1)) (({ data := #[48, 49, 50, 51, 52, 53, 54, 55, 56, 57, 65, 66, 67, 68, 69, 70] } : ByteArray)[n2]'(show n2 < 16 from l2)) W
  have hb := fun o : Obj => ((Below.refl w.heap.size w).alloc (Nat.le_refl _) o).drew
  have HB := Lib.hid hb
  clear hn1 hn2 hb
  go_enter Try.func27, Try.ntmps27
  go_wp2
  go_region
  all_goals (
    go_wp2
    go_ret
    refine ⟨ret_stq ?_, HB.out _⟩
    rw [← HX1.out, ← HX2.out]
    rfl)

theorem app_dataq (a b : ByteArray) : (a ++ b).data.toList = a.data.toList ++ b.data.toList := by simp
theorem l11Quote_any (s : ByteArray) (w : World) (hs : s.size ≤ 1048576) :
    Calls Try.prog 18 #[.string s] w fun e w' => e = .returned (.string ⟨(quoteL s.data.toList).toArray⟩) ∧ Below w.heap.size w w' := by
  go_enter Try.func18, Try.ntmps18
  go_wp2
  go_loopw [3, 4] (fun v i wr => ∃ (k : Nat) (o : ByteArray), k ≤ s.size ∧ i = .int .i64 k ∧ v = .string o ∧ o.size ≤ 3 * k ∧ Hid (o.data.toList = quoteL (s.data.toList.take k)) ∧ Hid (Below w.heap.size w wr)) (fun _ i _ => s.size - (intOf i).toNat)
  case atStart => exact ⟨0, { data := #[] }, Nat.zero_le _, rfl, rfl, Nat.le_refl _, Lib.hid (by simp [quoteL]), Lib.hid (Below.refl _ _)⟩
  case round =>
    obtain ⟨k, o, hk, rfl, rfl, hol, HQ, HB⟩ := hrel
    have hsz := HB.out.size
    by_cases hlt : k < s.size
    · have HN := Lib.hid (quoteL_snoc (data_at s k hlt))
      have CP := Lib.hid (fun w => l11Plain_any s[k] w)
      have CH := Lib.hid (fun w => l11Hex_any s[k] w)
      cases hp : plainC s[k]
      · have HL := Lib.hid (quoteC_no hp)
        rw [hp] at CP
        rw [← HL.out] at CH
        have hql : (⟨(quoteC s[k]).toArray⟩ : ByteArray).size = 3 := by rw [HL.out]; rfl
        obtain ⟨x, hx⟩ : ∃ x : ByteArray, x = ⟨(quoteC s[k]).toArray⟩ := ⟨_, rfl⟩
        have HX := Lib.hid (show x.data.toList = quoteC s[k] by rw [hx])
        rw [← hx] at CH hql
        clear hp hx HL
        go_wp2_with fail
        refine (CP.out _).mono ?_
        rintro e w1 ⟨rfl, rfl⟩
        go_wp2_with fail
        refine (CH.out _).mono ?_
        rintro e w1 ⟨rfl, b1⟩
        have HB1 := Lib.hid (HB.out.trans (b1.mono hsz))
        clear HB b1
        go_wp2
        go_roundw
        case rel => exact ⟨k + 1, o ++ x, by omega, by go_num, rfl, by rw [ByteArray.size_append]; omega, Lib.hid (by rw [app_dataq, HX.out, HN.out, HQ.out]), HB1⟩
        case measure => simp [intOf]; omega
      · have HL := Lib.hid (quoteC_yes hp)
        rw [hp] at CP
        have hxz : (s.extract k (k + 1)).size = 1 := by rw [ByteArray.size_extract]; omega
        have HX : Hid ((s.extract k (k + 1)).data.toList = quoteC s[k]) := Lib.hid (by
          rw [HL.out, ByteArray.data_extract, Array.toList_extract, List.extract_eq_take_drop, show k + 1 - k = 1 by omega]
          rw [List.drop_eq_getElem_cons (by rw [← Lib.size_eq]; exact hlt)]
          rfl)
        have HXZ := Lib.hid hxz
        clear hp hxz
        obtain ⟨k1, hk1⟩ : ∃ k1, k + 1 = k1 := ⟨_, rfl⟩
        have q1 : (k : Int) + 1 = (k1 : Int) := by omega
        have i1 : k ≤ k1 := by omega
        have i2 : k1 ≤ s.size := by omega
        rw [hk1] at HX HXZ HN
        have HK1 := Lib.hid hk1
        clear hk1
        go_wp2_with fail
        refine (CP.out _).mono ?_
        rintro e w1 ⟨rfl, rfl⟩
        go_wp2
        go_roundw
        case rel => exact ⟨k1, o ++ s.extract k k1, by omega, by go_num, rfl, by rw [ByteArray.size_append, HXZ.out]; have := HK1.out; omega, Lib.hid (by rw [app_dataq, HX.out, HN.out, HQ.out]), HB⟩
        case measure => simp [intOf]; have := HK1.out; omega
    · have HE : Hid (o = ⟨(quoteL s.data.toList).toArray⟩) := Lib.hid (by
        have e := HQ.out
        rw [List.take_of_length_le (by rw [← Lib.size_eq]; omega)] at e
        rw [← e])
      clear HQ
      go_wp2
      go_ret
      exact ⟨ret_stq HE.out, HB.out⟩

theorem specQuotePut_any (s : ByteArray) (w : World) (hs : s.size ≤ maxLen) :
    Calls Try.prog 9 #[.string s] w fun e w' => e = .returned (.string (quotePutB s)) ∧ Below w.heap.size w w' := by
  unfold maxLen at hs
  by_cases h240 : 240 < s.size
  · have hm : Hid (quotePutB s = { data := #[] }) := Lib.hid (by unfold quotePutB; rw [if_neg (by omega)])
    go_enter Try.func9, Try.ntmps9
    go_wp2
    go_ret
    exact ⟨ret_stq hm.out.symm, Below.refl _ _⟩
  · have hm : Hid (quotePutB s = ⟨(quoteL s.data.toList).toArray⟩) := Lib.hid (by unfold quotePutB; rw [if_pos (by omega)])
    go_enter Try.func9, Try.ntmps9
    go_wp2_with fail
    refine (l11Quote_any s _ (by omega)).mono ?_
    rintro e w1 ⟨rfl, b1⟩
    have HB := Lib.hid b1
    clear b1
    go_wp2
    go_ret
    exact ⟨ret_stq hm.out.symm, HB.out⟩
end Go.Proofs.Ytmigcglcacpboaa
