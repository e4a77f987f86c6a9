/- Contracts: figures of base 64, of the program: a group written. -/
import Derived.Test.YtmigcglcacpboaaDoorFigs
import Derived.Laws.BitsAllLaws
import Derived.Laws.Shifts
import Derived.Laws.ShiftsVar
import Derived.Laws.ShiftsVarLaws
namespace Go.Proofs.YtmigcglcacpboaaDoor
open Go Go.RowKit

theorem or_i64 (a b : Nat) (ha : a < 4294967296) (hb : b < 4294967296) : bits .or .i64 (a : Int) (b : Int) = ((a ||| b : Nat) : Int) := by
  have hx : a ||| b < 2 ^ 32 := Nat.or_lt_two_pow (by omega) (by omega)
  have h1 : (BitVec.ofInt 64 (a : Int)).toNat = a := by
    rw [BitVec.ofInt_natCast, BitVec.toNat_ofNat]; exact Nat.mod_eq_of_lt (by omega)
  have h2 : (BitVec.ofInt 64 (b : Int)).toNat = b := by
    rw [BitVec.ofInt_natCast, BitVec.toNat_ofNat]; exact Nat.mod_eq_of_lt (by omega)
  show IntKind.i64.wrap ((BitVec.ofInt 64 (a : Int) ||| BitVec.ofInt 64 (b : Int)).toNat : Int) = _
  rw [BitVec.toNat_or, h1, h2]
  exact IntWalk.i64_in _ (by omega)
theorem or_add (x b k : Nat) (hb : b < 2 ^ k) : (x * 2 ^ k) ||| b = x * 2 ^ k + b := by
  rw [Nat.mul_comm]; exact (Nat.two_pow_add_eq_or_of_lt hb x).symm
/-- The bytes so far, as a number. -/
def nAt (g : List UInt8) : Nat → Nat
  | 0 => 0
  | k + 1 => nAt g k * 256 + byteAt g k
theorem nAt_three (g : List UInt8) : nAt g 3 = n3 g := by unfold n3; simp only [nAt]; omega
theorem nAt_lt (g : List UInt8) : ∀ k, k ≤ 3 → nAt g k < 256 ^ k
  | 0, _ => by show 0 < 1; omega
  | 1, _ => by have := byteAt_lt g 0; simp only [nAt]; omega
  | 2, _ => by have := byteAt_lt g 0; have := byteAt_lt g 1; simp only [nAt]; omega
  | 3, _ => by have := byteAt_lt g 0; have := byteAt_lt g 1; have := byteAt_lt g 2; simp only [nAt]; omega

theorem HoldsS.later {B b : Nat} {l : List UInt8} {w w' : World} (h : HoldsS B b l w) (hb : Below w.heap.size w w') : HoldsS B b l w' := by
  have key : ∀ {p : Value}, Lib.BuilderAt 48 5 B b p (Lib.byteCells l) w → Lib.BuilderAt 48 5 B b p (Lib.byteCells l) w' := by
    rintro p ⟨hB, v, hbk, hown, hne⟩
    have hlt : b < w.heap.size := (Array.getElem?_eq_some_iff.1 hbk).1
    exact ⟨hB, v, (hb.block b hlt).trans hbk, hown.kept (row := none) ⟨hb.os, hb.tape, hb.output, hb.size, fun k hk _ => hb.block k hk⟩ (by cases v.ownBlock <;> simp), hne⟩
  exact h.imp key key
theorem repeat_pad {pad : Nat} (h : pad ≤ 2) : Lib.repeatL ({ data := #[61] } : ByteArray).data.toList pad = List.replicate pad 61 := by
  have : ∀ pad ≤ 2, Lib.repeatL ({ data := #[61] } : ByteArray).data.toList pad = List.replicate pad 61 := by decide
  exact this pad h
theorem wrap64_small {n : Int} (h : 0 ≤ n ∧ n ≤ 1000000000000) : wrap64 n = n := IntWalk.wrap64_in n (by omega)
theorem data_at' (s : ByteArray) (k : Nat) (h : k < s.size) : s.data.toList[k]? = some s[k] := Lib.data_getElem? s k h

set_option maxHeartbeats 2000000 in
theorem figuresPut_any (s : ByteArray) (w : World) (hf : FigCell w) (h1 : 1 ≤ s.size) (h3 : s.size ≤ 3) :
    Calls Tryd.prog 34 #[.string s] w fun e w' => e = .returned (.string ⟨(figs3 s.data.toList).toArray⟩) ∧ Below w.heap.size w w' := by
  have HF := Lib.hid hf
  clear hf
  go_enter Tryd.func34, Tryd.ntmps34
  go_wp2
  go_loop [3, 8] (fun v i => ∃ k : Nat, k ≤ 3 ∧ i = .int .i64 k ∧ v = .int .i64 (nAt s.data.toList k : Nat)) (fun _ i => 3 - (intOf i).toNat)
  case atStart => exact ⟨0, Nat.zero_le _, rfl, rfl⟩
  case round =>
    obtain ⟨k, hk, rfl, rfl⟩ := hrel
    by_cases hlt : k < 3
    · have hn := nAt_lt s.data.toList k hk
      have hn2 : nAt s.data.toList k < 65536 := Nat.lt_of_lt_of_le hn (Nat.le_trans (Nat.pow_le_pow_right (by decide) (show k ≤ 2 by omega)) (by decide))
      have HS : Hid (nAt s.data.toList (k + 1) = nAt s.data.toList k * 256 + byteAt s.data.toList k) := Lib.hid rfl
      generalize nAt s.data.toList k = n at *
      by_cases hin : k < s.size
      · have hb := byteAt_get (data_at' s k hin)
        have hb8 := s[k].toNat_lt
        have hor : bits .or .i64 ((n : Int) * 256) (s[k].toNat : Int) = ((n * 256 + s[k].toNat : Nat) : Int) := by
          have := or_i64 (n * 256) s[k].toNat (by omega) (by omega)
          rw [show n * 256 = n * 2 ^ 8 from rfl, or_add n s[k].toNat 8 (by omega)] at this
          exact this
        have HN : Hid (nAt s.data.toList (k + 1) = n * 256 + s[k].toNat) := Lib.hid (by rw [HS.out, hb])
        clear hb HS
        go_wp2
        go_round
        case rel => exact ⟨k + 1, by omega, by go_num, by rw [HN.out, Int.natCast_add, Int.natCast_mul]; rfl⟩
        case measure => simp [intOf]; omega
      · have HN : Hid (nAt s.data.toList (k + 1) = n * 256) := Lib.hid (by rw [HS.out, byteAt_none (by rw [← Lib.size_eq]; omega), Nat.add_zero])
        clear HS
        go_wp2
        go_round
        case rel => exact ⟨k + 1, by omega, by go_num, by rw [HN.out, Int.natCast_mul]; rfl⟩
        case measure => simp [intOf]; omega
    · obtain rfl : k = 3 := by omega
      have hn3 := n3_lt s.data.toList
      rw [nAt_three]
      have HG : Hid (figs3 s.data.toList = (List.range (s.size + 1)).map (figN (n3 s.data.toList)) ++ List.replicate (3 - s.size) 61) := Lib.hid (by
        unfold figs3; rw [show s.data.toList.length = s.size by simp])
      generalize n3 s.data.toList = n at *
      have H0 := Lib.hid (freshS w)
      have B0 : Hid (Below w.heap.size w (w.alloc (.cells #[.pointer none, .slice none 0 0] 48))) := Lib.hid ((Below.refl _ w).alloc (Nat.le_refl _) _)
      go_wp2
      go_loopw [27] (fun i wr => ∃ k : Nat, k ≤ s.size + 1 ∧ i = .int .i64 k ∧ Hid (HoldsS w.heap.size w.heap.size ((List.range k).map (figN n)) wr) ∧ Hid (Below w.heap.size w wr)) (fun i _ => s.size + 1 - (intOf i).toNat)
      case atStart => exact ⟨0, Nat.zero_le _, rfl, H0, B0⟩
      case round =>
        obtain ⟨k, hk, rfl, HO, HB⟩ := hrel
        clear H0 B0
        have hsz := HB.out.size
        by_cases hlt : k < s.size + 1
        · have HFr := Lib.hid (HF.out.below HB.out (.inl (Nat.le_refl _)))
          obtain ⟨q, hq⟩ : ∃ q, q = n / 2 ^ (18 - 6 * k) := ⟨_, rfl⟩
          obtain ⟨v, hv⟩ : ∃ v, v = q % 64 := ⟨_, rfl⟩
          have hv64 : v < 64 := by omega
          have e0 : 24 - 6 * (k + 1) = 18 - 6 * k := by omega
          have e1 : (n : Int) / 2 ^ (24 - 6 * (k + 1)) = (q : Int) := by rw [e0, hq]; simp
          have e2 : (q : Int) % 64 = (v : Int) := by omega
          have e3 : (q : Int).tmod 64 = (v : Int) := by rw [Int.tmod_eq_emod_of_nonneg (by omega)]; exact e2
          have hcv := HFr.out v hv64
          have HN : Hid ((List.range (k + 1)).map (figN n) = (List.range k).map (figN n) ++ [figC v]) := Lib.hid (by
            rw [List.range_succ, List.map_append, List.map_singleton]
            unfold figN
            rw [← hq, ← hv])
          have HW := Lib.hid (fun W hw hB => writeByteS_any w.heap.size w.heap.size ((List.range k).map (figN n)) (figC v) W hw (by rw [List.length_map, List.length_range]; omega) hB)
          clear hq hv e0
          go_wp2_with fail
          refine (HW.out _ HO.out (by omega)).mono ?_
          rintro e w1 ⟨rfl, h2, b2⟩
          have HO2 := Lib.hid h2
          have HB2 := Lib.hid (HB.out.trans b2)
          clear HO HB h2 b2 HFr hcv
          go_wp2
          go_roundw
          case rel => exact ⟨k + 1, by omega, by go_num, Lib.hid (by rw [HN.out]; exact HO2.out), HB2⟩
          case measure => simp [intOf]; omega
        · obtain rfl : k = s.size + 1 := by omega
          obtain ⟨pad, hpad⟩ : ∃ pad, pad = 3 - s.size := ⟨_, rfl⟩
          have q1 : (3 : Int) - (s.size : Int) = (pad : Int) := by omega
          have CR : Hid (∀ W : World, Calls Tryd.prog 53 #[.string { data := #[61] }, .int .i64 (pad : Int)] W fun e w' => e = .returned (.string ⟨(List.replicate pad 61).toArray⟩) ∧ Below W.heap.size W w') := Lib.hid (fun W => by
            have h := Tryd.strings_Repeat ({ data := #[61] } : ByteArray) pad W (by omega) (by show 1 * pad ≤ _; omega)
            rw [repeat_pad (by omega)] at h
            exact h)
          rw [← hpad] at HG
          clear hpad
          go_wp2_with fail
          refine (CR.out _).mono ?_
          rintro e w1 ⟨rfl, b1⟩
          have HO1 := Lib.hid (HO.out.later b1)
          have HB1 := Lib.hid (HB.out.trans (b1.mono hsz))
          have hsz1 := HB1.out.size
          clear b1 HO HB
          go_wp2_with fail
          refine (writeStringS_any w.heap.size w.heap.size _ _ _ HO1.out (by rw [List.length_map, List.length_range]; show s.size + 1 + (List.replicate pad 61).length ≤ _; rw [List.length_replicate]; omega) (by omega)).mono ?_
          rintro e w2 ⟨rfl, h2, b2⟩
          have h2' : HoldsS w.heap.size w.heap.size (figs3 s.data.toList) w2 := by rw [HG.out]; exact h2
          have HO2 := Lib.hid h2'
          have HB2 := Lib.hid (HB1.out.trans b2)
          clear HO1 HB1 h2 h2' b2
          go_wp2_with fail
          refine (stringS_any _ _ _ _ HO2.out (by have := HB2.out.size; omega)).mono ?_
          rintro e w3 ⟨rfl, b3⟩
          have HB3 := Lib.hid (HB2.out.trans b3)
          clear HO2 HB2 b3
          go_wp2
          go_ret
          exact ⟨rfl, HB3.out⟩
end Go.Proofs.YtmigcglcacpboaaDoor
