/- Contracts: a group of figures of base 64 read, by the program. -/
import Derived.Test.YtmigcglcacpboaaDoorFigsPut
import Derived.Lib.TrimByte
namespace Go.Proofs.YtmigcglcacpboaaDoor
open Go Go.RowKit

/-- The figures so far, as a number. -/
def nSix (l : List UInt8) : Nat → Nat
  | 0 => 0
  | k + 1 => nSix l k * 64 + figV (l.getD k 0)
theorem nSix_lt (l : List UInt8) : ∀ k, nSix l k < 64 ^ k
  | 0 => by show 0 < 1; omega
  | k + 1 => by
    have h1 := nSix_lt l k
    have h2 := figV_lt (l.getD k 0)
    show nSix l k * 64 + figV (l.getD k 0) < 64 ^ (k + 1)
    rw [Nat.pow_succ]; omega
theorem nSix_four (a b c d : UInt8) : nSix [a, b, c, d] 4 = n4 a b c d := by unfold n4; simp [nSix]
theorem trim_figs {u : List UInt8} (h1 : 1 ≤ u.length) (h3 : u.length ≤ 3) : (Lib.trimRightB (figs3 u) 61).length = u.length + 1 := by
  obtain ⟨a, b, c, d, e, ha, hb, hc, hd, _⟩ := figs3_read h1 h3
  rw [e]
  unfold Lib.trimRightB
  have hcase : u.length = 1 ∨ u.length = 2 ∨ u.length = 3 := by omega
  rcases hcase with hu | hu | hu
  · obtain rfl := hc.2 hu
    obtain rfl := hd.2 (by omega)
    have hb' : (b == 61) = false := by simpa using hb
    rw [hu]
    show ((List.dropWhile (· == 61) [61, 61, b, a]).reverse).length = 2
    rw [List.dropWhile_cons_of_pos (by rfl), List.dropWhile_cons_of_pos (by rfl), List.dropWhile_cons_of_neg (by simp [hb'])]; rfl
  · have hc' : ¬ c = 61 := fun e => by have := hc.1 e; omega
    obtain rfl := hd.2 (by omega)
    have hc2 : (c == 61) = false := by simpa using hc'
    rw [hu]
    show ((List.dropWhile (· == 61) [61, c, b, a]).reverse).length = 3
    rw [List.dropWhile_cons_of_pos (by rfl), List.dropWhile_cons_of_neg (by simp [hc2])]; rfl
  · have hd' : ¬ d = 61 := fun e => by have := hd.1 e; omega
    have hd2 : (d == 61) = false := by simpa using hd'
    rw [hu]
    show ((List.dropWhile (· == 61) [d, c, b, a]).reverse).length = 4
    rw [List.dropWhile_cons_of_neg (by simp [hd2])]; rfl
theorem trim_le (l : List UInt8) (c : UInt8) : (Lib.trimRightB l c).length ≤ l.length := by
  unfold Lib.trimRightB
  rw [List.length_reverse]
  exact Nat.le_trans (List.dropWhile_sublist _).length_le (by rw [List.length_reverse]; exact Nat.le_refl _)
theorem three_length (n : Nat) : (three n).length = 3 := rfl

/-- Three bytes of a block of the call's own, as a text: the first m of them. -/
theorem three_conv (x y z : UInt8) (m cap : Nat) (hm : m ≤ 3) (b : Nat) (w : World) (h0 : w.cell? ⟨b, 0, none⟩ = some (.int .u8 (x.toNat : Int))) (h1 : w.cell? ⟨b, 1, none⟩ = some (.int .u8 (y.toNat : Int))) (h2 : w.cell? ⟨b, 2, none⟩ = some (.int .u8 (z.toNat : Int))) :
    (convert 22 9 (.slice (some ⟨b, 0, none⟩) m cap)).run Tryd.prog w = .ok (.string ⟨([x, y, z].take m).toArray⟩) w := by
  have hl : ([x, y, z].take m).length = m := by rw [List.length_take]; show min m 3 = m; omega
  have key := run_convert_bytes_back (P := Tryd.prog) w 22 9 5 ⟨b, 0, none⟩ cap ([x, y, z].take m) Tryd.underlying22 Tryd.underlying5 Tryd.underlying9 ?_
  · rw [hl] at key; exact key
  · intro j hj
    rw [hl] at hj
    have hj3 : j < 3 := by omega
    have e : ([x, y, z].take m)[j] = [x, y, z][j]'(show j < 3 from hj3) := by simp
    rw [e]
    match j, hj3 with
    | 0, _ => exact h0
    | 1, _ => exact h1
    | 2, _ => exact h2

theorem ret_sfg {a b : ByteArray} (h : a = b) : Ending.returned (.string a) = .returned (.string b) := by rw [h]
/-- What a group of figures is read as. -/
def readG (s : ByteArray) : List UInt8 := (three (nSix s.data.toList s.size)).take ((Lib.trimRightB s.data.toList 61).length - 1)
theorem readG_figs {s : ByteArray} {u : List UInt8} (h1 : 1 ≤ u.length) (h3 : u.length ≤ 3) (h : s.data.toList = figs3 u) : readG s = u := by
  obtain ⟨a, b, c, d, e, _, _, _, _, t⟩ := figs3_read h1 h3
  have hs : s.size = 4 := by rw [Lib.size_eq, h, figs3_length h3]
  unfold readG
  rw [h, trim_figs h1 h3, hs, e, nSix_four, Nat.add_sub_cancel]
  exact t
theorem readG_length (s : ByteArray) : (readG s).length ≤ 3 := by unfold readG; rw [List.length_take]; show min _ 3 ≤ 3; omega

set_option maxRecDepth 100000 in
set_option maxHeartbeats 2000000 in
theorem figuresGet_any (s : ByteArray) (w : World) (hf : FigCell w) (h4 : s.size ≤ 4) :
    Calls Tryd.prog 37 #[.string s] w fun e w' => e = .returned (.string ⟨(readG s).toArray⟩) ∧ Below w.heap.size w w' := by
  have HF := Lib.hid hf
  clear hf
  have CT := Lib.hid (fun W => Tryd.strings_TrimRight_one s 61 (by decide) W (by omega))
  have hT := trim_le s.data.toList 61
  rw [← Lib.size_eq] at hT
  have HG : Hid (readG s = (three (nSix s.data.toList s.size)).take ((Lib.trimRightB s.data.toList 61).length - 1)) := Lib.hid rfl
  go_enter Tryd.func37, Tryd.ntmps37
  go_wp2
  go_loop [3, 9] (fun v i => ∃ k : Nat, k ≤ s.size ∧ i = .int .i64 k ∧ v = .int .i64 (nSix s.data.toList k : Nat)) (fun _ i => s.size - (intOf i).toNat)
  case atStart => exact ⟨0, Nat.zero_le _, rfl, rfl⟩
  case round =>
    obtain ⟨k, hk, rfl, rfl⟩ := hrel
    by_cases hlt : k < s.size
    · have hn := nSix_lt s.data.toList k
      have hn2 : nSix s.data.toList k < 262144 := Nat.lt_of_lt_of_le hn (Nat.le_trans (Nat.pow_le_pow_right (by decide) (show k ≤ 3 by omega)) (by decide))
      have hv := figV_lt s[k]
      have HN : Hid (nSix s.data.toList (k + 1) = nSix s.data.toList k * 64 + figV s[k]) := Lib.hid (by
        show _ * 64 + figV (s.data.toList.getD k 0) = _
        rw [List.getD_eq_getElem?_getD, data_at' s k hlt]; rfl)
      have CV := Lib.hid (fun W hf => figureValue_any s[k] W hf)
      generalize nSix s.data.toList k = n at *
      generalize figV s[k] = v at *
      have hor : bits .or .i64 ((n : Int) * 64) (v : Int) = ((n * 64 + v : Nat) : Int) := by
        have := or_i64 (n * 64) v (by omega) (by omega)
        rw [show n * 64 = n * 2 ^ 6 from rfl, or_add n v 6 (by omega)] at this
        exact this
      clear hn
      go_wp2_with fail
      refine (CV.out _ HF.out).mono ?_
      rintro e w1 ⟨rfl, rfl⟩
      go_wp2
      go_round
      case rel => exact ⟨k + 1, by omega, by go_num, by rw [HN.out, Int.natCast_add, Int.natCast_mul]; rfl⟩
      case measure => simp [intOf]; omega
    · obtain rfl : k = s.size := by omega
      have hn := nSix_lt s.data.toList s.size
      have hn2 : nSix s.data.toList s.size < 16777216 := Nat.lt_of_lt_of_le hn (Nat.le_trans (Nat.pow_le_pow_right (by decide) h4) (by decide))
      obtain ⟨t, ht⟩ : ∃ t : ByteArray, t = ⟨(Lib.trimRightB s.data.toList 61).toArray⟩ := ⟨_, rfl⟩
      have htz : (Lib.trimRightB s.data.toList 61).length = t.size := by rw [ht]; rfl
      rw [← ht] at CT
      rw [htz] at HG hT
      clear ht htz hn
      generalize nSix s.data.toList s.size = n at *
      obtain ⟨x0, hx0⟩ : ∃ x0 : UInt8, x0 = UInt8.ofNat (n / 65536) := ⟨_, rfl⟩
      obtain ⟨x1, hx1⟩ : ∃ x1 : UInt8, x1 = UInt8.ofNat (n / 256) := ⟨_, rfl⟩
      obtain ⟨x2, hx2⟩ : ∃ x2 : UInt8, x2 = UInt8.ofNat n := ⟨_, rfl⟩
      have H3 : Hid (three n = [x0, x1, x2]) := Lib.hid (by unfold three; rw [hx0, hx1, hx2])
      have f0 : (n : Int) / 65536 = (x0.toNat : Int) := by rw [hx0, UInt8.toNat_ofNat']; omega
      have f1 : (n : Int) / 256 % 256 = (x1.toNat : Int) := by rw [hx1, UInt8.toNat_ofNat']; omega
      have f2 : (n : Int) % 256 = (x2.toNat : Int) := by rw [hx2, UInt8.toNat_ofNat']; omega
      have hcv : ∀ m, m ≤ 3 → (convert 22 9 (.slice (some ⟨w.heap.size, 0, none⟩) m 3)).run Tryd.prog (w.alloc (.cells #[.int .u8 (x0.toNat : Int), .int .u8 (x1.toNat : Int), .int .u8 (x2.toNat : Int)] 5)) = .ok (.string ⟨([x0, x1, x2].take m).toArray⟩) (w.alloc (.cells #[.int .u8 (x0.toNat : Int), .int .u8 (x1.toNat : Int), .int .u8 (x2.toNat : Int)] 5)) := fun m hm =>
        three_conv x0 x1 x2 m 3 hm w.heap.size _ (by rw [World.cell?_alloc_new]; rfl) (by rw [World.cell?_alloc_new]; rfl) (by rw [World.cell?_alloc_new]; rfl)
      have HB : Hid (Below w.heap.size w (w.alloc (.cells #[.int .u8 (x0.toNat : Int), .int .u8 (x1.toNat : Int), .int .u8 (x2.toNat : Int)] 5))) := Lib.hid ((Below.refl _ w).alloc (Nat.le_refl _) _)
      clear hx0 hx1 hx2
      by_cases t0 : t.size = 0
      · have hcv0 := hcv 0 (by omega)
        have HM : Hid (readG s = [x0, x1, x2].take 0) := Lib.hid (by rw [HG.out, H3.out, t0])
        have n1 : (t.size : Int) = 0 := by omega
        have hmx : max (-1 : Int) 0 = 0 := by decide
        clear hcv
        go_wp2_with fail
        refine (CT.out _).mono ?_
        rintro e w1 ⟨rfl, rfl⟩
        go_wp2
        go_ret
        exact ⟨ret_sfg (by rw [HM.out]; rfl), HB.out⟩
      · obtain ⟨m, hm⟩ : ∃ m, t.size = m + 1 := ⟨t.size - 1, by omega⟩
        have hcv0 := hcv m (by omega)
        have HM : Hid (readG s = [x0, x1, x2].take m) := Lib.hid (by rw [HG.out, H3.out, hm, Nat.add_sub_cancel])
        have n1 : (t.size : Int) - 1 = (m : Int) := by omega
        have n2 : m ≤ 3 := by omega
        obtain ⟨r, hr⟩ : ∃ r, r = [x0, x1, x2].take m := ⟨_, rfl⟩
        rw [← hr] at hcv0 HM
        clear hcv hm t0 hr
        go_wp2_with fail
        refine (CT.out _).mono ?_
        rintro e w1 ⟨rfl, rfl⟩
        go_wp2
        go_ret
        exact ⟨ret_sfg (by rw [HM.out]), HB.out⟩
end Go.Proofs.YtmigcglcacpboaaDoor
