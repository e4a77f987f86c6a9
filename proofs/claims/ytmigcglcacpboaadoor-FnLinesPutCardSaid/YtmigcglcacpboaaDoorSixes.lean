/- Contracts: bytes in figures of base 64, of the model. -/
import Derived.Test.YtmigcglcacpboaaDoorFigsPut
import Derived.Test.YtmigcglcacpboaaDoorStepPush
import Derived.Test.YtmigcglcacpboaaDoorByteOwn
namespace Go.Proofs.YtmigcglcacpboaaDoor
open Go Go.RowKit

def figStr : ByteArray := ⟨figR.toArray⟩
theorem figStr_size : figStr.size = 64 := rfl
theorem figStr_get {v : Nat} (h : v < 64) : figStr[v]'(by rw [figStr_size]; exact h) = figC v := by
  have h1 := data_at' figStr v (by rw [figStr_size]; exact h)
  have h2 : figStr.data.toList = figR := rfl
  rw [h2, figC_get h] at h1
  exact (Option.some.inj h1).symm
theorem ret_st6 {a b : ByteArray} (h : a = b) : Ending.returned (.string a) = .returned (.string b) := by rw [h]
theorem l11Figures_any (w : World) :
    Calls Tryd.prog 54 #[] w fun e w' => e = .returned (.string figStr) ∧ w = w' := by
  have hm : Hid (figStr = { data := #[65, 66, 67, 68, 69, 70, 71, 72, 73, 74, 75, 76, 77, 78, 79, 80, 81, 82, 83, 84, 85, 86, 87, 88, 89, 90, 97, 98, 99, 100, 101, 102, 103, 104, 105, 106, 107, 108, 109, 110, 111, 112, 113, 114, 115, 116, 117, 118, 119, 120, 121, 122, 48, 49, 50, 51, 52, 53, 54, 55, 56, 57, 43, 47] }) := Lib.hid rfl
  go_enter Tryd.func54, Tryd.ntmps54
  go_wp2
  go_ret
  exact ⟨ret_st6 hm.out.symm, rfl⟩
theorem and_i64 (a : Nat) (ha : a < 4294967296) : bits .and .i64 (a : Int) 63 = ((a % 64 : Nat) : Int) := by
  have h1 : (BitVec.ofInt 64 (a : Int)).toNat = a := by
    rw [BitVec.ofInt_natCast, BitVec.toNat_ofNat]; exact Nat.mod_eq_of_lt (by omega)
  have h2 : (BitVec.ofInt 64 63).toNat = 63 := rfl
  show IntKind.i64.wrap ((BitVec.ofInt 64 (a : Int) &&& BitVec.ofInt 64 63).toNat : Int) = _
  rw [BitVec.toNat_and, h1, h2, show (63 : Nat) = 2 ^ 6 - 1 from rfl, Nat.and_two_pow_sub_one_eq_mod]
  exact IntWalk.i64_in _ (by omega)
theorem figs3_get {g : List UInt8} {k : Nat} (h : g.length ≤ 3) (hk : k < 4) : (figs3 g)[k]? = some (if k < g.length + 1 then figN (n3 g) k else 61) := by
  unfold figs3
  by_cases hc : k < g.length + 1
  · rw [if_pos hc, List.getElem?_append_left (by simpa using hc)]
    simp [hc]
  · rw [if_neg hc, List.getElem?_append_right (by simpa using hc)]
    simp only [List.length_map, List.length_range]
    rw [List.getElem?_replicate, if_pos (by omega)]
theorem take_snoc {l : List UInt8} {k : Nat} {c : UInt8} (h : l[k]? = some c) : l.take (k + 1) = l.take k ++ [c] := by
  obtain ⟨hk, e⟩ := List.getElem?_eq_some_iff.1 h
  rw [List.take_succ_eq_append_getElem hk, e]
/-- The group at a place. -/
def groupAt (s : ByteArray) (i : Nat) : List UInt8 := (s.data.toList.drop i).take 3
theorem groupAt_length (s : ByteArray) (i : Nat) : (groupAt s i).length = min 3 (s.size - i) := by
  unfold groupAt; rw [List.length_take, List.length_drop]; simp
theorem groupAt_byte {s : ByteArray} {i j : Nat} (hj : j < 3) (h : i + j < s.size) : byteAt (groupAt s i) j = s[i + j].toNat := by
  apply byteAt_get
  unfold groupAt
  rw [List.getElem?_take_of_lt hj, List.getElem?_drop]
  exact data_at' s (i + j) h
theorem groupAt_none {s : ByteArray} {i j : Nat} (h : s.size ≤ i + j) : byteAt (groupAt s i) j = 0 := by
  by_cases hj : j < 3
  · exact byteAt_none (by rw [groupAt_length]; omega)
  · exact byteAt_none (by rw [groupAt_length]; omega)
/-- The figures so far. -/
def SixInv (s : ByteArray) (i : Nat) (o : List UInt8) : Prop := codeL s.data.toList = o ++ codeL (s.data.toList.drop i) ∧ 3 * o.length ≤ 4 * i
theorem six_start (s : ByteArray) : SixInv s 0 [] := ⟨rfl, Nat.le_refl _⟩
theorem six_step {s : ByteArray} {i : Nat} {o : List UInt8} (h : SixInv s i o) (hi : i < s.size) : SixInv s (i + 3) (o ++ figs3 (groupAt s i)) := by
  obtain ⟨h1, h2⟩ := h
  have h0 : s.data.toList.drop i ≠ [] := by
    intro e
    have := congrArg List.length e
    rw [List.length_drop, List.length_nil, ← Lib.size_eq] at this; omega
  refine ⟨?_, by rw [List.length_append, figs3_length (by rw [groupAt_length]; omega)]; omega⟩
  rw [h1, codeL_step h0, List.append_assoc, List.drop_drop]; rfl
theorem six_end {s : ByteArray} {i : Nat} {o : List UInt8} (h : SixInv s i o) (hi : s.size ≤ i) : o = codeL s.data.toList := by
  rw [h.1, List.drop_of_length_le (by rw [← Lib.size_eq]; exact hi), codeL_nil, List.append_nil]

set_option maxHeartbeats 8000000 in
set_option maxRecDepth 100000 in
theorem l11Sixes_any (s : ByteArray) (w : World) (hs : s.size ≤ 1048576) :
    Calls Tryd.prog 36 #[.string s] w fun e w' => e = .returned (.string ⟨(codeL s.data.toList).toArray⟩) ∧ Below w.heap.size w w' := by
  obtain ⟨i0, hi, hz0, hz1, hz2⟩ := info_parts infoByteO
  have R0 := Lib.hid (BRow.made w)
  have B0 : Hid (Below w.heap.size w (w.alloc (.cells #[] 5))) := Lib.hid ((Below.refl _ w).alloc (Nat.le_refl _) _)
  have CF := Lib.hid l11Figures_any
  have hfs := figStr_size
  go_enter Tryd.func36, Tryd.ntmps36
  go_wp2
  go_loopw [3, 4] (fun v i wr => ∃ (k : Nat) (ao : Option Addr) (cap : Nat) (o : List UInt8), k ≤ s.size + 2 ∧ i = .int .i64 k ∧ v = .slice ao o.length cap ∧ o.length ≤ 1500000 ∧ Hid (SixInv s k o) ∧ Hid (BRow wr w.heap.size ao cap o) ∧ Hid (Below w.heap.size w wr)) (fun _ i _ => s.size + 3 - (intOf i).toNat)
  case atStart => exact ⟨0, _, _, [], Nat.zero_le _, rfl, rfl, Nat.zero_le _, Lib.hid (six_start s), R0, B0⟩
  case round =>
    obtain ⟨k, ao, cap, o, hk, rfl, rfl, hol, HS, HR, HB⟩ := hrel
    clear R0 B0
    by_cases hlt : k < s.size
    · have HS2 := Lib.hid (six_step HS.out hlt)
      have hol2 := HS.out.2
      obtain ⟨n, hn⟩ : ∃ n, n3 (groupAt s k) = n := ⟨_, rfl⟩
      have hn24 : n < 16777216 := hn ▸ n3_lt _
      have hgl := groupAt_length s k
      have HN : Hid (∀ j, j < 4 → (figs3 (groupAt s k))[j]? = some (if j < min 3 (s.size - k) + 1 then figN n j else 61)) := Lib.hid (fun j hj => by
        have := figs3_get (g := groupAt s k) (by rw [hgl]; omega) hj
        rw [hgl, hn] at this; exact this)
      have HFL : Hid ((figs3 (groupAt s k)).length = 4) := Lib.hid (figs3_length (by rw [hgl]; omega))
      have hn' : n = byteAt (groupAt s k) 0 * 65536 + byteAt (groupAt s k) 1 * 256 + byteAt (groupAt s k) 2 := by rw [← hn]; rfl
      have hb0 := groupAt_byte (s := s) (i := k) (j := 0) (by omega) hlt
      rw [show s[k + 0] = s[k] from rfl] at hb0
      have hx0 := s[k].toNat_lt
      generalize figs3 (groupAt s k) = fg at *
      clear hn HS
      have hcase : s.size - k = 1 ∨ s.size - k = 2 ∨ 3 ≤ s.size - k := by omega
      obtain ⟨k1, hk1⟩ : ∃ k1, k + 1 = k1 := ⟨_, rfl⟩
      obtain ⟨k2, hk2⟩ : ∃ k2, k + 2 = k2 := ⟨_, rfl⟩
      have p1 : (k : Int) + 1 = (k1 : Int) := by omega
      have p2 : (k : Int) + 2 = (k2 : Int) := by omega
      obtain ⟨A, hA⟩ : ∃ A, A = s[k].toNat * 65536 := ⟨_, rfl⟩
      have qA : (s[k].toNat : Int) * 65536 = (A : Int) := by omega
      obtain ⟨many, hmany⟩ : ∃ many, many = min 3 (s.size - k) + 1 := ⟨_, rfl⟩
      rw [← hmany] at HN
      have HK := Lib.hid (And.intro hk1 hk2)
      rcases hcase with hcase | hcase | hcase
      · obtain rfl : n = A := by
          rw [hn', hb0, groupAt_none (by omega), groupAt_none (by omega)]; omega
        have i1 : ¬ (k1 : Int) < (s.size : Int) := by omega
        have i2 : ¬ (k2 : Int) < (s.size : Int) := by omega
        obtain rfl : many = 2 := by omega
        clear hn' hb0 hk1 hk2 hcase hgl hA hmany
        go_wp2_with fail
        go_loopw [3, 7] (fun v j wr => ∃ (q : Nat) (a : Option Addr) (c : Nat) (o' : List UInt8), q ≤ 4 ∧ j = .int .i64 q ∧ v = .slice a o'.length c ∧ o'.length = o.length + q ∧ Hid (o' = o ++ fg.take q) ∧ Hid (BRow wr w.heap.size a c o') ∧ Hid (Below w.heap.size w wr)) (fun _ j _ => 4 - (intOf j).toNat)
        case atStart => exact ⟨0, ao, cap, o, Nat.zero_le _, rfl, rfl, rfl, Lib.hid (by simp), HR, HB⟩
        case round =>
          obtain ⟨q, a, c, o', hq, rfl, rfl, hol', HO', HR', HB'⟩ := hrel
          clear HR HB
          have HOL := Lib.hid hol'
          have hl5 : o'.length ≤ 1500004 := by omega
          clear hol'
          have hsz' := HB'.out.size
          by_cases hq4 : q < 4
          · by_cases hqm : q < 2
            · have HX := Lib.hid (HN.out q hq4)
              obtain ⟨v, hv⟩ : ∃ v, v = n / 2 ^ (18 - 6 * q) % 64 := ⟨_, rfl⟩
              have hv64 : v < 64 := by omega
              obtain ⟨x, hx⟩ : ∃ x, x = figC v := ⟨_, rfl⟩
              have HX2 : Hid (fg[q]? = some x) := Lib.hid (by rw [HX.out, if_pos hqm, hx, hv]; rfl)
              have hfg := figStr_get hv64
              rw [← hx] at hfg
              obtain ⟨z, hz⟩ : ∃ z, z = n / 2 ^ (18 - 6 * q) := ⟨_, rfl⟩
              obtain ⟨m6, hm6⟩ : ∃ m6, m6 = 6 * q := ⟨_, rfl⟩
              obtain ⟨sh, hsh⟩ : ∃ sh, sh = 18 - 6 * q := ⟨_, rfl⟩
              have w1 : IntKind.i64.wrap (6 * (q : Int)) = (m6 : Int) := by rw [IntWalk.i64_in _ (by omega)]; omega
              have w2 : IntKind.i64.wrap (18 - (m6 : Int)) = (sh : Int) := by rw [IntWalk.i64_in _ (by omega)]; omega
              have w3 : (n : Int) / 2 ^ sh = (z : Int) := by rw [hz, hsh]; simp
              have wm : min sh 64 = sh := by omega
              have hzl : z < 4294967296 := by rw [hz]; exact Nat.lt_of_le_of_lt (Nat.div_le_self _ _) (by omega)
              have w4 : bits .and .i64 (z : Int) 63 = (v : Int) := by rw [and_i64 z hzl, hv, hz]
              have hq4' : (q : Int) < 2 := by omega
              have hv64' : (v : Int) < 64 := by omega
              clear hz hm6 hsh hv hx HX
              go_wp2_with fail
              refine wp_region_any (by kernel_rfl) ?_
              try (change wpAny _ _ _ _ _ _ _ (World.drew _))
              refine wpAny_take (i := 0) (v := ?_) rfl (by kernel_rfl) (by kernel_rfl) (by kernel_rfl) (fun _ _ _ h => h) (Or.inl ⟨by rfl, ?_⟩) ?_
              rotate_left
              · intro w
                go_simp
                first | done | with_reducible rfl
              rotate_left
              try simp only [Act.put, List.getElem_toArray, List.getElem_cons_zero, List.setIfInBounds_toArray, List.set_cons_succ, List.set_cons_zero]
              refine wpAny_take (i := 2) (v := ?_) rfl (by kernel_rfl) (by kernel_rfl) (by kernel_rfl) (fun _ _ _ h => h) (Or.inl ⟨by rfl, ?_⟩) ?_
              rotate_left
              · intro w
                go_simp
                first | done | with_reducible rfl
              rotate_left
              try simp only [Act.put, List.getElem_toArray, List.getElem_cons_succ, List.getElem_cons_zero, List.setIfInBounds_toArray, List.set_cons_succ, List.set_cons_zero]
              refine wpAny_take (i := 3) (v := ?_) rfl (by kernel_rfl) (by kernel_rfl) (by kernel_rfl) (fun _ _ _ h => h) (Or.inl ⟨by rfl, ?_⟩) ?_
              rotate_left
              · intro w
                go_simp
                first | done | with_reducible rfl
              rotate_left
              try simp only [Act.put, List.getElem_toArray, List.getElem_cons_succ, List.getElem_cons_zero, List.setIfInBounds_toArray, List.set_cons_succ, List.set_cons_zero]
              refine wpAny_take (i := 4) (v := ?_) rfl (by kernel_rfl) (by kernel_rfl) (by kernel_rfl) (fun _ _ _ h => h) (Or.inl ⟨by rfl, ?_⟩) ?_
              rotate_left
              · intro w
                go_simp
                first | done | with_reducible rfl
              rotate_left
              try simp only [Act.put, List.getElem_toArray, List.getElem_cons_succ, List.getElem_cons_zero, List.setIfInBounds_toArray, List.set_cons_succ, List.set_cons_zero]
              refine wpAny_take (i := 5) (v := ?_) rfl (by kernel_rfl) (by kernel_rfl) (by kernel_rfl) (fun _ _ _ h => h) (Or.inl ⟨by rfl, ?_⟩) ?_
              rotate_left
              · intro w
                go_simp
                first | done | with_reducible rfl
              rotate_left
              try simp only [Act.put, List.getElem_toArray, List.getElem_cons_succ, List.getElem_cons_zero, List.setIfInBounds_toArray, List.set_cons_succ, List.set_cons_zero]
              refine wpAny_take (i := 6) (v := ?_) rfl (by kernel_rfl) (by kernel_rfl) (by kernel_rfl) (fun _ _ _ h => h) (Or.inl ⟨by rfl, ?_⟩) ?_
              rotate_left
              · intro w
                go_simp
                first | done | with_reducible rfl
              rotate_left
              try simp only [Act.put, List.getElem_toArray, List.getElem_cons_succ, List.getElem_cons_zero, List.setIfInBounds_toArray, List.set_cons_succ, List.set_cons_zero]
              refine wpAny_take (i := 7) (v := ?_) rfl (by kernel_rfl) (by kernel_rfl) (by kernel_rfl) (fun _ _ _ h => h) (Or.inl ⟨by rfl, ?_⟩) ?_
              rotate_left
              · intro w
                go_simp
                first | done | with_reducible rfl
              rotate_left
              try simp only [Act.put, List.getElem_toArray, List.getElem_cons_succ, List.getElem_cons_zero, List.setIfInBounds_toArray, List.set_cons_succ, List.set_cons_zero]
              refine wpAny_ready (rs := [1]) (by kernel_rfl) (by simp) ?_
              refine AllReady.cons rfl (fun K hK => ?_) AllReady.nil
              go_simp
              refine (CF.out _).mono ?_
              rintro e w2 ⟨rfl, rfl⟩
              refine hK _ _ ?_
              clear hK K
              try simp only [Act.put, List.getElem_toArray, List.getElem_cons_succ, List.getElem_cons_zero, List.setIfInBounds_toArray, List.set_cons_succ, List.set_cons_zero]
              refine wpAny_take (i := 8) (v := ?_) rfl (by kernel_rfl) (by kernel_rfl) (by kernel_rfl) (fun _ _ _ h => h) (Or.inl ⟨by rfl, ?_⟩) ?_
              rotate_left
              · intro w
                go_simp
                first | done | with_reducible rfl
              rotate_left
              try simp only [Act.put, List.getElem_toArray, List.getElem_cons_succ, List.getElem_cons_zero, List.setIfInBounds_toArray, List.set_cons_succ, List.set_cons_zero]
              refine wpAny_ready (rs := [9]) (by kernel_rfl) (by simp) ?_
              refine AllReady.cons rfl (fun K hK => ?_) AllReady.nil
              go_simp
              refine hK _ _ ?_
              clear hK K
              try simp only [Act.put, List.getElem_toArray, List.getElem_cons_succ, List.getElem_cons_zero, List.setIfInBounds_toArray, List.set_cons_succ, List.set_cons_zero]
              refine wpAny_ready (rs := [10]) (by kernel_rfl) (by simp) ?_
              refine AllReady.cons rfl (fun K hK => ?_) AllReady.nil
              refine step_push rfl _ _ 22 rfl w.heap.size 5 i0 (.int .u8 0) 1 1 Tryd.underlying22 hi hz0 hz1 hz2 rfl (by decide) (.slice a o'.length c) o'.length (Lib.byteCells o') (by rfl) (HR'.out.alloc _) wr.heap.size 1 1 [.int .u8 (x.toNat : Int)] (by rfl) rfl (cell_one_new _ _ _) (by intro u hu; rw [List.mem_singleton.1 hu]; rfl) (by unfold maxLen; omega) (by omega) (by simp; omega) ?_
              intro v' w3 hown hg _
              obtain ⟨a3, c3, rfl, R3⟩ := BRow.snoc hown
              have HR3 := Lib.hid R3
              have HB3 := Lib.hid (((HB'.out.drew).alloc hsz' (.cells #[.int .u8 (x.toNat : Int)] 5)).grown hg (by simp; omega) (fun j hj => (World.ownsRow.lt HR'.out j hj).1))
              refine hK _ _ ?_
              clear hK K
              try simp only [Act.put, List.getElem_toArray, List.getElem_cons_succ, List.getElem_cons_zero, List.setIfInBounds_toArray, List.set_cons_succ, List.set_cons_zero]
              clear hown hg R3 HR' HB'
              refine wpAny_take (i := 11) (v := ?_) rfl (by kernel_rfl) (by kernel_rfl) (by kernel_rfl) (fun _ _ _ h => h) (Or.inl ⟨by rfl, ?_⟩) ?_
              rotate_left
              · intro w
                go_simp
                first | done | with_reducible rfl
              rotate_left
              try simp only [Act.put, List.getElem_toArray, List.getElem_cons_succ, List.getElem_cons_zero, List.setIfInBounds_toArray, List.set_cons_succ, List.set_cons_zero]
              refine wpAny_done (by kernel_rfl) ?_ _
              go_wp2
              go_roundw
              case rel => exact ⟨q + 1, a3, c3, o' ++ [x], by omega, by go_num, by rw [List.length_append, List.length_singleton], by rw [List.length_append, List.length_singleton, HOL.out]; omega, Lib.hid (by rw [take_snoc HX2.out, HO'.out, List.append_assoc]), HR3, HB3⟩
              case measure => simp [intOf]; omega
            · have HX2 : Hid (fg[q]? = some 61) := Lib.hid (by rw [HN.out q hq4, if_neg hqm])
              have hq4' : ¬ (q : Int) < 2 := by omega
              have hown := HR'.out
              unfold BRow at hown
              go_wp2_with (at_builtin; refine wpList_append_own _ rfl _ _ 22 rfl w.heap.size 5 i0 (.int .u8 0) 1 1 Tryd.underlying22 hi hz0 hz1 hz2 rfl (by decide) _ _ _ rfl (hown.alloc _) ⟨wr.heap.size, 0, none⟩ 1 1 [.int .u8 61] rfl rfl (cell_one_new _ _ _) ?d2 ?d3 ?d4 ?d5 ?_)
              case d2 => first | (intro u hu; rw [List.mem_singleton.1 hu]; rfl) | rfl
              case d3 => unfold maxLen; omega
              case d4 => omega
              case d5 => first | (simp; omega) | omega
              intro v' w3 hown' hg _
              obtain ⟨a3, c3, rfl, R3⟩ := BRow.snoc (c := 61) hown'
              have HR3 := Lib.hid R3
              have HB3 := Lib.hid (((HB'.out).alloc hsz' (.cells #[.int .u8 61] 5)).grown hg (by simp; omega) (fun j hj => (World.ownsRow.lt hown j hj).1))
              clear hown hown' hg R3 HR' HB'
              go_wp2
              go_roundw
              case rel => exact ⟨q + 1, a3, c3, o' ++ [61], by omega, by go_num, rfl, by rw [List.length_append, List.length_singleton, HOL.out]; omega, Lib.hid (by rw [take_snoc HX2.out, HO'.out, List.append_assoc]), HR3, HB3⟩
              case measure => simp [intOf]; omega
          · obtain rfl : q = 4 := by omega
            have HO4 : Hid (o' = o ++ fg) := Lib.hid (by rw [HO'.out, List.take_of_length_le (by rw [HFL.out]; exact Nat.le_refl _)])
            clear HO'
            go_wp2
            go_roundw
            case rel => exact ⟨k + 3, a, c, o', by omega, by go_num, rfl, by have := HOL.out; omega, Lib.hid (by rw [HO4.out]; exact HS2.out), HR', HB'⟩
            case measure => simp [intOf]; omega
      · have i1 : (k1 : Int) < (s.size : Int) := by omega
        have i1' : k1 < s.size := by omega
        have i2 : ¬ (k2 : Int) < (s.size : Int) := by omega
        obtain rfl : many = 3 := by omega
        have hx1 := s[k1].toNat_lt
        have hb1 := groupAt_byte (s := s) (i := k) (j := 1) (by omega) (by omega)
        have ek1 : s[k + 1]'(by omega) = s[k1] := by subst hk1; rfl
        rw [ek1] at hb1
        obtain ⟨B, hB'⟩ : ∃ B, B = s[k1].toNat * 256 := ⟨_, rfl⟩
        have qB : (s[k1].toNat : Int) * 256 = (B : Int) := by omega
        have qC : bits .or .i64 (A : Int) (B : Int) = (n : Int) := by
          rw [or_i64 A B (by omega) (by omega), hA, show s[k].toNat * 65536 = s[k].toNat * 2 ^ 16 from rfl, or_add _ B 16 (by omega), hn', hb0, hb1, groupAt_none (by omega), hB']; omega
        have lA : A < 16777216 := by omega
        have lB : B < 65536 := by omega
        clear hn' hb0 hk1 hk2 hcase hgl hA hmany hb1 ek1 hB'
        go_wp2_with fail
        go_loopw [3, 7] (fun v j wr => ∃ (q : Nat) (a : Option Addr) (c : Nat) (o' : List UInt8), q ≤ 4 ∧ j = .int .i64 q ∧ v = .slice a o'.length c ∧ o'.length = o.length + q ∧ Hid (o' = o ++ fg.take q) ∧ Hid (BRow wr w.heap.size a c o') ∧ Hid (Below w.heap.size w wr)) (fun _ j _ => 4 - (intOf j).toNat)
        case atStart => exact ⟨0, ao, cap, o, Nat.zero_le _, rfl, rfl, rfl, Lib.hid (by simp), HR, HB⟩
        case round =>
          obtain ⟨q, a, c, o', hq, rfl, rfl, hol', HO', HR', HB'⟩ := hrel
          clear HR HB
          have HOL := Lib.hid hol'
          have hl5 : o'.length ≤ 1500004 := by omega
          clear hol'
          have hsz' := HB'.out.size
          by_cases hq4 : q < 4
          · by_cases hqm : q < 3
            · have HX := Lib.hid (HN.out q hq4)
              obtain ⟨v, hv⟩ : ∃ v, v = n / 2 ^ (18 - 6 * q) % 64 := ⟨_, rfl⟩
              have hv64 : v < 64 := by omega
              obtain ⟨x, hx⟩ : ∃ x, x = figC v := ⟨_, rfl⟩
              have HX2 : Hid (fg[q]? = some x) := Lib.hid (by rw [HX.out, if_pos hqm, hx, hv]; rfl)
              have hfg := figStr_get hv64
              rw [← hx] at hfg
              obtain ⟨z, hz⟩ : ∃ z, z = n / 2 ^ (18 - 6 * q) := ⟨_, rfl⟩
              obtain ⟨m6, hm6⟩ : ∃ m6, m6 = 6 * q := ⟨_, rfl⟩
              obtain ⟨sh, hsh⟩ : ∃ sh, sh = 18 - 6 * q := ⟨_, rfl⟩
              have w1 : IntKind.i64.wrap (6 * (q : Int)) = (m6 : Int) := by rw [IntWalk.i64_in _ (by omega)]; omega
              have w2 : IntKind.i64.wrap (18 - (m6 : Int)) = (sh : Int) := by rw [IntWalk.i64_in _ (by omega)]; omega
              have w3 : (n : Int) / 2 ^ sh = (z : Int) := by rw [hz, hsh]; simp
              have wm : min sh 64 = sh := by omega
              have hzl : z < 4294967296 := by rw [hz]; exact Nat.lt_of_le_of_lt (Nat.div_le_self _ _) (by omega)
              have w4 : bits .and .i64 (z : Int) 63 = (v : Int) := by rw [and_i64 z hzl, hv, hz]
              have hq4' : (q : Int) < 3 := by omega
              have hv64' : (v : Int) < 64 := by omega
              clear hz hm6 hsh hv hx HX
              go_wp2_with fail
              refine wp_region_any (by kernel_rfl) ?_
              try (change wpAny _ _ _ _ _ _ _ (World.drew _))
              refine wpAny_take (i := 0) (v := ?_) rfl (by kernel_rfl) (by kernel_rfl) (by kernel_rfl) (fun _ _ _ h => h) (Or.inl ⟨by rfl, ?_⟩) ?_
              rotate_left
              · intro w
                go_simp
                first | done | with_reducible rfl
              rotate_left
              try simp only [Act.put, List.getElem_toArray, List.getElem_cons_zero, List.setIfInBounds_toArray, List.set_cons_succ, List.set_cons_zero]
              refine wpAny_take (i := 2) (v := ?_) rfl (by kernel_rfl) (by kernel_rfl) (by kernel_rfl) (fun _ _ _ h => h) (Or.inl ⟨by rfl, ?_⟩) ?_
              rotate_left
              · intro w
                go_simp
                first | done | with_reducible rfl
              rotate_left
              try simp only [Act.put, List.getElem_toArray, List.getElem_cons_succ, List.getElem_cons_zero, List.setIfInBounds_toArray, List.set_cons_succ, List.set_cons_zero]
              refine wpAny_take (i := 3) (v := ?_) rfl (by kernel_rfl) (by kernel_rfl) (by kernel_rfl) (fun _ _ _ h => h) (Or.inl ⟨by rfl, ?_⟩) ?_
              rotate_left
              · intro w
                go_simp
                first | done | with_reducible rfl
              rotate_left
              try simp only [Act.put, List.getElem_toArray, List.getElem_cons_succ, List.getElem_cons_zero, List.setIfInBounds_toArray, List.set_cons_succ, List.set_cons_zero]
              refine wpAny_take (i := 4) (v := ?_) rfl (by kernel_rfl) (by kernel_rfl) (by kernel_rfl) (fun _ _ _ h => h) (Or.inl ⟨by rfl, ?_⟩) ?_
              rotate_left
              · intro w
                go_simp
                first | done | with_reducible rfl
              rotate_left
              try simp only [Act.put, List.getElem_toArray, List.getElem_cons_succ, List.getElem_cons_zero, List.setIfInBounds_toArray, List.set_cons_succ, List.set_cons_zero]
              refine wpAny_take (i := 5) (v := ?_) rfl (by kernel_rfl) (by kernel_rfl) (by kernel_rfl) (fun _ _ _ h => h) (Or.inl ⟨by rfl, ?_⟩) ?_
              rotate_left
              · intro w
                go_simp
                first | done | with_reducible rfl
              rotate_left
              try simp only [Act.put, List.getElem_toArray, List.getElem_cons_succ, List.getElem_cons_zero, List.setIfInBounds_toArray, List.set_cons_succ, List.set_cons_zero]
              refine wpAny_take (i := 6) (v := ?_) rfl (by kernel_rfl) (by kernel_rfl) (by kernel_rfl) (fun _ _ _ h => h) (Or.inl ⟨by rfl, ?_⟩) ?_
              rotate_left
              · intro w
                go_simp
                first | done | with_reducible rfl
              rotate_left
              try simp only [Act.put, List.getElem_toArray, List.getElem_cons_succ, List.getElem_cons_zero, List.setIfInBounds_toArray, List.set_cons_succ, List.set_cons_zero]
              refine wpAny_take (i := 7) (v := ?_) rfl (by kernel_rfl) (by kernel_rfl) (by kernel_rfl) (fun _ _ _ h => h) (Or.inl ⟨by rfl, ?_⟩) ?_
              rotate_left
              · intro w
                go_simp
                first | done | with_reducible rfl
              rotate_left
              try simp only [Act.put, List.getElem_toArray, List.getElem_cons_succ, List.getElem_cons_zero, List.setIfInBounds_toArray, List.set_cons_succ, List.set_cons_zero]
              refine wpAny_ready (rs := [1]) (by kernel_rfl) (by simp) ?_
              refine AllReady.cons rfl (fun K hK => ?_) AllReady.nil
              go_simp
              refine (CF.out _).mono ?_
              rintro e w2 ⟨rfl, rfl⟩
              refine hK _ _ ?_
              clear hK K
              try simp only [Act.put, List.getElem_toArray, List.getElem_cons_succ, List.getElem_cons_zero, List.setIfInBounds_toArray, List.set_cons_succ, List.set_cons_zero]
              refine wpAny_take (i := 8) (v := ?_) rfl (by kernel_rfl) (by kernel_rfl) (by kernel_rfl) (fun _ _ _ h => h) (Or.inl ⟨by rfl, ?_⟩) ?_
              rotate_left
              · intro w
                go_simp
                first | done | with_reducible rfl
              rotate_left
              try simp only [Act.put, List.getElem_toArray, List.getElem_cons_succ, List.getElem_cons_zero, List.setIfInBounds_toArray, List.set_cons_succ, List.set_cons_zero]
              refine wpAny_ready (rs := [9]) (by kernel_rfl) (by simp) ?_
              refine AllReady.cons rfl (fun K hK => ?_) AllReady.nil
              go_simp
              refine hK _ _ ?_
              clear hK K
              try simp only [Act.put, List.getElem_toArray, List.getElem_cons_succ, List.getElem_cons_zero, List.setIfInBounds_toArray, List.set_cons_succ, List.set_cons_zero]
              refine wpAny_ready (rs := [10]) (by kernel_rfl) (by simp) ?_
              refine AllReady.cons rfl (fun K hK => ?_) AllReady.nil
              refine step_push rfl _ _ 22 rfl w.heap.size 5 i0 (.int .u8 0) 1 1 Tryd.underlying22 hi hz0 hz1 hz2 rfl (by decide) (.slice a o'.length c) o'.length (Lib.byteCells o') (by rfl) (HR'.out.alloc _) wr.heap.size 1 1 [.int .u8 (x.toNat : Int)] (by rfl) rfl (cell_one_new _ _ _) (by intro u hu; rw [List.mem_singleton.1 hu]; rfl) (by unfold maxLen; omega) (by omega) (by simp; omega) ?_
              intro v' w3 hown hg _
              obtain ⟨a3, c3, rfl, R3⟩ := BRow.snoc hown
              have HR3 := Lib.hid R3
              have HB3 := Lib.hid (((HB'.out.drew).alloc hsz' (.cells #[.int .u8 (x.toNat : Int)] 5)).grown hg (by simp; omega) (fun j hj => (World.ownsRow.lt HR'.out j hj).1))
              refine hK _ _ ?_
              clear hK K
              try simp only [Act.put, List.getElem_toArray, List.getElem_cons_succ, List.getElem_cons_zero, List.setIfInBounds_toArray, List.set_cons_succ, List.set_cons_zero]
              clear hown hg R3 HR' HB'
              refine wpAny_take (i := 11) (v := ?_) rfl (by kernel_rfl) (by kernel_rfl) (by kernel_rfl) (fun _ _ _ h => h) (Or.inl ⟨by rfl, ?_⟩) ?_
              rotate_left
              · intro w
                go_simp
                first | done | with_reducible rfl
              rotate_left
              try simp only [Act.put, List.getElem_toArray, List.getElem_cons_succ, List.getElem_cons_zero, List.setIfInBounds_toArray, List.set_cons_succ, List.set_cons_zero]
              refine wpAny_done (by kernel_rfl) ?_ _
              go_wp2
              go_roundw
              case rel => exact ⟨q + 1, a3, c3, o' ++ [x], by omega, by go_num, by rw [List.length_append, List.length_singleton], by rw [List.length_append, List.length_singleton, HOL.out]; omega, Lib.hid (by rw [take_snoc HX2.out, HO'.out, List.append_assoc]), HR3, HB3⟩
              case measure => simp [intOf]; omega
            · have HX2 : Hid (fg[q]? = some 61) := Lib.hid (by rw [HN.out q hq4, if_neg hqm])
              have hq4' : ¬ (q : Int) < 3 := by omega
              have hown := HR'.out
              unfold BRow at hown
              go_wp2_with (at_builtin; refine wpList_append_own _ rfl _ _ 22 rfl w.heap.size 5 i0 (.int .u8 0) 1 1 Tryd.underlying22 hi hz0 hz1 hz2 rfl (by decide) _ _ _ rfl (hown.alloc _) ⟨wr.heap.size, 0, none⟩ 1 1 [.int .u8 61] rfl rfl (cell_one_new _ _ _) ?d2 ?d3 ?d4 ?d5 ?_)
              case d2 => first | (intro u hu; rw [List.mem_singleton.1 hu]; rfl) | rfl
              case d3 => unfold maxLen; omega
              case d4 => omega
              case d5 => first | (simp; omega) | omega
              intro v' w3 hown' hg _
              obtain ⟨a3, c3, rfl, R3⟩ := BRow.snoc (c := 61) hown'
              have HR3 := Lib.hid R3
              have HB3 := Lib.hid (((HB'.out).alloc hsz' (.cells #[.int .u8 61] 5)).grown hg (by simp; omega) (fun j hj => (World.ownsRow.lt hown j hj).1))
              clear hown hown' hg R3 HR' HB'
              go_wp2
              go_roundw
              case rel => exact ⟨q + 1, a3, c3, o' ++ [61], by omega, by go_num, rfl, by rw [List.length_append, List.length_singleton, HOL.out]; omega, Lib.hid (by rw [take_snoc HX2.out, HO'.out, List.append_assoc]), HR3, HB3⟩
              case measure => simp [intOf]; omega
          · obtain rfl : q = 4 := by omega
            have HO4 : Hid (o' = o ++ fg) := Lib.hid (by rw [HO'.out, List.take_of_length_le (by rw [HFL.out]; exact Nat.le_refl _)])
            clear HO'
            go_wp2
            go_roundw
            case rel => exact ⟨k + 3, a, c, o', by omega, by go_num, rfl, by have := HOL.out; omega, Lib.hid (by rw [HO4.out]; exact HS2.out), HR', HB'⟩
            case measure => simp [intOf]; omega
      · have i1 : (k1 : Int) < (s.size : Int) := by omega
        have i1' : k1 < s.size := by omega
        have i2 : (k2 : Int) < (s.size : Int) := by omega
        have i2' : k2 < s.size := by omega
        obtain rfl : many = 4 := by omega
        have hx1 := s[k1].toNat_lt
        have hx2 := s[k2].toNat_lt
        have hb1 := groupAt_byte (s := s) (i := k) (j := 1) (by omega) (by omega)
        have hb2 := groupAt_byte (s := s) (i := k) (j := 2) (by omega) (by omega)
        have ek1 : s[k + 1]'(by omega) = s[k1] := by subst hk1; rfl
        have ek2 : s[k + 2]'(by omega) = s[k2] := by subst hk2; rfl
        rw [ek1] at hb1
        rw [ek2] at hb2
        obtain ⟨B, hB'⟩ : ∃ B, B = s[k1].toNat * 256 := ⟨_, rfl⟩
        have qB : (s[k1].toNat : Int) * 256 = (B : Int) := by omega
        obtain ⟨C, hC⟩ : ∃ C, C = A + B := ⟨_, rfl⟩
        have qC : bits .or .i64 (A : Int) (B : Int) = (C : Int) := by
          rw [or_i64 A B (by omega) (by omega), hA, show s[k].toNat * 65536 = s[k].toNat * 2 ^ 16 from rfl, or_add _ B 16 (by omega), hC, hA]
        have qD : bits .or .i64 (C : Int) (s[k2].toNat : Int) = (n : Int) := by
          rw [or_i64 C _ (by omega) (by omega), hC, hA, hB', show s[k].toNat * 65536 + s[k1].toNat * 256 = (s[k].toNat * 256 + s[k1].toNat) * 2 ^ 8 by omega, or_add _ _ 8 (by omega), hn', hb0, hb1, hb2]; omega
        have lA : A < 16777216 := by omega
        have lB : B < 65536 := by omega
        have lC : C < 16777216 := by omega
        clear hn' hb0 hk1 hk2 hcase hgl hA hmany hb1 hb2 ek1 ek2 hB' hC
        go_wp2_with fail
        go_loopw [3, 7] (fun v j wr => ∃ (q : Nat) (a : Option Addr) (c : Nat) (o' : List UInt8), q ≤ 4 ∧ j = .int .i64 q ∧ v = .slice a o'.length c ∧ o'.length = o.length + q ∧ Hid (o' = o ++ fg.take q) ∧ Hid (BRow wr w.heap.size a c o') ∧ Hid (Below w.heap.size w wr)) (fun _ j _ => 4 - (intOf j).toNat)
        case atStart => exact ⟨0, ao, cap, o, Nat.zero_le _, rfl, rfl, rfl, Lib.hid (by simp), HR, HB⟩
        case round =>
          obtain ⟨q, a, c, o', hq, rfl, rfl, hol', HO', HR', HB'⟩ := hrel
          clear HR HB
          have HOL := Lib.hid hol'
          have hl5 : o'.length ≤ 1500004 := by omega
          clear hol'
          have hsz' := HB'.out.size
          by_cases hq4 : q < 4
          · by_cases hqm : q < 4
            · have HX := Lib.hid (HN.out q hq4)
              obtain ⟨v, hv⟩ : ∃ v, v = n / 2 ^ (18 - 6 * q) % 64 := ⟨_, rfl⟩
              have hv64 : v < 64 := by omega
              obtain ⟨x, hx⟩ : ∃ x, x = figC v := ⟨_, rfl⟩
              have HX2 : Hid (fg[q]? = some x) := Lib.hid (by rw [HX.out, if_pos hqm, hx, hv]; rfl)
              have hfg := figStr_get hv64
              rw [← hx] at hfg
              obtain ⟨z, hz⟩ : ∃ z, z = n / 2 ^ (18 - 6 * q) := ⟨_, rfl⟩
              obtain ⟨m6, hm6⟩ : ∃ m6, m6 = 6 * q := ⟨_, rfl⟩
              obtain ⟨sh, hsh⟩ : ∃ sh, sh = 18 - 6 * q := ⟨_, rfl⟩
              have w1 : IntKind.i64.wrap (6 * (q : Int)) = (m6 : Int) := by rw [IntWalk.i64_in _ (by omega)]; omega
              have w2 : IntKind.i64.wrap (18 - (m6 : Int)) = (sh : Int) := by rw [IntWalk.i64_in _ (by omega)]; omega
              have w3 : (n : Int) / 2 ^ sh = (z : Int) := by rw [hz, hsh]; simp
              have wm : min sh 64 = sh := by omega
              have hzl : z < 4294967296 := by rw [hz]; exact Nat.lt_of_le_of_lt (Nat.div_le_self _ _) (by omega)
              have w4 : bits .and .i64 (z : Int) 63 = (v : Int) := by rw [and_i64 z hzl, hv, hz]
              have hq4' : (q : Int) < 4 := by omega
              have hv64' : (v : Int) < 64 := by omega
              clear hz hm6 hsh hv hx HX
              go_wp2_with fail
              refine wp_region_any (by kernel_rfl) ?_
              try (change wpAny _ _ _ _ _ _ _ (World.drew _))
              refine wpAny_take (i := 0) (v := ?_) rfl (by kernel_rfl) (by kernel_rfl) (by kernel_rfl) (fun _ _ _ h => h) (Or.inl ⟨by rfl, ?_⟩) ?_
              rotate_left
              · intro w
                go_simp
                first | done | with_reducible rfl
              rotate_left
              try simp only [Act.put, List.getElem_toArray, List.getElem_cons_zero, List.setIfInBounds_toArray, List.set_cons_succ, List.set_cons_zero]
              refine wpAny_take (i := 2) (v := ?_) rfl (by kernel_rfl) (by kernel_rfl) (by kernel_rfl) (fun _ _ _ h => h) (Or.inl ⟨by rfl, ?_⟩) ?_
              rotate_left
              · intro w
                go_simp
                first | done | with_reducible rfl
              rotate_left
              try simp only [Act.put, List.getElem_toArray, List.getElem_cons_succ, List.getElem_cons_zero, List.setIfInBounds_toArray, List.set_cons_succ, List.set_cons_zero]
              refine wpAny_take (i := 3) (v := ?_) rfl (by kernel_rfl) (by kernel_rfl) (by kernel_rfl) (fun _ _ _ h => h) (Or.inl ⟨by rfl, ?_⟩) ?_
              rotate_left
              · intro w
                go_simp
                first | done | with_reducible rfl
              rotate_left
              try simp only [Act.put, List.getElem_toArray, List.getElem_cons_succ, List.getElem_cons_zero, List.setIfInBounds_toArray, List.set_cons_succ, List.set_cons_zero]
              refine wpAny_take (i := 4) (v := ?_) rfl (by kernel_rfl) (by kernel_rfl) (by kernel_rfl) (fun _ _ _ h => h) (Or.inl ⟨by rfl, ?_⟩) ?_
              rotate_left
              · intro w
                go_simp
                first | done | with_reducible rfl
              rotate_left
              try simp only [Act.put, List.getElem_toArray, List.getElem_cons_succ, List.getElem_cons_zero, List.setIfInBounds_toArray, List.set_cons_succ, List.set_cons_zero]
              refine wpAny_take (i := 5) (v := ?_) rfl (by kernel_rfl) (by kernel_rfl) (by kernel_rfl) (fun _ _ _ h => h) (Or.inl ⟨by rfl, ?_⟩) ?_
              rotate_left
              · intro w
                go_simp
                first | done | with_reducible rfl
              rotate_left
              try simp only [Act.put, List.getElem_toArray, List.getElem_cons_succ, List.getElem_cons_zero, List.setIfInBounds_toArray, List.set_cons_succ, List.set_cons_zero]
              refine wpAny_take (i := 6) (v := ?_) rfl (by kernel_rfl) (by kernel_rfl) (by kernel_rfl) (fun _ _ _ h => h) (Or.inl ⟨by rfl, ?_⟩) ?_
              rotate_left
              · intro w
                go_simp
                first | done | with_reducible rfl
              rotate_left
              try simp only [Act.put, List.getElem_toArray, List.getElem_cons_succ, List.getElem_cons_zero, List.setIfInBounds_toArray, List.set_cons_succ, List.set_cons_zero]
              refine wpAny_take (i := 7) (v := ?_) rfl (by kernel_rfl) (by kernel_rfl) (by kernel_rfl) (fun _ _ _ h => h) (Or.inl ⟨by rfl, ?_⟩) ?_
              rotate_left
              · intro w
                go_simp
                first | done | with_reducible rfl
              rotate_left
              try simp only [Act.put, List.getElem_toArray, List.getElem_cons_succ, List.getElem_cons_zero, List.setIfInBounds_toArray, List.set_cons_succ, List.set_cons_zero]
              refine wpAny_ready (rs := [1]) (by kernel_rfl) (by simp) ?_
              refine AllReady.cons rfl (fun K hK => ?_) AllReady.nil
              go_simp
              refine (CF.out _).mono ?_
              rintro e w2 ⟨rfl, rfl⟩
              refine hK _ _ ?_
              clear hK K
              try simp only [Act.put, List.getElem_toArray, List.getElem_cons_succ, List.getElem_cons_zero, List.setIfInBounds_toArray, List.set_cons_succ, List.set_cons_zero]
              refine wpAny_take (i := 8) (v := ?_) rfl (by kernel_rfl) (by kernel_rfl) (by kernel_rfl) (fun _ _ _ h => h) (Or.inl ⟨by rfl, ?_⟩) ?_
              rotate_left
              · intro w
                go_simp
                first | done | with_reducible rfl
              rotate_left
              try simp only [Act.put, List.getElem_toArray, List.getElem_cons_succ, List.getElem_cons_zero, List.setIfInBounds_toArray, List.set_cons_succ, List.set_cons_zero]
              refine wpAny_ready (rs := [9]) (by kernel_rfl) (by simp) ?_
              refine AllReady.cons rfl (fun K hK => ?_) AllReady.nil
              go_simp
              refine hK _ _ ?_
              clear hK K
              try simp only [Act.put, List.getElem_toArray, List.getElem_cons_succ, List.getElem_cons_zero, List.setIfInBounds_toArray, List.set_cons_succ, List.set_cons_zero]
              refine wpAny_ready (rs := [10]) (by kernel_rfl) (by simp) ?_
              refine AllReady.cons rfl (fun K hK => ?_) AllReady.nil
              refine step_push rfl _ _ 22 rfl w.heap.size 5 i0 (.int .u8 0) 1 1 Tryd.underlying22 hi hz0 hz1 hz2 rfl (by decide) (.slice a o'.length c) o'.length (Lib.byteCells o') (by rfl) (HR'.out.alloc _) wr.heap.size 1 1 [.int .u8 (x.toNat : Int)] (by rfl) rfl (cell_one_new _ _ _) (by intro u hu; rw [List.mem_singleton.1 hu]; rfl) (by unfold maxLen; omega) (by omega) (by simp; omega) ?_
              intro v' w3 hown hg _
              obtain ⟨a3, c3, rfl, R3⟩ := BRow.snoc hown
              have HR3 := Lib.hid R3
              have HB3 := Lib.hid (((HB'.out.drew).alloc hsz' (.cells #[.int .u8 (x.toNat : Int)] 5)).grown hg (by simp; omega) (fun j hj => (World.ownsRow.lt HR'.out j hj).1))
              refine hK _ _ ?_
              clear hK K
              try simp only [Act.put, List.getElem_toArray, List.getElem_cons_succ, List.getElem_cons_zero, List.setIfInBounds_toArray, List.set_cons_succ, List.set_cons_zero]
              clear hown hg R3 HR' HB'
              refine wpAny_take (i := 11) (v := ?_) rfl (by kernel_rfl) (by kernel_rfl) (by kernel_rfl) (fun _ _ _ h => h) (Or.inl ⟨by rfl, ?_⟩) ?_
              rotate_left
              · intro w
                go_simp
                first | done | with_reducible rfl
              rotate_left
              try simp only [Act.put, List.getElem_toArray, List.getElem_cons_succ, List.getElem_cons_zero, List.setIfInBounds_toArray, List.set_cons_succ, List.set_cons_zero]
              refine wpAny_done (by kernel_rfl) ?_ _
              go_wp2
              go_roundw
              case rel => exact ⟨q + 1, a3, c3, o' ++ [x], by omega, by go_num, by rw [List.length_append, List.length_singleton], by rw [List.length_append, List.length_singleton, HOL.out]; omega, Lib.hid (by rw [take_snoc HX2.out, HO'.out, List.append_assoc]), HR3, HB3⟩
              case measure => simp [intOf]; omega
            · exact absurd hq4 hqm
          · obtain rfl : q = 4 := by omega
            have HO4 : Hid (o' = o ++ fg) := Lib.hid (by rw [HO'.out, List.take_of_length_le (by rw [HFL.out]; exact Nat.le_refl _)])
            clear HO'
            go_wp2
            go_roundw
            case rel => exact ⟨k + 3, a, c, o', by omega, by go_num, rfl, by have := HOL.out; omega, Lib.hid (by rw [HO4.out]; exact HS2.out), HR', HB'⟩
            case measure => simp [intOf]; omega
    · have HE := Lib.hid (six_end HS.out (by omega))
      have hcv := HR.out.conv
      have HO : Hid (∀ l, o = l → (⟨o.toArray⟩ : ByteArray) = ⟨l.toArray⟩) := Lib.hid (by rintro l rfl; rfl)
      clear HS
      go_wp2
      go_ret
      exact ⟨ret_st6 (HO.out _ HE.out), HB.out⟩

theorem specCodePut_any (s : ByteArray) (w : World) (hs : s.size ≤ maxLen) :
    Calls Tryd.prog 13 #[.string s] w fun e w' => e = .returned (.string (codePutB s)) ∧ Below w.heap.size w w' := by
  unfold maxLen at hs
  by_cases h240 : 240 < s.size
  · have hm : Hid (codePutB s = { data := #[] }) := Lib.hid (by unfold codePutB; rw [if_neg (by omega)])
    go_enter Tryd.func13, Tryd.ntmps13
    go_wp2
    go_ret
    exact ⟨ret_st6 hm.out.symm, Below.refl _ _⟩
  · have hm : Hid (codePutB s = ⟨(codeL s.data.toList).toArray⟩) := Lib.hid (by unfold codePutB; rw [if_pos (by omega)])
    go_enter Tryd.func13, Tryd.ntmps13
    go_wp2_with fail
    refine (l11Sixes_any s _ (by omega)).mono ?_
    rintro e w1 ⟨rfl, b1⟩
    have HB := Lib.hid b1
    clear b1
    go_wp2
    go_ret
    exact ⟨ret_st6 hm.out.symm, HB.out⟩
end Go.Proofs.YtmigcglcacpboaaDoor
