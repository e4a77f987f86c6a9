/- Contracts: figures of base 64 read, by the model. -/
import Derived.Test.YtmigcglcacpboaaDoorSixes
import Derived.Test.YtmigcglcacpboaaDoorFigsGet
namespace Go.Proofs.YtmigcglcacpboaaDoor
open Go Go.RowKit

theorem ret_icb {a b : Int} (h : a = b) : Ending.returned (.int .i64 a) = .returned (.int .i64 b) := by rw [h]
/-- The place of a figure; -1, if it is none. -/
def figI (c : UInt8) : Int := if figR.idxOf c < 64 then (figR.idxOf c : Int) else -1
theorem figI_V (c : UInt8) : (figI c < 0 → figV c = 0) ∧ (0 ≤ figI c → figI c = figV c) ∧ -1 ≤ figI c ∧ figI c < 64 := by
  unfold figI figV
  by_cases h : figR.idxOf c < 64
  · rw [if_pos h, if_pos h]; refine ⟨fun h => by omega, fun _ => rfl, by omega, by omega⟩
  · rw [if_neg h, if_neg h]; exact ⟨fun _ => rfl, fun h => absurd h (by decide), by decide, by decide⟩
theorem idxOf_at {c : UInt8} {k : Nat} (h : figR[k]? = some c) : figR.idxOf c = k := by
  have hk : k < 64 := by rw [← figR_length]; exact (List.getElem?_eq_some_iff.1 h).1
  rw [figC_get hk] at h
  have : ∀ v < 64, figR.idxOf (figC v) = v := by decide +kernel
  rw [← Option.some.inj h, this k hk]
theorem idxOf_none {c : UInt8} (hn : ∀ v < 64, figR[v]? ≠ some c) : ¬ figR.idxOf c < 64 := by
  intro hlt
  exact hn _ hlt (by rw [List.getElem?_eq_getElem (by rw [figR_length]; exact hlt), List.getElem_idxOf])

theorem l11Value_any (c : UInt8) (w : World) :
    Calls Tryd.prog 57 #[.int .u8 (c.toNat : Int)] w fun e w' => e = .returned (.int .i64 (figI c)) ∧ w = w' := by
  have CF := Lib.hid l11Figures_any
  have hfs := figStr_size
  go_enter Tryd.func57, Tryd.ntmps57
  go_wp2_with fail
  refine (CF.out _).mono ?_
  rintro e w1 ⟨rfl, rfl⟩
  go_wp2
  go_loop [4] (fun i => ∃ k : Nat, k ≤ 64 ∧ i = .int .i64 k ∧ Hid (∀ v < k, figR[v]? ≠ some c)) (fun i => 64 - (intOf i).toNat)
  case atStart => exact ⟨0, Nat.zero_le _, rfl, Lib.hid (fun v hv => absurd hv (Nat.not_lt_zero _))⟩
  case round =>
    obtain ⟨k, hk, rfl, H⟩ := hrel
    by_cases hlt : k < 64
    · have hx := figStr_get hlt
      have hk64 : (k : Int) < 64 := by omega
      have HG := Lib.hid (figC_get hlt)
      by_cases he : figC k = c
      · have hm : Hid (figI c = k) := Lib.hid (by
          have := idxOf_at (c := c) (by rw [HG.out, he])
          unfold figI; rw [this, if_pos hlt])
        have c0 : (((figC k).toNat : Int) == (c.toNat : Int)) = true := by rw [he, beq_iff_eq]
        have c1 : (figC k).toNat = c.toNat := by rw [he]
        clear he
        go_wp2
        go_ret
        exact ⟨ret_icb hm.out.symm, rfl⟩
      · have c1 : ¬ (figC k).toNat = c.toNat := fun e => he (UInt8.toNat_inj.1 e)
        have c0 : (((figC k).toNat : Int) == (c.toNat : Int)) = false := by rw [beq_eq_false_iff_ne]; omega
        have HN : Hid (∀ v < k + 1, figR[v]? ≠ some c) := Lib.hid (fun v hv => by
          by_cases e : v = k
          · subst e; rw [HG.out]; intro e2; exact he (Option.some.inj e2)
          · exact H.out v (by omega))
        clear he
        go_wp2
        go_round
        case rel => exact ⟨k + 1, by omega, by go_num, HN⟩
        case measure => simp [intOf]; omega
    · have hm : Hid (figI c = -1) := Lib.hid (by unfold figI; rw [if_neg (idxOf_none (fun v hv => H.out v (by omega)))])
      have hk64 : ¬ (k : Int) < 64 := by omega
      go_wp2
      go_ret
      exact ⟨ret_icb hm.out.symm, rfl⟩

/-- How many of the first k are '='. -/
def padN (l : List UInt8) : Nat → Nat
  | 0 => 0
  | k + 1 => padN l k + if l.getD k 0 = 61 then 1 else 0
theorem padN_le (l : List UInt8) : ∀ k, padN l k ≤ k
  | 0 => Nat.le_refl _
  | k + 1 => by have := padN_le l k; unfold padN; split <;> omega
theorem padN_figs {u : List UInt8} (h1 : 1 ≤ u.length) (h3 : u.length ≤ 3) : 3 - padN (figs3 u) 4 = u.length ∧ padN (figs3 u) 4 ≤ 3 := by
  obtain ⟨a, b, c, d, e, ha, hb, hc, hd, _⟩ := figs3_read h1 h3
  rw [e]
  have hp : padN [a, b, c, d] 4 = (if c = 61 then 1 else 0) + (if d = 61 then 1 else 0) := by simp [padN, ha, hb]
  rw [hp]
  have hcase : u.length = 1 ∨ u.length = 2 ∨ u.length = 3 := by omega
  rcases hcase with hu | hu | hu
  · rw [if_pos (hc.2 hu), if_pos (hd.2 (by omega))]; omega
  · rw [if_neg (fun e => by have := hc.1 e; omega), if_pos (hd.2 (by omega))]; omega
  · rw [if_neg (fun e => by have := hc.1 e; omega), if_neg (fun e => by have := hd.1 e; omega)]; omega
/-- What the model reads of a group. -/
def readM (g : List UInt8) : List UInt8 := (three (nSix g 4)).take (3 - padN g 4)
theorem readM_figs {u : List UInt8} (h1 : 1 ≤ u.length) (h3 : u.length ≤ 3) : readM (figs3 u) = u := by
  unfold readM
  rw [(padN_figs h1 h3).1]
  obtain ⟨a, b, c, d, e, _, _, _, _, t⟩ := figs3_read h1 h3
  rw [e, nSix_four]
  exact t
def four4 (s : ByteArray) (i : Nat) : List UInt8 := (s.data.toList.drop i).take 4
theorem four4_get {s : ByteArray} {i j : Nat} (hj : j < 4) (h : i + j < s.size) : (four4 s i).getD j 0 = s[i + j] := by
  unfold four4
  rw [List.getD_eq_getElem?_getD, List.getElem?_take_of_lt hj, List.getElem?_drop, data_at' s (i + j) h]; rfl
/-- The bytes so far. -/
def ReadC (s : ByteArray) (i : Nat) (o : List UInt8) : Prop := o.length ≤ i ∧ ∀ u, s.data.toList = codeL u → ∃ j, CAt s.data.toList u i j ∧ o = u.take j
theorem readC_start (s : ByteArray) : ReadC s 0 [] := ⟨Nat.le_refl _, fun _ h => ⟨0, cat_start h, rfl⟩⟩
theorem readC_step {s : ByteArray} {i : Nat} {o : List UInt8} (h : ReadC s i o) (hi : i + 3 < s.size) : ReadC s (i + 4) (o ++ readM (four4 s i)) := by
  refine ⟨?_, fun u hu => ?_⟩
  · have h1 := h.1
    have h2 : (readM (four4 s i)).length ≤ 3 := by unfold readM; rw [List.length_take]; show min _ 3 ≤ 3; omega
    rw [List.length_append]; omega
  · obtain ⟨j, hc, ho⟩ := h.2 u hu
    obtain ⟨hj, _, hg, hc2⟩ := cat_step hc (by rw [← Lib.size_eq]; omega)
    refine ⟨j + 3, hc2, ?_⟩
    have e : four4 s i = figs3 ((u.drop j).take 3) := hg
    rw [e, readM_figs (by rw [List.length_take, List.length_drop]; omega) (by rw [List.length_take]; omega), ho, List.take_add]
theorem readC_end {s : ByteArray} {i : Nat} {o : List UInt8} (h : ReadC s i o) (hi : s.size ≤ i + 3) : ∀ u, s.data.toList = codeL u → o = u := by
  intro u hu
  obtain ⟨j, hc, ho⟩ := h.2 u hu
  by_cases hlt : i < s.size
  · obtain ⟨_, h4, _, _⟩ := cat_step hc (by rw [← Lib.size_eq]; exact hlt)
    rw [← Lib.size_eq] at h4; omega
  · have := cat_end hc (by rw [← Lib.size_eq]; omega)
    rw [ho, List.take_of_length_le this]
theorem and255 (a : Nat) (ha : a < 4294967296) : bits .and .i64 (a : Int) 255 = ((a % 256 : Nat) : Int) := by
  have h1 : (BitVec.ofInt 64 (a : Int)).toNat = a := by
    rw [BitVec.ofInt_natCast, BitVec.toNat_ofNat]; exact Nat.mod_eq_of_lt (by omega)
  have h2 : (BitVec.ofInt 64 255).toNat = 255 := rfl
  show IntKind.i64.wrap ((BitVec.ofInt 64 (a : Int) &&& BitVec.ofInt 64 255).toNat : Int) = _
  rw [BitVec.toNat_and, h1, h2, show (255 : Nat) = 2 ^ 8 - 1 from rfl, Nat.and_two_pow_sub_one_eq_mod]
  exact IntWalk.i64_in _ (by omega)

set_option maxHeartbeats 8000000 in
set_option maxRecDepth 100000 in
theorem l11Bytes_any (s : ByteArray) (w : World) (hs : s.size ≤ 1048576) :
    Calls Tryd.prog 41 #[.string s] w fun e w' => (∃ o : List UInt8, e = .returned (.string ⟨o.toArray⟩) ∧ o.length ≤ s.size + 3 ∧ ∀ u, s.data.toList = codeL u → o = u) ∧ Below w.heap.size w w' := by
  obtain ⟨i0, hi, hz0, hz1, hz2⟩ := info_parts infoByteO
  have R0 := Lib.hid (BRow.made w)
  have B0 : Hid (Below w.heap.size w (w.alloc (.cells #[] 5))) := Lib.hid ((Below.refl _ w).alloc (Nat.le_refl _) _)
  go_enter Tryd.func41, Tryd.ntmps41
  go_wp2
  go_loopw [3, 4] (fun v i wr => ∃ (k : Nat) (ao : Option Addr) (cap : Nat) (o : List UInt8), k ≤ s.size + 3 ∧ i = .int .i64 k ∧ v = .slice ao o.length cap ∧ Hid (ReadC s k o) ∧ Hid (BRow wr w.heap.size ao cap o) ∧ Hid (Below w.heap.size w wr)) (fun _ i _ => s.size + 4 - (intOf i).toNat)
  case atStart => exact ⟨0, _, _, [], Nat.zero_le _, rfl, rfl, Lib.hid (readC_start s), R0, B0⟩
  case round =>
    obtain ⟨k, ao, cap, o, hk, rfl, rfl, HS, HR, HB⟩ := hrel
    clear R0 B0
    by_cases hlt : k + 3 < s.size
    · have HS2 := Lib.hid (readC_step HS.out hlt)
      have hol := HS.out.1
      have HG : Hid (∀ j, j < 4 → ∀ h : k + j < s.size, (four4 s k).getD j 0 = s[k + j]) := Lib.hid (fun j hj h => four4_get hj h)
      generalize four4 s k = G at *
      have p3 : (k : Int) + 3 < (s.size : Int) := by omega
      clear HS
      go_wp2_with fail
      go_loop [5, 6, 7] (fun n m j => ∃ q : Nat, q ≤ 4 ∧ j = .int .i64 q ∧ n = .int .i64 (nSix G q : Nat) ∧ m = .int .i64 (3 - (padN G q : Nat))) (fun _ _ j => 4 - (intOf j).toNat)
      case atStart => exact ⟨0, Nat.zero_le _, rfl, rfl, rfl⟩
      case round =>
        obtain ⟨q, hq, rfl, rfl, rfl⟩ := hrel
        by_cases hq4 : q < 4
        · obtain ⟨kq, hkq⟩ : ∃ kq, kq = k + q := ⟨_, rfl⟩
          have i1 : kq < s.size := by omega
          have j1 : (kq : Int) < (s.size : Int) := by omega
          have q1 : (k : Int) + (q : Int) = (kq : Int) := by omega
          have q1w : IntKind.i64.wrap (kq : Int) = (kq : Int) := IntWalk.i64_in _ (by omega)
          have hg : G.getD q 0 = s[kq] := by subst hkq; exact HG.out q hq4 (by omega)
          have hn := nSix_lt G q
          have hn2 : nSix G q < 262144 := Nat.lt_of_lt_of_le hn (Nat.le_trans (Nat.pow_le_pow_right (by decide) (show q ≤ 3 by omega)) (by decide))
          have hpl := padN_le G q
          have HN : Hid (nSix G (q + 1) = nSix G q * 64 + figV s[kq]) := Lib.hid (by
            show _ * 64 + figV (G.getD q 0) = _
            rw [hg])
          have HP : Hid (padN G (q + 1) = padN G q + if s[kq] = 61 then 1 else 0) := Lib.hid (by
            show _ + (if G.getD q 0 = 61 then 1 else 0) = _
            rw [hg])
          have CV := Lib.hid (fun W => l11Value_any s[kq] W)
          have hvv := figI_V s[kq]
          have hvl := figV_lt s[kq]
          generalize nSix G q = n at *
          generalize padN G q = pd at *
          generalize figI s[kq] = fi at *
          generalize figV s[kq] = v at *
          obtain ⟨hv1, hv2, hv3, hv4⟩ := hvv
          have HQ := Lib.hid (show q + 1 ≤ 4 by omega)
          have hor : ∀ v' : Nat, v' < 64 → bits .or .i64 ((n : Int) * 64) (v' : Int) = ((n * 64 + v' : Nat) : Int) := fun v' hv' => by
            have := or_i64 (n * 64) v' (by omega) (by omega)
            rw [show n * 64 = n * 2 ^ 6 from rfl, or_add n v' 6 (by omega)] at this
            exact this
          have hor0 : bits .or .i64 ((n : Int) * 64) 0 = ((n * 64 + 0 : Nat) : Int) := hor 0 (by decide)
          have horv := hor v hvl
          clear hn hg hor hkq
          by_cases h61 : s[kq] = 61
          · have c0 : ((s[kq].toNat : Int) == 61) = true := by rw [h61]; rfl
            have HP2 : Hid (padN G (q + 1) = pd + 1) := Lib.hid (by rw [HP.out, if_pos h61])
            clear h61 HP
            by_cases hneg : fi < 0
            · have HN2 : Hid (nSix G (q + 1) = n * 64 + 0) := Lib.hid (by rw [HN.out, hv1 hneg])
              clear hv1 hv2 HN
              go_wp2_with fail
              refine (CV.out _).mono ?_
              rintro e w1 ⟨rfl, rfl⟩
              go_wp2
              go_round
              case rel => exact ⟨q + 1, HQ.out, by go_num, by rw [HN2.out]; first | done | (congr 1 <;> omega), by rw [HP2.out]; first | done | (congr 1 <;> omega)⟩
              case measure => simp [intOf]; omega
            · have hfv : fi = v := hv2 (by omega)
              subst hfv
              clear hv1 hv2
              go_wp2_with fail
              refine (CV.out _).mono ?_
              rintro e w1 ⟨rfl, rfl⟩
              go_wp2
              go_round
              case rel => exact ⟨q + 1, HQ.out, by go_num, by rw [HN.out]; first | done | (congr 1 <;> omega), by rw [HP2.out]; first | done | (congr 1 <;> omega)⟩
              case measure => simp [intOf]; omega
          · have c0 : ((s[kq].toNat : Int) == 61) = false := by
              rw [beq_eq_false_iff_ne]; intro e; exact h61 (UInt8.toNat_inj.1 (by simpa using (by omega : s[kq].toNat = 61)))
            have HP2 : Hid (padN G (q + 1) = pd) := Lib.hid (by rw [HP.out, if_neg h61]; rfl)
            clear h61 HP
            by_cases hneg : fi < 0
            · have HN2 : Hid (nSix G (q + 1) = n * 64 + 0) := Lib.hid (by rw [HN.out, hv1 hneg])
              clear hv1 hv2 HN
              go_wp2_with fail
              refine (CV.out _).mono ?_
              rintro e w1 ⟨rfl, rfl⟩
              go_wp2
              go_round
              case rel => exact ⟨q + 1, HQ.out, by go_num, by rw [HN2.out]; first | done | (congr 1 <;> omega), by rw [HP2.out]⟩
              case measure => simp [intOf]; omega
            · have hfv : fi = v := hv2 (by omega)
              subst hfv
              clear hv1 hv2
              go_wp2_with fail
              refine (CV.out _).mono ?_
              rintro e w1 ⟨rfl, rfl⟩
              go_wp2
              go_round
              case rel => exact ⟨q + 1, HQ.out, by go_num, by rw [HN.out]; first | done | (congr 1 <;> omega), by rw [HP2.out]⟩
              case measure => simp [intOf]; omega
        · obtain rfl : q = 4 := by omega
          have hn := nSix_lt G 4
          have hn24 : nSix G 4 < 16777216 := hn
          have hpl := padN_le G 4
          have HM : Hid (readM G = (three (nSix G 4)).take (3 - padN G 4)) := Lib.hid rfl
          generalize nSix G 4 = n at *
          generalize padN G 4 = pd at *
          obtain ⟨M, hM⟩ : ∃ M, M = 3 - pd := ⟨_, rfl⟩
          rw [← hM] at HM
          have hML : M ≤ 3 := by omega
          have hMI : ∀ j : Nat, ((j : Int) < 3 - (pd : Int)) ↔ j < M := fun j => by omega
          have HMI := Lib.hid hMI
          clear hM hMI hn
          go_wp2_with fail
          go_loopw [3, 9] (fun v j wr => ∃ (q : Nat) (a : Option Addr) (c : Nat) (o' : List UInt8), q ≤ M ∧ j = .int .i64 q ∧ v = .slice a o'.length c ∧ Hid (o' = o ++ (three n).take q) ∧ Hid (BRow wr w.heap.size a c o') ∧ Hid (Below w.heap.size w wr)) (fun _ j _ => 4 - (intOf j).toNat)
          case atStart => exact ⟨0, ao, cap, o, Nat.zero_le _, rfl, rfl, Lib.hid (by simp), HR, HB⟩
          case round =>
            obtain ⟨q, a, c, o', hqM, rfl, rfl, HO', HR', HB'⟩ := hrel
            clear HR HB
            have hsz' := HB'.out.size
            have hol' : o'.length ≤ 1048600 := by
              rw [HO'.out, List.length_append, List.length_take]; have := three_length n; omega
            by_cases hqm : q < M
            · have hcond : (q : Int) < 3 - (pd : Int) := (HMI.out q).2 hqm
              obtain ⟨z, hz⟩ : ∃ z, z = n / 2 ^ (16 - 8 * q) := ⟨_, rfl⟩
              obtain ⟨x, hx⟩ : ∃ x : UInt8, x = UInt8.ofNat z := ⟨_, rfl⟩
              have HX2 : Hid ((three n)[q]? = some x) := Lib.hid (by
                rw [hx, hz]
                have hq3 : q < 3 := by omega
                match q, hq3 with
                | 0, _ => rfl
                | 1, _ => rfl
                | 2, _ => show some (UInt8.ofNat n) = some (UInt8.ofNat (n / 1)); rw [Nat.div_one])
              have w3 : (n : Int) / 2 ^ (16 - 8 * q) = (z : Int) := by rw [hz]; simp
              have hzl : z < 4294967296 := by rw [hz]; exact Nat.lt_of_le_of_lt (Nat.div_le_self _ _) (by omega)
              have w4 : bits .and .i64 (z : Int) 255 = (x.toNat : Int) := by rw [and255 z hzl, hx, UInt8.toNat_ofNat']
              have hown := HR'.out
              unfold BRow at hown
              have hx8 := x.toNat_lt
              have hxm : (x.toNat : Int) % 256 = (x.toNat : Int) := by omega
              clear hz hx
              go_wp2_with (at_builtin; refine wpList_append_own _ rfl _ _ 22 rfl w.heap.size 5 i0 (.int .u8 0) 1 1 Tryd.underlying22 hi hz0 hz1 hz2 rfl (by decide) _ _ _ rfl (hown.alloc _) ⟨wr.heap.size, 0, none⟩ 1 1 [.int .u8 (x.toNat : Int)] rfl rfl (cell_one_new _ _ _) ?d2 ?d3 ?d4 ?d5 ?_)
              case d2 => first | (intro u hu; rw [List.mem_singleton.1 hu]; rfl) | rfl
              case d3 => unfold maxLen; omega
              case d4 => omega
              case d5 => first | (simp; omega) | omega
              intro v' w3 hown' hg _
              obtain ⟨a3, c3, rfl, R3⟩ := BRow.snoc hown'
              have HR3 := Lib.hid R3
              have HB3 := Lib.hid (((HB'.out).alloc hsz' (.cells #[.int .u8 (x.toNat : Int)] 5)).grown hg (by simp; omega) (fun j hj => (World.ownsRow.lt hown j hj).1))
              clear hown hown' hg R3 HR' HB'
              go_wp2
              go_roundw
              case rel => exact ⟨q + 1, a3, c3, o' ++ [x], by omega, by go_num, rfl, Lib.hid (by rw [take_snoc HX2.out, HO'.out, List.append_assoc]), HR3, HB3⟩
              case measure => simp [intOf]; omega
            · have hcond : ¬ (q : Int) < 3 - (pd : Int) := fun h => hqm ((HMI.out q).1 h)
              have HO4 : Hid (o' = o ++ readM G) := Lib.hid (by rw [HO'.out, HM.out, show q = M by omega])
              clear HO'
              go_wp2
              go_roundw
              case rel => exact ⟨k + 4, a, c, o', by omega, by go_num, rfl, Lib.hid (by rw [HO4.out]; exact HS2.out), HR', HB'⟩
              case measure => simp [intOf]; omega
    · have HE := Lib.hid (readC_end HS.out (by omega))
      have hcv := HR.out.conv
      have HOL : Hid (o.length ≤ s.size + 3) := Lib.hid (by have := HS.out.1; omega)
      have p3 : ¬ (k : Int) + 3 < (s.size : Int) := by omega
      clear HS
      go_wp2
      go_ret
      exact ⟨⟨o, rfl, HOL.out, HE.out⟩, HB.out⟩
end Go.Proofs.YtmigcglcacpboaaDoor
