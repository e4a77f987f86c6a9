/- Contracts: QuoteGet of the model: the walk. -/
import Derived.Test.YtmigcglcacpboaaQuoteG
import Derived.Test.YtmigcglcacpboaaStepPush
namespace Go.Proofs.Ytmigcglcacpboaa
open Go Go.RowKit

set_option maxHeartbeats 4000000 in
set_option maxRecDepth 100000 in
theorem specQuoteGet_any (s : ByteArray) (w : World) (hs : s.size ≤ 1048576) :
    Calls Try.prog 12 #[.string s] w fun e w' => e = .returned (.tuple #[.string (quoteGetB s).1, .bool (quoteGetB s).2]) ∧ Below w.heap.size w w' := by
  obtain ⟨i0, hi, hz0, hz1, hz2⟩ := info_parts infoByteO
  have R0 := Lib.hid (BRow.made w)
  have B0 : Hid (Below w.heap.size w (w.alloc (.cells #[] 5))) := Lib.hid ((Below.refl _ w).alloc (Nat.le_refl _) _)
  go_enter Try.func12, Try.ntmps12
  go_wp2
  go_loopw [4, 5] (fun v i wr => ∃ (k : Nat) (ao : Option Addr) (cap : Nat) (o : List UInt8), k ≤ s.size ∧ i = .int .i64 k ∧ v = .slice ao o.length cap ∧ o.length ≤ 241 ∧ Hid (ReadQ s k o) ∧ Hid (BRow wr w.heap.size ao cap o) ∧ Hid (Below w.heap.size w wr)) (fun _ i _ => s.size - (intOf i).toNat)
  case atStart => exact ⟨0, _, _, [], Nat.zero_le _, rfl, rfl, Nat.zero_le _, Lib.hid (readQ_start s), R0, B0⟩
  case round =>
    obtain ⟨k, ao, cap, o, hk, rfl, rfl, hol, HQ, HR, HB⟩ := hrel
    clear R0 B0
    have hsz := HB.out.size
    by_cases h240 : o.length ≤ 240
    · by_cases hlt : k < s.size
      · by_cases hc : s[k] = 61
        · have c0 : ((s[k].toNat : Int) != 61) = false := by rw [hc]; rfl
          by_cases h2 : k + 2 < s.size
          · obtain ⟨k1, hk1⟩ : ∃ k1, k1 = k + 1 := ⟨_, rfl⟩
            obtain ⟨k2, hk2⟩ : ∃ k2, k2 = k + 2 := ⟨_, rfl⟩
            have i1 : k1 < s.size := by omega
            have i2 : k2 < s.size := by omega
            have j1 : (k1 : Int) < (s.size : Int) := by omega
            have j2 : (k2 : Int) < (s.size : Int) := by omega
            have q1 : (k : Int) + 1 = (k1 : Int) := by omega
            have q2 : (k : Int) + 2 = (k2 : Int) := by omega
            have D1 := Lib.hid (fun w => l11Digit_any s[k1] w)
            have D2 := Lib.hid (fun w => l11Digit_any s[k2] w)
            have HBAD : Hid (hexV s[k1] < 0 ∨ hexV s[k2] < 0 → quoteGetB s = ({ data := #[] }, false)) := Lib.hid (fun hx => quoteGetB_no (readQ_bad HQ.out h2 hc (by subst hk1 hk2; exact hx)))
            have HN := Lib.hid (readQ_mark (x := qByteM s[k1] s[k2]) HQ.out h2 hc (fun p q hp hq e1 e2 => qByteM_hex hp hq (by subst hk1; exact e1) (by subst hk2; exact e2)))
            have HX : Hid (∀ a b : Nat, hexV s[k1] = a → hexV s[k2] = b → ((qByteM s[k1] s[k2]).toNat : Int) = (a * 16 + b : Nat)) := Lib.hid (fun a b ha hb => by
              have := hexV_in s[k1]
              have := hexV_in s[k2]
              unfold qByteM
              rw [ha, hb, UInt8.toNat_ofNat']
              omega)
            have hv1 := hexV_in s[k1]
            have hv2 := hexV_in s[k2]
            generalize hexV s[k1] = v1 at *
            generalize hexV s[k2] = v2 at *
            generalize qByteM s[k1] s[k2] = x at *
            have HK2 := Lib.hid hk2
            clear hc HQ hk1 hk2
            by_cases n1 : v1 < 0
            · have hm := Lib.hid (HBAD.out (.inl n1))
              have d1 : decide (v1 < 0) = true := decide_eq_true n1
              go_wp2_with fail
              refine (D1.out _).mono ?_
              rintro e w1 ⟨rfl, rfl⟩
              go_wp2
              go_ret2
              exact ⟨ret_gq hm.out, HB.out⟩
            by_cases n2 : v2 < 0
            · have hm := Lib.hid (HBAD.out (.inr n2))
              have d1 : decide (v1 < 0) = false := decide_eq_false n1
              have d2 : decide (v2 < 0) = true := decide_eq_true n2
              go_wp2_with fail
              refine (D1.out _).mono ?_
              rintro e w1 ⟨rfl, rfl⟩
              go_wp2_with fail
              refine (D2.out _).mono ?_
              rintro e w1 ⟨rfl, rfl⟩
              go_wp2
              go_ret2
              exact ⟨ret_gq hm.out, HB.out⟩
            obtain ⟨a, rfl⟩ : ∃ a : Nat, v1 = a := ⟨v1.toNat, by omega⟩
            obtain ⟨b, rfl⟩ : ∃ b : Nat, v2 = b := ⟨v2.toNat, by omega⟩
            have hx := HX.out a b rfl rfl
            have hx8 := x.toNat_lt
            obtain ⟨a16, ha16⟩ : ∃ a16, a16 = a * 16 := ⟨_, rfl⟩
            have q3 : IntKind.i64.wrap ((a : Int) * 16) = (a16 : Int) := by rw [IntWalk.i64_in _ (by omega)]; omega
            have q4 : IntKind.i64.wrap ((a16 : Int) + (b : Int)) = (x.toNat : Int) := by rw [IntWalk.i64_in _ (by omega)]; omega
            have q5 : IntKind.u8.wrap (x.toNat : Int) = (x.toNat : Int) := IntWalk.u8_in _ (by omega)
            have d1 : decide ((a : Int) < 0) = false := decide_eq_false (by omega)
            have d2 : decide ((b : Int) < 0) = false := decide_eq_false (by omega)
            have q1w : IntKind.i64.wrap (k1 : Int) = (k1 : Int) := IntWalk.i64_in _ (by omega)
            have q2w : IntKind.i64.wrap (k2 : Int) = (k2 : Int) := IntWalk.i64_in _ (by omega)
            clear HBAD HX hx ha16 hv1 hv2 n1 n2
            go_wp2_with fail
            refine (D1.out _).mono ?_
            rintro e w1 ⟨rfl, rfl⟩
            go_wp2_with fail
            refine (D2.out _).mono ?_
            rintro e w1 ⟨rfl, rfl⟩
            go_wp2_with fail
            refine wp_region_any (by kernel_rfl) ?_
            try (change wpAny _ _ _ _ _ _ _ (World.drew _))
            refine wpAny_take (i := 0) (v := ?_) rfl (by kernel_rfl) (by kernel_rfl) (by kernel_rfl) (fun _ _ _ h => h) (Or.inl ⟨by rfl, ?_⟩) ?_
            rotate_left
            · intro w
              go_simp
              first | done | with_reducible rfl
            rotate_left
            try simp only [Act.put, List.getElem_toArray, List.getElem_cons_zero, List.setIfInBounds_toArray, List.set_cons_succ, List.set_cons_zero]
            refine wpAny_take (i := 1) (v := ?_) rfl (by kernel_rfl) (by kernel_rfl) (by kernel_rfl) (fun _ _ _ h => h) (Or.inl ⟨by rfl, ?_⟩) ?_
            rotate_left
            · intro w
              go_simp
              first | done | with_reducible rfl
            rotate_left
            try simp only [Act.put, List.getElem_toArray, List.getElem_cons_succ, List.getElem_cons_zero, List.setIfInBounds_toArray, List.set_cons_succ, List.set_cons_zero]
            refine wpAny_take (i := 2) (v := ?_) rfl (by kernel_rfl) (by kernel_rfl) (by kernel_rfl) (fun _ _ _ h => h) (Or.inl ⟨by rfl, ?_⟩) ?_
            rotate_left
            · intro w
              go_simp
              first | done | with_reducible rfl
            rotate_left
            try simp only [Act.put, List.getElem_toArray, List.getElem_cons_succ, List.getElem_cons_zero, List.setIfInBounds_toArray, List.set_cons_succ, List.set_cons_zero]
            refine wpAny_take (i := 3) (v := ?_) rfl (by kernel_rfl) (by kernel_rfl) (by kernel_rfl) (fun _ _ _ h => h) (Or.inl ⟨by rfl, ?_⟩) ?_
            rotate_left
            · intro w
              go_simp
              first | done | with_reducible rfl
            rotate_left
            try simp only [Act.put, List.getElem_toArray, List.getElem_cons_succ, List.getElem_cons_zero, List.setIfInBounds_toArray, List.set_cons_succ, List.set_cons_zero]
            refine wpAny_take (i := 4) (v := ?_) rfl (by kernel_rfl) (by kernel_rfl) (by kernel_rfl) (fun _ _ _ h => h) (Or.inl ⟨by rfl, ?_⟩) ?_
            rotate_left
            · intro w
              go_simp
              first | done | with_reducible rfl
            rotate_left
            try simp only [Act.put, List.getElem_toArray, List.getElem_cons_succ, List.getElem_cons_zero, List.setIfInBounds_toArray, List.set_cons_succ, List.set_cons_zero]
            refine wpAny_take (i := 7) (v := ?_) rfl (by kernel_rfl) (by kernel_rfl) (by kernel_rfl) (fun _ _ _ h => h) (Or.inl ⟨by rfl, ?_⟩) ?_
            rotate_left
            · intro w
              go_simp
              first | done | with_reducible rfl
            rotate_left
            try simp only [Act.put, List.getElem_toArray, List.getElem_cons_succ, List.getElem_cons_zero, List.setIfInBounds_toArray, List.set_cons_succ, List.set_cons_zero]
            refine wpAny_take (i := 8) (v := ?_) rfl (by kernel_rfl) (by kernel_rfl) (by kernel_rfl) (fun _ _ _ h => h) (Or.inl ⟨by rfl, ?_⟩) ?_
            rotate_left
            · intro w
              go_simp
              first | done | with_reducible rfl
            rotate_left
            try simp only [Act.put, List.getElem_toArray, List.getElem_cons_succ, List.getElem_cons_zero, List.setIfInBounds_toArray, List.set_cons_succ, List.set_cons_zero]
            refine wpAny_take (i := 9) (v := ?_) rfl (by kernel_rfl) (by kernel_rfl) (by kernel_rfl) (fun _ _ _ h => h) (Or.inl ⟨by rfl, ?_⟩) ?_
            rotate_left
            · intro w
              go_simp
              first | done | with_reducible rfl
            rotate_left
            try simp only [Act.put, List.getElem_toArray, List.getElem_cons_succ, List.getElem_cons_zero, List.setIfInBounds_toArray, List.set_cons_succ, List.set_cons_zero]
            refine wpAny_take (i := 10) (v := ?_) rfl (by kernel_rfl) (by kernel_rfl) (by kernel_rfl) (fun _ _ _ h => h) (Or.inl ⟨by rfl, ?_⟩) ?_
            rotate_left
            · intro w
              go_simp
              first | done | with_reducible rfl
            rotate_left
            try simp only [Act.put, List.getElem_toArray, List.getElem_cons_succ, List.getElem_cons_zero, List.setIfInBounds_toArray, List.set_cons_succ, List.set_cons_zero]
            refine wpAny_ready (rs := [5]) (by kernel_rfl) (by simp) ?_
            refine AllReady.cons rfl (fun K hK => ?_) AllReady.nil
            go_simp
            refine (D1.out _).mono ?_
            rintro e w' ⟨rfl, rfl⟩
            refine hK _ _ ?_
            clear hK K
            try simp only [Act.put, List.getElem_toArray, List.getElem_cons_succ, List.getElem_cons_zero, List.setIfInBounds_toArray, List.set_cons_succ, List.set_cons_zero]
            refine wpAny_take (i := 6) (v := ?_) rfl (by kernel_rfl) (by kernel_rfl) (by kernel_rfl) (fun _ _ _ h => h) (Or.inl ⟨by rfl, ?_⟩) ?_
            rotate_left
            · intro w
              go_simp
              first | done | with_reducible rfl
            rotate_left
            try simp only [Act.put, List.getElem_toArray, List.getElem_cons_succ, List.getElem_cons_zero, List.setIfInBounds_toArray, List.set_cons_succ, List.set_cons_zero]
            refine wpAny_ready (rs := [11]) (by kernel_rfl) (by simp) ?_
            refine AllReady.cons rfl (fun K hK => ?_) AllReady.nil
            go_simp
            refine (D2.out _).mono ?_
            rintro e w' ⟨rfl, rfl⟩
            refine hK _ _ ?_
            clear hK K
            try simp only [Act.put, List.getElem_toArray, List.getElem_cons_succ, List.getElem_cons_zero, List.setIfInBounds_toArray, List.set_cons_succ, List.set_cons_zero]
            refine wpAny_take (i := 12) (v := ?_) rfl (by kernel_rfl) (by kernel_rfl) (by kernel_rfl) (fun _ _ _ h => h) (Or.inl ⟨by rfl, ?_⟩) ?_
            rotate_left
            · intro w
              go_simp
              first | done | with_reducible rfl
            rotate_left
            try simp only [Act.put, List.getElem_toArray, List.getElem_cons_succ, List.getElem_cons_zero, List.setIfInBounds_toArray, List.set_cons_succ, List.set_cons_zero]
            refine wpAny_take (i := 13) (v := ?_) rfl (by kernel_rfl) (by kernel_rfl) (by kernel_rfl) (fun _ _ _ h => h) (Or.inl ⟨by rfl, ?_⟩) ?_
            rotate_left
            · intro w
              go_simp
              first | done | with_reducible rfl
            rotate_left
            try simp only [Act.put, List.getElem_toArray, List.getElem_cons_succ, List.getElem_cons_zero, List.setIfInBounds_toArray, List.set_cons_succ, List.set_cons_zero]
            refine wpAny_ready (rs := [14]) (by kernel_rfl) (by simp) ?_
            refine AllReady.cons rfl (fun K hK => ?_) AllReady.nil
            go_simp
            refine hK _ _ ?_
            clear hK K
            try simp only [Act.put, List.getElem_toArray, List.getElem_cons_succ, List.getElem_cons_zero, List.setIfInBounds_toArray, List.set_cons_succ, List.set_cons_zero]
            refine wpAny_ready (rs := [15]) (by kernel_rfl) (by simp) ?_
            refine AllReady.cons rfl (fun K hK => ?_) AllReady.nil
            refine step_push rfl _ _ 22 rfl w.heap.size 5 i0 (.int .u8 0) 1 1 Try.underlying22 hi hz0 hz1 hz2 rfl (by decide) (.slice ao o.length cap) o.length (Lib.byteCells o) (by rfl) (HR.out.alloc _) wr.heap.size 1 1 [.int .u8 (x.toNat : Int)] (by rfl) rfl (cell_one_new _ _ _) (by intro u hu; rw [List.mem_singleton.1 hu]; rfl) (by unfold maxLen; omega) (by omega) (by have := HB.out.size; simp; omega) ?_
            intro v' w3 hown hg _
            obtain ⟨a3, c3, rfl, R3⟩ := BRow.snoc hown
            have HR3 := Lib.hid R3
            have HB3 := Lib.hid (((HB.out.drew).alloc (by have := HB.out.size; exact this) (.cells #[.int .u8 (x.toNat : Int)] 5)).grown hg (by have := HB.out.size; simp; omega) (fun k hk => (World.ownsRow.lt HR.out k hk).1))
            refine hK _ _ ?_
            clear hK K hown hg R3 HR HB
            try simp only [Act.put, List.getElem_toArray, List.getElem_cons_succ, List.getElem_cons_zero, List.setIfInBounds_toArray, List.set_cons_succ, List.set_cons_zero]
            refine wpAny_take (i := 16) (v := ?_) rfl (by kernel_rfl) (by kernel_rfl) (by kernel_rfl) (fun _ _ _ h => h) (Or.inl ⟨by rfl, ?_⟩) ?_
            rotate_left
            · intro w
              go_simp
              first | done | with_reducible rfl
            rotate_left
            try simp only [Act.put, List.getElem_toArray, List.getElem_cons_succ, List.getElem_cons_zero, List.setIfInBounds_toArray, List.set_cons_succ, List.set_cons_zero]
            refine wpAny_done (by kernel_rfl) ?_ _
            go_wp2
            go_roundw
            case rel => exact ⟨k2 + 1, a3, c3, o ++ [x], by omega, by go_num, by rw [List.length_append, List.length_singleton], by rw [List.length_append, List.length_singleton]; omega, Lib.hid (by rw [HK2.out]; exact HN.out), HR3, HB3⟩
            case measure => simp [intOf]; have := HK2.out; omega
          · have hm := Lib.hid (quoteGetB_no (readQ_cut HQ.out hlt (by omega) hc))
            have h2' : s.size ≤ k + 2 := by omega
            clear hc HQ
            go_wp2
            go_ret2
            exact ⟨ret_gq hm.out, HB.out⟩
        · have c0 : ((s[k].toNat : Int) != 61) = true := by
            rw [bne_iff_ne]; intro e; exact hc (UInt8.toNat_inj.1 (by simpa using (by omega : s[k].toNat = 61)))
          have HN := Lib.hid (readQ_plain HQ.out hlt hc)
          have hown := HR.out
          unfold BRow at hown
          clear hc HQ
          go_wp2_with (at_builtin; refine wpList_append_own _ rfl _ _ 22 rfl w.heap.size 5 i0 (.int .u8 0) 1 1 Try.underlying22 hi hz0 hz1 hz2 rfl (by decide) _ _ _ rfl (hown.alloc _) ⟨wr.heap.size, 0, none⟩ 1 1 [.int .u8 (s[k].toNat : Int)] rfl rfl ?d1 ?d2 ?d3 ?d4 ?d5 ?_)
          case d1 => exact cell_one_new _ _ _
          case d2 => intro u hu; rw [List.mem_singleton.1 hu]; rfl
          case d3 => unfold maxLen; omega
          case d4 => omega
          case d5 => simp; omega
          intro v' w3 hown' hg _
          obtain ⟨a3, c3, rfl, R3⟩ := BRow.snoc hown'
          have HR3 := Lib.hid R3
          have HB3 := Lib.hid (((HB.out).alloc (by have := HB.out.size; exact this) (.cells #[.int .u8 (s[k].toNat : Int)] 5)).grown hg (by have := HB.out.size; simp; omega) (fun j hj => (World.ownsRow.lt hown j hj).1))
          clear hown hown' hg R3 HR HB
          go_wp2
          go_roundw
          case rel => exact ⟨k + 1, a3, c3, o ++ [s[k]], by omega, by go_num, rfl, by rw [List.length_append, List.length_singleton]; omega, HN, HR3, HB3⟩
          case measure => simp [intOf]; omega
      · have hle : s.size ≤ k := by omega
        have CQ := Lib.hid (fun W => l11Quote_any ⟨o.toArray⟩ W (show o.length ≤ 1048576 by omega))
        have hcv := HR.out.conv
        obtain ⟨q, hq⟩ : ∃ q : ByteArray, q = ⟨(quoteL o).toArray⟩ := ⟨_, rfl⟩
        have hqd : q.data.toList = quoteL o := by rw [hq]
        have CQ2 : Hid (∀ W : World, Calls Try.prog 18 #[.string ⟨o.toArray⟩] W fun e w' => e = .returned (.string q) ∧ Below W.heap.size W w') := Lib.hid (fun W => by rw [hq]; exact CQ.out W)
        have d1 : decide ((240 : Int) < (o.length : Int)) = false := decide_eq_false (by omega)
        by_cases heq : q = s
        · have hm := Lib.hid (quoteGetB_yes (s := s) h240 (by rw [← hqd, heq]))
          have HQR := Lib.hid HR.out
          clear CQ hq hqd HQ
          go_wp2_with fail
          refine (CQ2.out _).mono ?_
          rintro e w2 ⟨rfl, b2⟩
          have hcv2 := (HQR.out.later b2).conv
          have HB2 := Lib.hid (HB.out.trans (b2.mono hsz))
          rw [heq]
          clear b2 HR HB
          go_wp2
          go_ret2
          exact ⟨ret_gq hm.out, HB2.out⟩
        · have hm := Lib.hid (quoteGetB_end HQ.out hle (fun e => heq (by cases q; cases s; simp_all)))
          have e1 := ne_toList heq
          have e2 : (!q.toList == s.toList) = true := by rw [e1]; rfl
          have e3 : ¬ q.toList = s.toList := by simpa using e1
          clear CQ hq hqd HQ heq
          go_wp2_with fail
          refine (CQ2.out _).mono ?_
          rintro e w2 ⟨rfl, b2⟩
          have HB2 := Lib.hid (HB.out.trans (b2.mono hsz))
          clear b2 HR HB
          go_wp2
          go_ret2
          exact ⟨ret_gq hm.out, HB2.out⟩
    · have hm := Lib.hid (quoteGetB_long HQ.out (by omega))
      have d1 : decide ((240 : Int) < (o.length : Int)) = true := decide_eq_true (by omega)
      by_cases hlt : k < s.size
      · clear HQ
        go_wp2
        go_ret2
        exact ⟨ret_gq hm.out, HB.out⟩
      · clear HQ
        go_wp2
        go_ret2
        exact ⟨ret_gq hm.out, HB.out⟩
end Go.Proofs.Ytmigcglcacpboaa
