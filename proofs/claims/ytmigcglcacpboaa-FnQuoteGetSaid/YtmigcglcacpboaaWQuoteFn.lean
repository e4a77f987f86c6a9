/- The walks of FnQuotePut and FnQuoteGet. -/
import Derived.Test.YtmigcglcacpboaaQuoteW
import Derived.Test.YtmigcglcacpboaaDrawBytes
import Derived.Deep.RegionWith
namespace Go.Proofs.Ytmigcglcacpboaa
open Go Go.RowKit

theorem quotePutB_size (s : ByteArray) : (quotePutB s).size ≤ 720 := by
  unfold quotePutB
  split
  · show (quoteL s.data.toList).length ≤ 720
    have := (quoteL_len s.data.toList).2
    have e : s.data.toList.length = s.size := by simp
    omega
  · exact Nat.zero_le _
theorem quotePutB_le {s : ByteArray} (h : s.size ≤ 240) : s.size ≤ (quotePutB s).size := by
  unfold quotePutB
  rw [if_pos h]
  show s.size ≤ (quoteL s.data.toList).length
  have := (quoteL_len s.data.toList).1
  have e : s.data.toList.length = s.size := by simp
  omega
theorem quotePutB_split {s : ByteArray} {k : Nat} (h : s.size ≤ 240) (hk : k ≤ s.size) : quotePutB (s.extract 0 k) ++ quotePutB (s.extract k s.size) = quotePutB s := by
  have e1 : (s.extract 0 k).size ≤ 240 := by rw [ByteArray.size_extract]; omega
  have e2 : (s.extract k s.size).size ≤ 240 := by rw [ByteArray.size_extract]; omega
  have key : (quotePutB (s.extract 0 k) ++ quotePutB (s.extract k s.size)).data.toList = (quotePutB s).data.toList := by
    rw [app_dataq, quotePutB_data e1, quotePutB_data e2, quotePutB_data h, ← quoteL_append]
    congr 1
    have h1 : (s.extract 0 k).data.toList = s.data.toList.take k := by
      rw [ByteArray.data_extract, Array.toList_extract, List.extract_eq_take_drop, List.drop_zero, Nat.sub_zero]
    rw [h1, Lib.extract_to_end, List.take_append_drop]
  exact (by generalize quotePutB (s.extract 0 k) ++ quotePutB (s.extract k s.size) = a at key; generalize quotePutB s = b at key; cases a; cases b; simp_all)

theorem drawQuotePut_any (ao : Option Addr) (len cap : Nat) (w : World) (hr : ByteRow w ao len) (hl : len ≤ cap) (hc : cap ≤ maxLen) :
    Calls Try.prog 7 #[.slice ao len cap] w fun e w' => ∃ s : ByteArray, s.size ≤ 241 ∧ e = .returned (.string s) ∧ Below w.heap.size w w' := by
  have C := Lib.hid (fun W h1 => l20Open_any ao len cap W h1 hl hc)
  have HR := Lib.hid hr
  clear hr hl hc
  go_enter Try.func7, Try.ntmps7
  go_wp2_with fail
  refine (C.out _ HR.out).mono ?_
  rintro e w1 ⟨b, rfl, h1, b1⟩
  have H1 := Lib.hid h1
  have B1 := Lib.hid b1
  clear h1 b1
  go_wp2_with fail
  refine (l20Bytes_any _ b _ _ H1.out (by omega)).mono ?_
  rintro e w2 ⟨s, hs, rfl, h2, g2⟩
  have B2 := Lib.hid (B1.out.trans (H1.out.below g2 (Nat.le_refl _)))
  clear h2 g2
  go_wp2
  go_ret
  exact ⟨s, hs, rfl, B2.out⟩

def quoteX : List ByteArray := [⟨#[61, 51, 68]⟩, ⟨#[61, 51, 100]⟩, ⟨#[61]⟩, ⟨#[61, 52]⟩, ⟨#[61, 52, 49]⟩, ⟨#[97, 32, 98]⟩, ⟨#[61, 50, 48]⟩]
theorem drawQuoteGet_any (ao : Option Addr) (len cap : Nat) (w : World) (hr : ByteRow w ao len) (hl : len ≤ cap) (hc : cap ≤ maxLen) :
    Calls Try.prog 11 #[.slice ao len cap] w fun e w' => ∃ s : ByteArray, s.size ≤ 1000 ∧ e = .returned (.string s) ∧ Below w.heap.size w w' := by
  have C := Lib.hid (fun W h1 => l20Open_any ao len cap W h1 hl hc)
  have HR := Lib.hid hr
  clear hr hl hc
  go_enter Try.func11, Try.ntmps11
  go_wp2_with fail
  refine (C.out _ HR.out).mono ?_
  rintro e w1 ⟨b, rfl, h1, b1⟩
  have H1 := Lib.hid h1
  have B1 := Lib.hid b1
  clear h1 b1
  go_wp2_with fail
  refine (l20Bytes_any _ b _ _ H1.out (by omega)).mono ?_
  rintro e w2 ⟨s, hs, rfl, h2, g2⟩
  have B2 := Lib.hid (B1.out.trans (H1.out.below g2 (Nat.le_refl _)))
  have H2 := Lib.hid h2
  clear h2 g2 H1 B1
  have CQ := Lib.hid (fun W => specQuotePut_any s W (by unfold maxLen; omega))
  have hz := quotePutB_size s
  generalize quotePutB s = t at CQ hz
  go_wp2_with fail
  refine (CQ.out _).mono ?_
  rintro e w3 ⟨rfl, b3⟩
  have B3 := Lib.hid (B2.out.trans (b3.mono B2.out.size))
  have H3 := Lib.hid (H2.out.later b3)
  clear b3 H2 B2
  go_wp2_with fail
  refine (pick_at 3 H3.out rfl (by omega) (by decide) (by decide)).mono ?_
  rintro e w4 ⟨k, rfl, hk, h4, g4⟩
  have B4 := Lib.hid (B3.out.trans (H3.out.below g4 (Nat.le_refl _)))
  have H4 := Lib.hid h4
  clear h4 g4 H3 B3
  by_cases k0 : 0 < k
  · go_wp2
    go_ret
    exact ⟨t, by omega, rfl, B4.out⟩
  · go_wp2_with fail
    refine (l20Bent_any _ b _ t _ H4.out (by omega) (by omega)).mono ?_
    rintro e w5 ⟨x, hx, rfl, h5, g5⟩
    have B5 := Lib.hid (B4.out.trans (H4.out.below g5 (Nat.le_refl _)))
    have H5 := Lib.hid h5
    clear h5 g5 H4 B4
    go_wp2_with fail
    refine (of_at' (x :: quoteX) H5.out (by simp) (by omega) rfl rfl (by simp) (by simp [quoteX])).mono ?_
    rintro e w6 ⟨y, hy, rfl, h6, g6⟩
    have B6 := Lib.hid (B5.out.trans (H5.out.below g6 (Nat.le_refl _)))
    have hyz : y.size ≤ 1000 := by
      rcases List.mem_cons.1 hy with rfl | hy
      · omega
      · have : y.size ≤ 3 := small_in (by decide) hy
        omega
    clear h6 g6 hy
    go_wp2
    go_ret
    exact ⟨y, hyz, rfl, B6.out⟩

set_option maxHeartbeats 2000000 in
set_option maxRecDepth 100000 in
theorem wFnQuoteGet.walk (ao : Option Addr) (len cap : Nat) (w : World) (hr : ByteRow w ao len) (hl : len ≤ cap) (hc : cap ≤ maxLen) (_ : True) :
    Calls Try.prog 4 #[.slice ao len cap] w fun e w' => e = .returned (.bool true) ∧ Below w.heap.size w w' := by
  have hc' := hc
  unfold maxLen at hc'
  by_cases hbig : 1048576 < len
  · clear hr
    go_enter Try.func4, Try.ntmps4
    go_wp2
    go_ret
    exact ⟨rfl, Below.refl _ _⟩
  have CD := Lib.hid (drawQuoteGet_any ao len cap w hr hl hc)
  clear hr hc
  go_enter Try.func4, Try.ntmps4
  go_wp2_with fail
  refine CD.out.mono ?_
  rintro e w1 ⟨s, zs, rfl, b1⟩
  have B1 := Lib.hid b1
  clear b1 CD
  have C := Lib.hid (fun w => specQuoteGet_any s w (by omega))
  have D := Lib.hid (fun w => implQuoteGet_any s w (by omega))
  have hcs := Lib.hid (quoteGetB_cases s)
  generalize quoteGetB s = pr at C D hcs
  obtain ⟨p, b⟩ := pr
  have q : (p.toList == p.toList) = true := by simp
  have qb : (b == b) = true := by simp
  go_wp2_with fail
  refine (D.out _).mono ?_
  rintro e w2 ⟨rfl, b2⟩
  have B2 := Lib.hid (B1.out.trans (b2.mono B1.out.size))
  clear b2 B1
  go_wp2_with fail
  refine (C.out _).mono ?_
  rintro e w3 ⟨rfl, b3⟩
  have B3 := Lib.hid (B2.out.trans (b3.mono B2.out.size))
  clear b3 B2 C D
  cases b
  · go_wp2
    go_ret
    exact ⟨rfl, B3.out⟩
  · have hu : Hid (p.size ≤ 240 ∧ quotePutB p = s ∧ p.size ≤ s.size) := Lib.hid (by
      rcases hcs.out with ⟨u, hu, e1, e2⟩ | ⟨_, e2⟩
      · obtain rfl : p = u := congrArg Prod.fst e2
        exact ⟨hu, e1.symm, by rw [e1]; exact quotePutB_le hu⟩
      · exact absurd (congrArg Prod.snd e2) (by simp))
    have CP : Hid (∀ W, Calls Try.prog 8 #[.string p] W fun e w' => e = .returned (.string s) ∧ Below W.heap.size W w') := Lib.hid (fun W => by
      have := implQuotePut_any p W (by have := hu.out.1; unfold maxLen; omega)
      rw [hu.out.2.1] at this
      exact this)
    have hps := hu.out.2.2
    have q2 : (s.toList == s.toList) = true := by simp
    clear hcs
    go_wp2_with fail
    refine (CP.out _).mono ?_
    rintro e w4 ⟨rfl, b4⟩
    have B4 := Lib.hid (B3.out.trans (b4.mono B3.out.size))
    clear b4 B3
    go_wp2
    go_ret
    exact ⟨rfl, B4.out⟩

set_option maxHeartbeats 4000000 in
set_option maxRecDepth 100000 in
theorem wFnQuotePut.walk (ao : Option Addr) (len cap : Nat) (bo : Option Addr) (len2 cap2 : Nat) (w : World) (hr : ByteRow w ao len) (hl : len ≤ cap) (hc : cap ≤ maxLen) (_hr2 : ByteRow w bo len2) (_hl2 : len2 ≤ cap2) (hc2 : cap2 ≤ maxLen) (_ : True) :
    Calls Try.prog 3 #[.slice ao len cap, .slice bo len2 cap2] w fun e w' => e = .returned (.bool true) ∧ Below w.heap.size w w' := by
  have hc' := hc
  have hc2' := hc2
  unfold maxLen at hc' hc2'
  by_cases hbig : 1048576 < len
  · clear hr
    go_enter Try.func3, Try.ntmps3
    go_wp2
    go_ret
    exact ⟨rfl, Below.refl _ _⟩
  by_cases hbig2 : 1048576 < len2
  · clear hr
    go_enter Try.func3, Try.ntmps3
    go_wp2
    go_ret
    exact ⟨rfl, Below.refl _ _⟩
  have CD := Lib.hid (drawQuotePut_any ao len cap w hr hl hc)
  clear hr hc hc2
  go_enter Try.func3, Try.ntmps3
  go_wp2_with fail
  refine CD.out.mono ?_
  rintro e w1 ⟨s, zs, rfl, b1⟩
  have B1 := Lib.hid b1
  clear b1 CD
  have C := Lib.hid (fun w => specQuotePut_any s w (by unfold maxLen; omega))
  have D := Lib.hid (fun w => implQuotePut_any s w (by unfold maxLen; omega))
  obtain ⟨t, ht⟩ : ∃ t, quotePutB s = t := ⟨_, rfl⟩
  rw [ht] at C D
  have HT := Lib.hid ht
  have qt : (t.toList == t.toList) = true := by simp
  clear ht
  go_wp2_with fail
  refine (D.out _).mono ?_
  rintro e w2 ⟨rfl, b2⟩
  have B2 := Lib.hid (B1.out.trans (b2.mono B1.out.size))
  clear b2 B1 D
  go_wp2_with fail
  refine (C.out _).mono ?_
  rintro e w3 ⟨rfl, b3⟩
  have B3 := Lib.hid (B2.out.trans (b3.mono B2.out.size))
  clear b3 B2
  by_cases h240 : 240 < s.size
  · go_wp2_with fail
    refine (C.out _).mono ?_
    rintro e w4 ⟨rfl, b4⟩
    have B4 := Lib.hid (B3.out.trans (b4.mono B3.out.size))
    clear b4 B3
    go_wp2
    go_ret
    exact ⟨rfl, B4.out⟩
  · have CG : Hid (∀ W, Calls Try.prog 10 #[.string t] W fun e w' => e = .returned (.tuple #[.string s, .bool true]) ∧ Below W.heap.size W w') := Lib.hid (fun W => by
      have hz := quotePutB_size s
      rw [HT.out] at hz
      have := implQuoteGet_any t W (by omega)
      rw [← HT.out, quoteGetB_put (by omega)] at this
      rw [← HT.out]
      exact this)
    obtain ⟨k, hk⟩ : ∃ k, k = len2 % (s.size + 1) := ⟨_, rfl⟩
    have hks : k ≤ s.size := by have := Nat.mod_lt len2 (show 0 < s.size + 1 by omega); omega
    have hsp := quotePutB_split (s := s) (by omega) hks
    rw [HT.out] at hsp
    have C1 := Lib.hid (fun w => implQuotePut_any (s.extract 0 k) w (by rw [ByteArray.size_extract]; unfold maxLen; omega))
    have C2 := Lib.hid (fun w => implQuotePut_any (s.extract k s.size) w (by rw [ByteArray.size_extract]; unfold maxLen; omega))
    have z1 := quotePutB_size (s.extract 0 k)
    have z2 := quotePutB_size (s.extract k s.size)
    generalize quotePutB (s.extract 0 k) = p1 at C1 hsp z1
    generalize quotePutB (s.extract k s.size) = p2 at C2 hsp z2
    have z3 : p1.size + p2.size ≤ 9223372036854775807 := by omega
    have z4 : ¬ 9223372036854775807 < p1.size + p2.size := by omega
    have q1 : (len2 : Int) % ((s.size : Int) + 1) = (k : Int) := by rw [hk]; exact (Int.natCast_emod len2 (s.size + 1)).symm
    have q2 : (len2 : Int).tmod ((s.size : Int) + 1) = (k : Int) := by rw [Int.tmod_eq_emod_of_nonneg (by omega)]; exact q1
    have qs : (s.toList == s.toList) = true := by simp
    have i1 : (k : Int) ≤ (s.size : Int) := by omega
    clear C hk
    go_wp2_with fail
    refine (CG.out _).mono ?_
    rintro e w4 ⟨rfl, b4⟩
    have B4 := Lib.hid (B3.out.trans (b4.mono B3.out.size))
    clear b4 B3 CG
    have hz4 := B4.out.size
    go_wp2_with fail
    refine wp_region_any (by kernel_rfl) ?_
    try (change wpAny _ _ _ _ _ _ _ (World.drew _))
    refine wpAny_take (i := 0) (v := ?_) rfl (by kernel_rfl) (by kernel_rfl) (by kernel_rfl) (fun _ _ _ h => h) (Or.inl ⟨by rfl, ?_⟩) ?_
    rotate_left
    · intro w
      go_simp
      first | done | with_reducible rfl
    rotate_left
    try simp only [Act.put, List.getElem_toArray, List.getElem_cons_zero, List.setIfInBounds_toArray, List.set_cons_succ, List.set_cons_zero]
    refine wpAny_take (i := 1) (v := ?_) rfl (by kernel_rfl) (by kernel_rfl) (by kernel_rfl) (fun _ _ _ h => h) (Or.inl ⟨by rfl, ?_⟩) ?_
    rotate_left
    · intro w
      go_simp
      first | done | with_reducible rfl
    rotate_left
    try simp only [Act.put, List.getElem_toArray, List.getElem_cons_succ, List.getElem_cons_zero, List.setIfInBounds_toArray, List.set_cons_succ, List.set_cons_zero]
    refine wpAny_take (i := 2) (v := ?_) rfl (by kernel_rfl) (by kernel_rfl) (by kernel_rfl) (fun _ _ _ h => h) (Or.inl ⟨by rfl, ?_⟩) ?_
    rotate_left
    · intro w
      go_simp
      first | done | with_reducible rfl
    rotate_left
    try simp only [Act.put, List.getElem_toArray, List.getElem_cons_succ, List.getElem_cons_zero, List.setIfInBounds_toArray, List.set_cons_succ, List.set_cons_zero]
    refine wpAny_take (i := 3) (v := ?_) rfl (by kernel_rfl) (by kernel_rfl) (by kernel_rfl) (fun _ _ _ h => h) (Or.inl ⟨by rfl, ?_⟩) ?_
    rotate_left
    · intro w
      go_simp
      first | done | with_reducible rfl
    rotate_left
    try simp only [Act.put, List.getElem_toArray, List.getElem_cons_succ, List.getElem_cons_zero, List.setIfInBounds_toArray, List.set_cons_succ, List.set_cons_zero]
    refine wpAny_take (i := 4) (v := ?_) rfl (by kernel_rfl) (by kernel_rfl) (by kernel_rfl) (fun _ _ _ h => h) (Or.inl ⟨by rfl, ?_⟩) ?_
    rotate_left
    · intro w
      go_simp
      first | done | with_reducible rfl
    rotate_left
    try simp only [Act.put, List.getElem_toArray, List.getElem_cons_succ, List.getElem_cons_zero, List.setIfInBounds_toArray, List.set_cons_succ, List.set_cons_zero]
    refine wpAny_take (i := 5) (v := ?_) rfl (by kernel_rfl) (by kernel_rfl) (by kernel_rfl) (fun _ _ _ h => h) (Or.inl ⟨by rfl, ?_⟩) ?_
    rotate_left
    · intro w
      go_simp
      first | done | with_reducible rfl
    rotate_left
    try simp only [Act.put, List.getElem_toArray, List.getElem_cons_succ, List.getElem_cons_zero, List.setIfInBounds_toArray, List.set_cons_succ, List.set_cons_zero]
    refine wpAny_take (i := 6) (v := ?_) rfl (by kernel_rfl) (by kernel_rfl) (by kernel_rfl) (fun _ _ _ h => h) (Or.inl ⟨by rfl, ?_⟩) ?_
    rotate_left
    · intro w
      go_simp
      first | done | with_reducible rfl
    rotate_left
    try simp only [Act.put, List.getElem_toArray, List.getElem_cons_succ, List.getElem_cons_zero, List.setIfInBounds_toArray, List.set_cons_succ, List.set_cons_zero]
    refine wpAny_take (i := 7) (v := ?_) rfl (by kernel_rfl) (by kernel_rfl) (by kernel_rfl) (fun _ _ _ h => h) (Or.inl ⟨by rfl, ?_⟩) ?_
    rotate_left
    · intro w
      go_simp
      first | done | with_reducible rfl
    rotate_left
    try simp only [Act.put, List.getElem_toArray, List.getElem_cons_succ, List.getElem_cons_zero, List.setIfInBounds_toArray, List.set_cons_succ, List.set_cons_zero]
    refine wpAny_take (i := 8) (v := ?_) rfl (by kernel_rfl) (by kernel_rfl) (by kernel_rfl) (fun _ _ _ h => h) (Or.inl ⟨by rfl, ?_⟩) ?_
    rotate_left
    · intro w
      go_simp
      first | done | with_reducible rfl
    rotate_left
    try simp only [Act.put, List.getElem_toArray, List.getElem_cons_succ, List.getElem_cons_zero, List.setIfInBounds_toArray, List.set_cons_succ, List.set_cons_zero]
    refine wpAny_take (i := 9) (v := ?_) rfl (by kernel_rfl) (by kernel_rfl) (by kernel_rfl) (fun _ _ _ h => h) (Or.inl ⟨by rfl, ?_⟩) ?_
    rotate_left
    · intro w
      go_simp
      first | done | with_reducible rfl
    rotate_left
    try simp only [Act.put, List.getElem_toArray, List.getElem_cons_succ, List.getElem_cons_zero, List.setIfInBounds_toArray, List.set_cons_succ, List.set_cons_zero]
    refine wpAny_take (i := 11) (v := ?_) rfl (by kernel_rfl) (by kernel_rfl) (by kernel_rfl) (fun _ _ _ h => h) (Or.inl ⟨by rfl, ?_⟩) ?_
    rotate_left
    · intro w
      go_simp
      first | done | with_reducible rfl
    rotate_left
    try simp only [Act.put, List.getElem_toArray, List.getElem_cons_succ, List.getElem_cons_zero, List.setIfInBounds_toArray, List.set_cons_succ, List.set_cons_zero]
    refine wpAny_take (i := 12) (v := ?_) rfl (by kernel_rfl) (by kernel_rfl) (by kernel_rfl) (fun _ _ _ h => h) (Or.inl ⟨by rfl, ?_⟩) ?_
    rotate_left
    · intro w
      go_simp
      first | done | with_reducible rfl
    rotate_left
    try simp only [Act.put, List.getElem_toArray, List.getElem_cons_succ, List.getElem_cons_zero, List.setIfInBounds_toArray, List.set_cons_succ, List.set_cons_zero]
    refine wpAny_take (i := 13) (v := ?_) rfl (by kernel_rfl) (by kernel_rfl) (by kernel_rfl) (fun _ _ _ h => h) (Or.inl ⟨by rfl, ?_⟩) ?_
    rotate_left
    · intro w
      go_simp
      first | done | with_reducible rfl
    rotate_left
    try simp only [Act.put, List.getElem_toArray, List.getElem_cons_succ, List.getElem_cons_zero, List.setIfInBounds_toArray, List.set_cons_succ, List.set_cons_zero]
    refine wpAny_take (i := 16) (v := ?_) rfl (by kernel_rfl) (by kernel_rfl) (by kernel_rfl) (fun _ _ _ h => h) (Or.inl ⟨by rfl, ?_⟩) ?_
    rotate_left
    · intro w
      go_simp
      first | done | with_reducible rfl
    rotate_left
    try simp only [Act.put, List.getElem_toArray, List.getElem_cons_succ, List.getElem_cons_zero, List.setIfInBounds_toArray, List.set_cons_succ, List.set_cons_zero]
    refine wpAny_ready (rs := [10]) (by kernel_rfl) (by simp) ?_
    refine AllReady.cons rfl (fun K hK => ?_) AllReady.nil
    go_simp
    refine (C1.out _).mono ?_
    rintro e w5 ⟨rfl, b5⟩
    refine hK _ _ ?_
    clear hK K
    try simp only [Act.put, List.getElem_toArray, List.getElem_cons_succ, List.getElem_cons_zero, List.setIfInBounds_toArray, List.set_cons_succ, List.set_cons_zero]
    refine wpAny_ready (rs := [14]) (by kernel_rfl) (by simp) ?_
    refine AllReady.cons rfl (fun K hK => ?_) AllReady.nil
    go_simp
    refine (C2.out _).mono ?_
    rintro e w6 ⟨rfl, b6⟩
    refine hK _ _ ?_
    clear hK K
    try simp only [Act.put, List.getElem_toArray, List.getElem_cons_succ, List.getElem_cons_zero, List.setIfInBounds_toArray, List.set_cons_succ, List.set_cons_zero]
    have B5 := Lib.hid (B4.out.drew.trans (b5.mono (show w.heap.size ≤ w4.drew.heap.size from hz4)))
    have B6 := Lib.hid (B5.out.trans (b6.mono B5.out.size))
    clear b5 b6 B4 B5
    refine wpAny_take (i := 15) (v := ?_) rfl (by kernel_rfl) (by kernel_rfl) (by kernel_rfl) (fun _ _ _ h => h) (Or.inl ⟨by rfl, ?_⟩) ?_
    rotate_left
    · intro w
      go_simp
      first | done | with_reducible rfl
    rotate_left
    try simp only [Act.put, List.getElem_toArray, List.getElem_cons_succ, List.getElem_cons_zero, List.setIfInBounds_toArray, List.set_cons_succ, List.set_cons_zero]
    refine wpAny_take (i := 17) (v := ?_) rfl (by kernel_rfl) (by kernel_rfl) (by kernel_rfl) (fun _ _ _ h => h) (Or.inl ⟨by rfl, ?_⟩) ?_
    rotate_left
    · intro w
      go_simp
      first | done | with_reducible rfl
    rotate_left
    try simp only [Act.put, List.getElem_toArray, List.getElem_cons_succ, List.getElem_cons_zero, List.setIfInBounds_toArray, List.set_cons_succ, List.set_cons_zero]
    refine wpAny_take (i := 18) (v := ?_) rfl (by kernel_rfl) (by kernel_rfl) (by kernel_rfl) (fun _ _ _ h => h) (Or.inl ⟨by rfl, ?_⟩) ?_
    rotate_left
    · intro w
      go_simp
      first | done | with_reducible rfl
    rotate_left
    try simp only [Act.put, List.getElem_toArray, List.getElem_cons_succ, List.getElem_cons_zero, List.setIfInBounds_toArray, List.set_cons_succ, List.set_cons_zero]
    refine wpAny_take (i := 19) (v := ?_) rfl (by kernel_rfl) (by kernel_rfl) (by kernel_rfl) (fun _ _ _ h => h) (Or.inl ⟨by rfl, ?_⟩) ?_
    rotate_left
    · intro w
      go_simp
      first | done | with_reducible rfl
    rotate_left
    try simp only [Act.put, List.getElem_toArray, List.getElem_cons_succ, List.getElem_cons_zero, List.setIfInBounds_toArray, List.set_cons_succ, List.set_cons_zero]
    refine wpAny_done (by kernel_rfl) ?_ _
    go_wp2
    go_ret
    exact ⟨rfl, B6.out⟩
end Go.Proofs.Ytmigcglcacpboaa
