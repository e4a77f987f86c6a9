/- Contracts: the program's code of a malformed reply: whatever the order that is drawn, the one panic. -/
import Derived.Test.YtckcjchkegknhaaReply
namespace Go.Proofs.Ytckcjchkegknhaa
open Go Go.RowKit

set_option maxHeartbeats 1000000 in
theorem codeOf_bad0 (s : ByteArray) (w : World) (hs : s.size ≤ maxLen) (h : 4 ≤ s.size) (h3 : s[3].toNat = 32) (h0 : ¬ (50 ≤ s[0].toNat ∧ s[0].toNat ≤ 53)) :
    Calls Try.prog 17 #[.string s] w fun e w' => e = .panicked bad ∧ ∃ n, w' = w.drewN n := by
  unfold maxLen at hs
  have e3 : ((s[3].toNat : Int) != 32) = false := by rw [bne_eq_false_iff_eq]; omega
  obtain ⟨n0, q0⟩ : ∃ n, s[0].toNat = n := ⟨_, rfl⟩
  obtain ⟨n1, q1⟩ : ∃ n, s[1].toNat = n := ⟨_, rfl⟩
  obtain ⟨n2, q2⟩ : ∃ n, s[2].toNat = n := ⟨_, rfl⟩
  rw [q0] at h0
  have D0 : Hid (∀ w, Calls Try.prog 25 #[.int .u8 50, .int .u8 53, .int .u8 (n0 : Int)] w fun e w' => e = .panicked bad ∧ w = w') := Lib.hid fun w => digitIn_bad 50 53 n0 w (by omega)
  have i0 : 0 < s.size := by omega
  have j0 : (0 : Int) < (s.size : Int) := by omega
  have i1 : 1 < s.size := by omega
  have j1 : (1 : Int) < (s.size : Int) := by omega
  have i2 : 2 < s.size := by omega
  have j2 : (2 : Int) < (s.size : Int) := by omega
  clear h3 h0
  go_enter Try.func17, Try.ntmps17
  go_wp2
  refine wp_region_any (by kernel_rfl) ?_
  try (change wpAny _ _ _ _ _ _ _ (World.drew _))
  refine wpAny_take (i := 0) (v := ?_) rfl (by kernel_rfl) (by kernel_rfl) (by kernel_rfl) (fun _ _ _ h => h) (Or.inl ⟨by rfl, ?_⟩) ?_
  rotate_left
  · intro w
    go_simp
    first | done | with_reducible rfl
  rotate_left
  refine wpAny_take (i := 1) (v := ?_) rfl (by kernel_rfl) (by kernel_rfl) (by kernel_rfl) (fun _ _ _ h => h) (Or.inl ⟨by rfl, ?_⟩) ?_
  rotate_left
  · intro w
    go_simp
    first | done | with_reducible rfl
  rotate_left
  refine wpAny_take (i := 4) (v := ?_) rfl (by kernel_rfl) (by kernel_rfl) (by kernel_rfl) (fun _ _ _ h => h) (Or.inl ⟨by rfl, ?_⟩) ?_
  rotate_left
  · intro w
    go_simp
    first | done | with_reducible rfl
  rotate_left
  refine wpAny_take (i := 5) (v := ?_) rfl (by kernel_rfl) (by kernel_rfl) (by kernel_rfl) (fun _ _ _ h => h) (Or.inl ⟨by rfl, ?_⟩) ?_
  rotate_left
  · intro w
    go_simp
    first | done | with_reducible rfl
  rotate_left
  refine wpAny_take (i := 9) (v := ?_) rfl (by kernel_rfl) (by kernel_rfl) (by kernel_rfl) (fun _ _ _ h => h) (Or.inl ⟨by rfl, ?_⟩) ?_
  rotate_left
  · intro w
    go_simp
    first | done | with_reducible rfl
  rotate_left
  refine wpAny_take (i := 10) (v := ?_) rfl (by kernel_rfl) (by kernel_rfl) (by kernel_rfl) (fun _ _ _ h => h) (Or.inl ⟨by rfl, ?_⟩) ?_
  rotate_left
  · intro w
    go_simp
    first | done | with_reducible rfl
  rotate_left
  refine wpAny_ready (rs := [2]) (by kernel_rfl) (by simp) ?_
  refine AllReady.cons rfl (fun K hK => ?_) AllReady.nil
  go_simp
  refine (D0.out _).mono ?_
  rintro e w' ⟨rfl, rfl⟩
  exact ⟨rfl, rfl, 1, rfl⟩

set_option maxHeartbeats 1000000 in
theorem codeOf_bad1 (s : ByteArray) (w : World) (hs : s.size ≤ maxLen) (h : 4 ≤ s.size) (h3 : s[3].toNat = 32) (h0 : 50 ≤ s[0].toNat ∧ s[0].toNat ≤ 53) (h1 : ¬ (48 ≤ s[1].toNat ∧ s[1].toNat ≤ 57)) :
    Calls Try.prog 17 #[.string s] w fun e w' => e = .panicked bad ∧ ∃ n, w' = w.drewN n := by
  unfold maxLen at hs
  have e3 : ((s[3].toNat : Int) != 32) = false := by rw [bne_eq_false_iff_eq]; omega
  obtain ⟨n0, q0⟩ : ∃ n, s[0].toNat = n := ⟨_, rfl⟩
  obtain ⟨n1, q1⟩ : ∃ n, s[1].toNat = n := ⟨_, rfl⟩
  obtain ⟨n2, q2⟩ : ∃ n, s[2].toNat = n := ⟨_, rfl⟩
  rw [q0] at h0
  rw [q1] at h1
  have D0 : Hid (∀ w, Calls Try.prog 25 #[.int .u8 50, .int .u8 53, .int .u8 (n0 : Int)] w fun e w' => e = .returned (.int .i64 ((n0 : Int) - 48)) ∧ w = w') := Lib.hid fun w => digitIn_ok 50 53 n0 w (by omega) (by omega) (by omega)
  have D1 : Hid (∀ w, Calls Try.prog 25 #[.int .u8 48, .int .u8 57, .int .u8 (n1 : Int)] w fun e w' => e = .panicked bad ∧ w = w') := Lib.hid fun w => digitIn_bad 48 57 n1 w (by omega)
  have i0 : 0 < s.size := by omega
  have j0 : (0 : Int) < (s.size : Int) := by omega
  have i1 : 1 < s.size := by omega
  have j1 : (1 : Int) < (s.size : Int) := by omega
  have i2 : 2 < s.size := by omega
  have j2 : (2 : Int) < (s.size : Int) := by omega
  clear h3 h0 h1
  go_enter Try.func17, Try.ntmps17
  go_wp2
  refine wp_region_any (by kernel_rfl) ?_
  try (change wpAny _ _ _ _ _ _ _ (World.drew _))
  refine wpAny_take (i := 0) (v := ?_) rfl (by kernel_rfl) (by kernel_rfl) (by kernel_rfl) (fun _ _ _ h => h) (Or.inl ⟨by rfl, ?_⟩) ?_
  rotate_left
  · intro w
    go_simp
    first | done | with_reducible rfl
  rotate_left
  refine wpAny_take (i := 1) (v := ?_) rfl (by kernel_rfl) (by kernel_rfl) (by kernel_rfl) (fun _ _ _ h => h) (Or.inl ⟨by rfl, ?_⟩) ?_
  rotate_left
  · intro w
    go_simp
    first | done | with_reducible rfl
  rotate_left
  refine wpAny_take (i := 4) (v := ?_) rfl (by kernel_rfl) (by kernel_rfl) (by kernel_rfl) (fun _ _ _ h => h) (Or.inl ⟨by rfl, ?_⟩) ?_
  rotate_left
  · intro w
    go_simp
    first | done | with_reducible rfl
  rotate_left
  refine wpAny_take (i := 5) (v := ?_) rfl (by kernel_rfl) (by kernel_rfl) (by kernel_rfl) (fun _ _ _ h => h) (Or.inl ⟨by rfl, ?_⟩) ?_
  rotate_left
  · intro w
    go_simp
    first | done | with_reducible rfl
  rotate_left
  refine wpAny_take (i := 9) (v := ?_) rfl (by kernel_rfl) (by kernel_rfl) (by kernel_rfl) (fun _ _ _ h => h) (Or.inl ⟨by rfl, ?_⟩) ?_
  rotate_left
  · intro w
    go_simp
    first | done | with_reducible rfl
  rotate_left
  refine wpAny_take (i := 10) (v := ?_) rfl (by kernel_rfl) (by kernel_rfl) (by kernel_rfl) (fun _ _ _ h => h) (Or.inl ⟨by rfl, ?_⟩) ?_
  rotate_left
  · intro w
    go_simp
    first | done | with_reducible rfl
  rotate_left
  refine wpAny_ready (rs := [2]) (by kernel_rfl) (by simp) ?_
  refine AllReady.cons rfl (fun K hK => ?_) AllReady.nil
  go_simp
  refine (D0.out _).mono ?_
  rintro e w' ⟨rfl, rfl⟩
  refine hK _ _ ?_
  clear hK K
  refine wpAny_take (i := 3) (v := ?_) rfl (by kernel_rfl) (by kernel_rfl) (by kernel_rfl) (fun _ _ _ h => h) (Or.inl ⟨by rfl, ?_⟩) ?_
  rotate_left
  · intro w
    go_simp
    first | done | with_reducible rfl
  rotate_left
  refine wpAny_ready (rs := [6]) (by kernel_rfl) (by simp) ?_
  refine AllReady.cons rfl (fun K hK => ?_) AllReady.nil
  go_simp
  refine (D1.out _).mono ?_
  rintro e w' ⟨rfl, rfl⟩
  exact ⟨rfl, rfl, 1, rfl⟩

set_option maxHeartbeats 1000000 in
theorem codeOf_bad2 (s : ByteArray) (w : World) (hs : s.size ≤ maxLen) (h : 4 ≤ s.size) (h3 : s[3].toNat = 32) (h0 : 50 ≤ s[0].toNat ∧ s[0].toNat ≤ 53) (h1 : 48 ≤ s[1].toNat ∧ s[1].toNat ≤ 57) (h2 : ¬ (48 ≤ s[2].toNat ∧ s[2].toNat ≤ 57)) :
    Calls Try.prog 17 #[.string s] w fun e w' => e = .panicked bad ∧ ∃ n, w' = w.drewN n := by
  unfold maxLen at hs
  have e3 : ((s[3].toNat : Int) != 32) = false := by rw [bne_eq_false_iff_eq]; omega
  obtain ⟨n0, q0⟩ : ∃ n, s[0].toNat = n := ⟨_, rfl⟩
  obtain ⟨n1, q1⟩ : ∃ n, s[1].toNat = n := ⟨_, rfl⟩
  obtain ⟨n2, q2⟩ : ∃ n, s[2].toNat = n := ⟨_, rfl⟩
  rw [q0] at h0
  rw [q1] at h1
  rw [q2] at h2
  have D0 : Hid (∀ w, Calls Try.prog 25 #[.int .u8 50, .int .u8 53, .int .u8 (n0 : Int)] w fun e w' => e = .returned (.int .i64 ((n0 : Int) - 48)) ∧ w = w') := Lib.hid fun w => digitIn_ok 50 53 n0 w (by omega) (by omega) (by omega)
  have D1 : Hid (∀ w, Calls Try.prog 25 #[.int .u8 48, .int .u8 57, .int .u8 (n1 : Int)] w fun e w' => e = .returned (.int .i64 ((n1 : Int) - 48)) ∧ w = w') := Lib.hid fun w => digitIn_ok 48 57 n1 w (by omega) (by omega) (by omega)
  have D2 : Hid (∀ w, Calls Try.prog 25 #[.int .u8 48, .int .u8 57, .int .u8 (n2 : Int)] w fun e w' => e = .panicked bad ∧ w = w') := Lib.hid fun w => digitIn_bad 48 57 n2 w (by omega)
  have i0 : 0 < s.size := by omega
  have j0 : (0 : Int) < (s.size : Int) := by omega
  have i1 : 1 < s.size := by omega
  have j1 : (1 : Int) < (s.size : Int) := by omega
  have i2 : 2 < s.size := by omega
  have j2 : (2 : Int) < (s.size : Int) := by omega
  clear h3 h0 h1 h2
  go_enter Try.func17, Try.ntmps17
  go_wp2
  refine wp_region_any (by kernel_rfl) ?_
  try (change wpAny _ _ _ _ _ _ _ (World.drew _))
  refine wpAny_take (i := 0) (v := ?_) rfl (by kernel_rfl) (by kernel_rfl) (by kernel_rfl) (fun _ _ _ h => h) (Or.inl ⟨by rfl, ?_⟩) ?_
  rotate_left
  · intro w
    go_simp
    first | done | with_reducible rfl
  rotate_left
  refine wpAny_take (i := 1) (v := ?_) rfl (by kernel_rfl) (by kernel_rfl) (by kernel_rfl) (fun _ _ _ h => h) (Or.inl ⟨by rfl, ?_⟩) ?_
  rotate_left
  · intro w
    go_simp
    first | done | with_reducible rfl
  rotate_left
  refine wpAny_take (i := 4) (v := ?_) rfl (by kernel_rfl) (by kernel_rfl) (by kernel_rfl) (fun _ _ _ h => h) (Or.inl ⟨by rfl, ?_⟩) ?_
  rotate_left
  · intro w
    go_simp
    first | done | with_reducible rfl
  rotate_left
  refine wpAny_take (i := 5) (v := ?_) rfl (by kernel_rfl) (by kernel_rfl) (by kernel_rfl) (fun _ _ _ h => h) (Or.inl ⟨by rfl, ?_⟩) ?_
  rotate_left
  · intro w
    go_simp
    first | done | with_reducible rfl
  rotate_left
  refine wpAny_take (i := 9) (v := ?_) rfl (by kernel_rfl) (by kernel_rfl) (by kernel_rfl) (fun _ _ _ h => h) (Or.inl ⟨by rfl, ?_⟩) ?_
  rotate_left
  · intro w
    go_simp
    first | done | with_reducible rfl
  rotate_left
  refine wpAny_take (i := 10) (v := ?_) rfl (by kernel_rfl) (by kernel_rfl) (by kernel_rfl) (fun _ _ _ h => h) (Or.inl ⟨by rfl, ?_⟩) ?_
  rotate_left
  · intro w
    go_simp
    first | done | with_reducible rfl
  rotate_left
  refine wpAny_ready (rs := [2]) (by kernel_rfl) (by simp) ?_
  refine AllReady.cons rfl (fun K hK => ?_) AllReady.nil
  go_simp
  refine (D0.out _).mono ?_
  rintro e w' ⟨rfl, rfl⟩
  refine hK _ _ ?_
  clear hK K
  refine wpAny_take (i := 3) (v := ?_) rfl (by kernel_rfl) (by kernel_rfl) (by kernel_rfl) (fun _ _ _ h => h) (Or.inl ⟨by rfl, ?_⟩) ?_
  rotate_left
  · intro w
    go_simp
    first | done | with_reducible rfl
  rotate_left
  refine wpAny_ready (rs := [6]) (by kernel_rfl) (by simp) ?_
  refine AllReady.cons rfl (fun K hK => ?_) AllReady.nil
  go_simp
  refine (D1.out _).mono ?_
  rintro e w' ⟨rfl, rfl⟩
  refine hK _ _ ?_
  clear hK K
  refine wpAny_take (i := 7) (v := ?_) rfl (by kernel_rfl) (by kernel_rfl) (by kernel_rfl) (fun _ _ _ h => h) (Or.inl ⟨by rfl, ?_⟩) ?_
  rotate_left
  · intro w
    go_simp
    first | done | with_reducible rfl
  rotate_left
  refine wpAny_take (i := 8) (v := ?_) rfl (by kernel_rfl) (by kernel_rfl) (by kernel_rfl) (fun _ _ _ h => h) (Or.inl ⟨by rfl, ?_⟩) ?_
  rotate_left
  · intro w
    go_simp
    first | done | with_reducible rfl
  rotate_left
  refine wpAny_ready (rs := [11]) (by kernel_rfl) (by simp) ?_
  refine AllReady.cons rfl (fun K hK => ?_) AllReady.nil
  go_simp
  refine (D2.out _).mono ?_
  rintro e w' ⟨rfl, rfl⟩
  exact ⟨rfl, rfl, 1, rfl⟩

end Go.Proofs.Ytckcjchkegknhaa
