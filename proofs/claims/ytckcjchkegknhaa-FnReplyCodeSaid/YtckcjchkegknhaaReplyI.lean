/- Contracts: ReplyCode, of the program: a malformed reply's panic is recovered. -/
import Derived.Test.YtckcjchkegknhaaReplyCode
import Derived.Test.YtckcjchkegknhaaReplyBad
namespace Go.Proofs.Ytckcjchkegknhaa
open Go Go.RowKit

theorem drewN_below' {B : Nat} {a w : World} (h : Below B a w) : ∀ n, Below B a (w.drewN n)
  | 0 => h
  | n + 1 => (drewN_below' h n).drew
theorem codeOf_all (s : ByteArray) (w : World) (hs : s.size ≤ maxLen) :
    Calls Try.prog 17 #[.string s] w fun e w' => (e = .returned (.int .i64 (codeB s)) ∨ (e = .panicked bad ∧ codeB s = 0)) ∧ ∃ n, w' = w.drewN n := by
  by_cases h4 : s.size < 4
  · refine (codeOf_short s w hs h4).mono ?_
    rintro e w' ⟨rfl, rfl⟩
    exact ⟨.inr ⟨rfl, codeB_short h4⟩, 0, rfl⟩
  have h : 4 ≤ s.size := by omega
  by_cases h3 : s[3].toNat = 32
  · by_cases h0 : 50 ≤ s[0].toNat ∧ s[0].toNat ≤ 53
    · by_cases h1 : 48 ≤ s[1].toNat ∧ s[1].toNat ≤ 57
      · by_cases h2 : 48 ≤ s[2].toNat ∧ s[2].toNat ≤ 57
        · refine (codeOf_yes s w hs h h3 h0 h1 h2).mono ?_
          rintro e w' ⟨rfl, n, rfl⟩
          exact ⟨.inl rfl, n, rfl⟩
        · refine (codeOf_bad2 s w hs h h3 h0 h1 h2).mono ?_
          rintro e w' ⟨rfl, n, rfl⟩
          exact ⟨.inr ⟨rfl, codeB_no h (fun hh => h2 hh.2.2.2)⟩, n, rfl⟩
      · refine (codeOf_bad1 s w hs h h3 h0 h1).mono ?_
        rintro e w' ⟨rfl, n, rfl⟩
        exact ⟨.inr ⟨rfl, codeB_no h (fun hh => h1 hh.2.2.1)⟩, n, rfl⟩
    · refine (codeOf_bad0 s w hs h h3 h0).mono ?_
      rintro e w' ⟨rfl, n, rfl⟩
      exact ⟨.inr ⟨rfl, codeB_no h (fun hh => h0 hh.2.1)⟩, n, rfl⟩
  · refine (codeOf_blank s w hs h h3).mono ?_
    rintro e w' ⟨rfl, rfl⟩
    exact ⟨.inr ⟨rfl, codeB_no h (fun hh => h3 hh.1)⟩, 0, rfl⟩

theorem as_yes (v : Value) (w : World) : (Instr.typeAssert (.iface 50 v) 20 50 true).run Try.prog w = .ok (.tuple #[v, .bool true]) w := by kernel_rfl
theorem as_nil (w : World) : (Instr.typeAssert .nilIface 20 50 true).run Try.prog w = .ok (.tuple #[.agg #[], .bool false]) w := by kernel_rfl
theorem catch_panicking (b : Nat) (x : Int) (w : World) (hc : w.cell? ⟨b, 0, none⟩ = some (.int .i64 x)) (hz : w.frozen? ⟨b, 0, none⟩ = false) :
    CallsD Try.prog 16 #[.pointer (some ⟨b, 0, none⟩)] (.panicking bad) w fun e u' w' =>
      e = .returned (.tuple #[]) ∧ u' = .panicking [{ v := .iface 50 (.agg #[]), recovered := true }] ∧ w' = (w.alloc (.cells #[] 50)).setCell ⟨b, 0, none⟩ (.int .i64 0) := by
  have hlt := World.block_lt_of_cell? w _ hc
  have hc2 : (w.alloc (.cells #[] 50)).cell? ⟨b, 0, none⟩ = some (.int .i64 x) := (World.cell?_alloc_past _ _ _ hlt).trans hc
  have hz2 : (w.alloc (.cells #[] 50)).frozen? ⟨b, 0, none⟩ = false := (((Below.refl w.heap.size w).alloc (Nat.le_refl _) _).frozen (p := ⟨b, 0, none⟩) hlt).trans hz
  clear hc hz
  refine callsD_of_wpS Try.func16 rfl fun c₀ cs hu => ?_
  apply wpS_seq
  apply wpS_region
  simp [wpOpsS, go_sem, recoverD, hu, as_yes, Try.ntmps16, Exit.thenS, bad]
  apply wpS_seq
  apply wpS_region
  simp [wpOpsS, go_sem, Exit.thenS, Array.replicate]
  refine wpS_cond (t := true) (by simp [Act.eval]) ?_
  simp only [if_true]
  apply wpS_region
  simp [wpOpsS, go_sem, hc2, hz2, bodyPostS, results, Try.results16]
theorem catch_idle (p : Addr) (w : World) :
    CallsD Try.prog 16 #[.pointer (some p)] .returning w fun e u' w' => e = .returned (.tuple #[]) ∧ u' = .returning ∧ w' = w.alloc (.cells #[] 50) := by
  refine callsD_of_wpS Try.func16 rfl fun c₀ cs hu => ?_
  apply wpS_seq
  apply wpS_region
  simp [wpOpsS, go_sem, recoverD, hu, as_nil, Try.ntmps16, Exit.thenS]
  apply wpS_seq
  apply wpS_region
  simp [wpOpsS, go_sem, Exit.thenS, Array.replicate]
  refine wpS_cond (t := false) (by simp [Act.eval]) ?_
  simp only [Bool.false_eq_true, if_false]
  refine wpS_of_wp (wp_skip ?_)
  cases c₀
  simp_all [bodyPostS, results, Try.results16]

set_option maxHeartbeats 400000 in
theorem implReplyCode_any (s : ByteArray) (w : World) (hs : s.size ≤ maxLen) :
    Calls Try.prog 7 #[.string s] w fun e w' => e = .returned (.int .i64 (codeB s)) ∧ Below w.heap.size w w' := by
  have hmf : ∀ (fn : Fn) (first cap : Array Value) (w : World), (Instr.makeFunc fn first cap).run Try.prog w = .ok (.func fn first cap) w := fun _ _ _ _ => rfl
  have b0 : Below w.heap.size w (w.alloc (.cells #[.int .i64 0] 3)) := (Below.refl _ _).alloc (Nat.le_refl _) _
  have HC := Lib.hid (fun w => codeOf_all s w hs)
  go_enter_defers Try.func7, Try.ntmps7
  go_wp2_with fail
  refine (HC.out _).mono ?_
  rintro e w1 ⟨hcode, n, rfl⟩
  have B1 := drewN_below' b0 n
  have k0 : ((w.alloc (.cells #[.int .i64 0] 3)).drewN n).cell? ⟨w.heap.size, 0, none⟩ = some (.int .i64 0) := by simp [go_sem]
  have f0 : ((w.alloc (.cells #[.int .i64 0] 3)).drewN n).frozen? ⟨w.heap.size, 0, none⟩ = false := by simp [go_sem]
  generalize (w.alloc (.cells #[.int .i64 0] 3)).drewN n = w1 at B1 k0 f0
  rcases hcode with rfl | ⟨rfl, h0⟩
  · go_wp2
    refine leaves_cons (f := 16) (args := #[.pointer (some ⟨w.heap.size, 0, none⟩)]) (by simp) (by simp [go_sem]) ?_
    refine (catch_idle ⟨w.heap.size, 0, none⟩ _).mono ?_
    rintro e u' w'' ⟨rfl, rfl, rfl⟩
    have hlt : w.heap.size < (w1.setCell ⟨w.heap.size, 0, none⟩ (.int .i64 (codeB s))).heap.size := by
      have := World.block_lt_of_cell? w1 _ k0
      simpa using this
    have r1 : ((w1.setCell ⟨w.heap.size, 0, none⟩ (.int .i64 (codeB s))).alloc (.cells #[] 50)).cell? ⟨w.heap.size, 0, none⟩ = some (.int .i64 (codeB s)) := (World.cell?_alloc_past _ _ _ hlt).trans (World.cell?_setCell_same _ _ _ k0)
    have B2 := (B1.setCell (p := ⟨w.heap.size, 0, none⟩) (Nat.le_refl _) (.int .i64 (codeB s))).alloc (Nat.le_of_lt hlt) (.cells #[] 50)
    simp [Leaves, settle, results, Try.results7, go_sem, r1]
    exact B2
  · refine leaves_cons (f := 16) (args := #[.pointer (some ⟨w.heap.size, 0, none⟩)]) (by simp) (by simp [go_sem]) ?_
    refine (catch_panicking w.heap.size 0 _ k0 f0).mono ?_
    rintro e u' w'' ⟨rfl, rfl, rfl⟩
    have hlt := World.block_lt_of_cell? w1 _ k0
    have r1 : ((w1.alloc (.cells #[] 50)).setCell ⟨w.heap.size, 0, none⟩ (.int .i64 0)).cell? ⟨w.heap.size, 0, none⟩ = some (.int .i64 0) := World.cell?_setCell_same _ _ _ ((World.cell?_alloc_past _ _ _ hlt).trans k0)
    have B2 := (B1.alloc (Nat.le_of_lt hlt) (.cells #[] 50)).setCell (p := ⟨w.heap.size, 0, none⟩) (Nat.le_refl _) (.int .i64 0)
    simp [Leaves, settle, results, Try.results7, go_sem, r1]
    exact ⟨h0.symm, B2⟩

theorem wFnExactReplyCode.walk (s : ByteArray) (w : World) (hs : s.size ≤ maxLen) (_ : True) :
    Calls Try.prog 5 #[.string s] w fun e w' => e = .returned (.bool true) ∧ Below w.heap.size w w' := by
  have hs2 := hs
  unfold maxLen at hs2
  by_cases hbig : 1048576 < s.size
  · go_enter Try.func5, Try.ntmps5
    go_wp2
    go_ret
    exact ⟨rfl, Below.refl _ _⟩
  · go_enter Try.func5, Try.ntmps5
    go_wp2_with fail
    refine (specReplyCode_any s _ hs).mono ?_
    rintro e w1 ⟨rfl, rfl⟩
    go_wp2_with fail
    refine (implReplyCode_any s _ hs).mono ?_
    rintro e w2 ⟨rfl, hb2⟩
    go_wp2
    go_ret
    exact ⟨rfl, hb2⟩
end Go.Proofs.Ytckcjchkegknhaa
