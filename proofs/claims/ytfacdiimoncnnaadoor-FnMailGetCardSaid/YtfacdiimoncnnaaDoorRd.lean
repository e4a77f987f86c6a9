/- Contracts: the reader that draws. -/
import Derived.Test.YtfacdiimoncnnaaDoorBasis
import Derived.Deep.QuietTactic
import Derived.Lib.Builder
import Derived.IntWalk
import Derived.BigQuiet
namespace Go.Proofs.YtfacdiimoncnnaaDoor
open Go Go.RowKit

/-- The reader in block b: at most P draws behind it; what is its own lies from block B on, the bytes below. -/
def Rd (B b P : Nat) (w : World) : Prop := ∃ (ao : Option Addr) (n cap p : Nat), B ≤ b ∧ w.heap[b]? = some (.cells #[.slice ao n cap, .int .i64 (p : Int)] 171 (0, 0)) ∧ p ≤ P ∧ n ≤ 2000 ∧ (∀ a, n ≠ 0 → ao = some a → a.block < B) ∧ ByteRow w ao n
theorem Rd.lt {B b P : Nat} {w : World} (h : Rd B b P w) : B ≤ b ∧ b < w.heap.size := by
  obtain ⟨ao, n, cap, p, h1, h2, _⟩ := h
  exact ⟨h1, (Array.getElem?_eq_some_iff.1 h2).1⟩
theorem Rd.mono {B b P P' : Nat} {w : World} (h : Rd B b P w) (hP : P ≤ P') : Rd B b P' w := by
  obtain ⟨ao, n, cap, p, h1, h2, h3, h4⟩ := h
  exact ⟨ao, n, cap, p, h1, h2, by omega, h4⟩
theorem Rd.later {B b P : Nat} {w w' : World} (h : Rd B b P w) (hb : Below w.heap.size w w') : Rd B b P w' := by
  have hl := h.lt.2
  obtain ⟨ao, n, cap, p, h1, h2, h3, h4, h5, h6⟩ := h
  exact ⟨ao, n, cap, p, h1, (hb.block b hl).trans h2, h3, h4, h5, h6.below hb (Nat.le_refl _)⟩

set_option maxHeartbeats 1000000 in
theorem l20Open_any (ao : Option Addr) (len cap : Nat) (w : World) (hr : ByteRow w ao len) (hl : len ≤ cap) (hc : cap ≤ maxLen) :
    Calls Tryd.prog 82 #[.slice ao len cap] w fun e w' => ∃ b, e = .returned (.pointer (some ⟨b, 0, none⟩)) ∧ Rd w.heap.size b 0 w' ∧ Below w.heap.size w w' := by
  unfold maxLen at hc
  have HR := Lib.hid hr
  have HLT := Lib.hid hr.lt
  clear hr
  by_cases hb : 2000 < len
  · go_enter Tryd.func82, Tryd.ntmps82
    go_wp2
    go_ret
    exact ⟨_, rfl, ⟨ao, 2000, cap, 0, Nat.le_refl _, heap_alloc_new w _, Nat.le_refl _, Nat.le_refl _, fun a _ e => HLT.out a (by omega) e, (HR.out.take (by omega)).below ((Below.refl _ _).alloc (Nat.le_refl _) _) (Nat.le_refl _)⟩, (Below.refl _ _).alloc (Nat.le_refl _) _⟩
  · go_enter Tryd.func82, Tryd.ntmps82
    go_wp2
    go_ret
    exact ⟨_, rfl, ⟨ao, len, cap, 0, Nat.le_refl _, heap_alloc_new w _, Nat.le_refl _, by omega, fun a h0 e => HLT.out a h0 e, HR.out.below ((Below.refl _ _).alloc (Nat.le_refl _) _) (Nat.le_refl _)⟩, (Below.refl _ _).alloc (Nat.le_refl _) _⟩

theorem xor_half (X : Nat) (h : X ≤ 1000000000) : bits .xor .i64 (X : Int) ((X : Int) / 64) = ((X ^^^ X / 64 : Nat) : Int) := by
  have hx : X ^^^ X / 64 < 2 ^ 63 := Nat.xor_lt_two_pow (by omega) (by omega)
  have h1 : (BitVec.ofInt 64 (X : Int)).toNat = X := by
    rw [BitVec.ofInt_natCast, BitVec.toNat_ofNat]; exact Nat.mod_eq_of_lt (by omega)
  have d : ((X : Int) / 64) = ((X / 64 : Nat) : Int) := by simp
  have h2 : (BitVec.ofInt 64 ((X / 64 : Nat) : Int)).toNat = X / 64 := by
    rw [BitVec.ofInt_natCast, BitVec.toNat_ofNat]; exact Nat.mod_eq_of_lt (by omega)
  rw [d]
  show IntKind.i64.wrap ((BitVec.ofInt 64 (X : Int) ^^^ BitVec.ofInt 64 ((X / 64 : Nat) : Int)).toNat : Int) = _
  rw [BitVec.toNat_xor, h1, h2]
  exact IntWalk.i64_in _ (by omega)

theorem rd_next {B b P n cap p : Nat} {ao : Option Addr} {w : World} (hB : B ≤ b) (hb : w.heap[b]? = some (.cells #[.slice ao n cap, .int .i64 (p : Int)] 171 (0, 0))) (hp : p ≤ P) (hn : n ≤ 2000) (ha : ∀ a, n ≠ 0 → ao = some a → a.block < B) (hr : ByteRow w ao n) (v : Int) (hv : v = ((p + 1 : Nat) : Int)) :
    Rd B b (P + 1) (w.setCell ⟨b, 1, none⟩ (.int .i64 v)) ∧ w.grownBy (w.setCell ⟨b, 1, none⟩ (.int .i64 v)) (some b) := by
  subst hv
  have hbel : Below B w (w.setCell ⟨b, 1, none⟩ (.int .i64 ((p + 1 : Nat) : Int))) := (Below.refl B w).setCell (p := ⟨b, 1, none⟩) hB _
  refine ⟨⟨ao, n, cap, p + 1, hB, ?_, by omega, hn, ha, hr.kept hbel ha⟩, ⟨rfl, rfl, rfl, by simp, fun k _ hk => heap_setCell_other w ⟨b, 1, none⟩ k _ (fun e => hk (by simp [e]))⟩⟩
  rw [heap_setCell_same w b 1 _ _ _ hb]; rfl

set_option maxHeartbeats 2000000 in
set_option maxRecDepth 100000 in
theorem pick_any (B b P N : Nat) (w : World) (h : Rd B b P w) (hP : P ≤ 1000000) (h0 : 1 ≤ N) (h1 : N ≤ 1000000) :
    Calls Tryd.prog 122 #[.pointer (some ⟨b, 0, none⟩), .int .i64 (N : Int)] w fun e w' => ∃ k : Nat, e = .returned (.int .i64 (k : Int)) ∧ k < N ∧ Rd B b (P + 1) w' ∧ w.grownBy w' (some b) := by
  obtain ⟨ao, n, cap, p, hB, hb, hp, hn, ha, hr⟩ := h
  have c0 : w.cell? ⟨b, 0, none⟩ = some (.slice ao n cap) := by rw [Lib.cell_of_heap hb]; rfl
  have c1 : w.cell? ⟨b, 1, none⟩ = some (.int .i64 (p : Int)) := by rw [Lib.cell_of_heap hb]; rfl
  have f1 : w.frozen? ⟨b, 1, none⟩ = false := frozen_of_row w b 1 _ _ hb
  have HW := Lib.hid (fun v hv => rd_next hB hb hp hn ha hr v hv)
  have HR := Lib.hid hr
  have HA := Lib.hid ha
  clear hr hb ha
  by_cases hz : n = 0
  · subst hz
    go_enter Tryd.func122, Tryd.ntmps122
    go_wp2
    go_ret
    obtain ⟨h2, h3⟩ := HW.out _ (by go_num)
    exact ⟨0, rfl, by omega, h2, h3⟩
  · by_cases hk : p < n
    · obtain ⟨q, off, z, rfl, hz2, hc⟩ := HR.out p hk
      have hqb : q ≠ b := by have := HA.out ⟨q, off, none⟩ hz rfl; simp at this; omega
      have hne : ((n : Int) == 0) = false := by rw [beq_eq_false_iff_ne]; omega
      go_enter Tryd.func122, Tryd.ntmps122
      go_wp2
      go_ret
      obtain ⟨h2, h3⟩ := HW.out _ (by go_num)
      exact ⟨z % N, by simp, Nat.mod_lt _ (by omega), h2, h3⟩
    · have hn0 : 0 < n := by omega
      obtain ⟨j1, hj1⟩ : ∃ j, j = p % n := ⟨_, rfl⟩
      obtain ⟨j2, hj2⟩ : ∃ j, j = (p * 7 + 3) % n := ⟨_, rfl⟩
      obtain ⟨j3, hj3⟩ : ∃ j, j = p / n := ⟨_, rfl⟩
      have l1 : j1 < n := hj1 ▸ Nat.mod_lt _ hn0
      have l2 : j2 < n := hj2 ▸ Nat.mod_lt _ hn0
      have l3 : j3 ≤ p := hj3 ▸ Nat.div_le_self _ _
      obtain ⟨q, off, z1, rfl, hz1, hc1⟩ := HR.out j1 l1
      obtain ⟨q', off', z2, e2, hz2, hc2⟩ := HR.out j2 l2
      cases e2
      have t1 : (p : Int).tmod (n : Int) = (j1 : Int) := by rw [IntWalk.rem_in _ _ (by omega), hj1]; simp
      have t2 : ((p : Int) * 7 + 3).tmod (n : Int) = (j2 : Int) := by rw [IntWalk.rem_in _ _ (by omega), hj2]; simp
      have t3 : (p : Int).tdiv (n : Int) = (j3 : Int) := by rw [Int.tdiv_eq_ediv_of_nonneg (by omega), hj3]; simp
      have g1 : IntKind.i64.wrap ((p : Int) * 7) = (p : Int) * 7 := IntWalk.i64_in _ (by omega)
      have g2 : IntKind.i64.wrap ((p : Int) * 7 + 3) = (p : Int) * 7 + 3 := IntWalk.i64_in _ (by omega)
      have g3 : IntKind.i64.wrap (j3 : Int) = (j3 : Int) := IntWalk.i64_in _ (by omega)
      have g4 : IntKind.i64.wrap ((z1 : Int) * 131) = (z1 : Int) * 131 := IntWalk.i64_in _ (by omega)
      have g5 : IntKind.i64.wrap ((z2 : Int) * 1117) = (z2 : Int) * 1117 := IntWalk.i64_in _ (by omega)
      have g6 : IntKind.i64.wrap ((z1 : Int) * 131 + (z2 : Int) * 1117) = (z1 : Int) * 131 + (z2 : Int) * 1117 := IntWalk.i64_in _ (by omega)
      have g7 : IntKind.i64.wrap ((p : Int) * 29) = (p : Int) * 29 := IntWalk.i64_in _ (by omega)
      have g8 : IntKind.i64.wrap ((z1 : Int) * 131 + (z2 : Int) * 1117 + (p : Int) * 29) = (z1 : Int) * 131 + (z2 : Int) * 1117 + (p : Int) * 29 := IntWalk.i64_in _ (by omega)
      have g9 : IntKind.i64.wrap ((j3 : Int) * 53) = (j3 : Int) * 53 := IntWalk.i64_in _ (by omega)
      have g0 : IntKind.i64.wrap ((z1 : Int) * 131 + (z2 : Int) * 1117 + (p : Int) * 29 + (j3 : Int) * 53) = (z1 : Int) * 131 + (z2 : Int) * 1117 + (p : Int) * 29 + (j3 : Int) * 53 := IntWalk.i64_in _ (by omega)
      have o1 : (0 : Int) ≤ (j1 : Int) ∧ (j1 : Int) < (n : Int) := by omega
      have o2 : (0 : Int) ≤ (j2 : Int) ∧ (j2 : Int) < (n : Int) := by omega
      have o3 : (n : Int) ≠ 0 := by omega
      clear hj1 hj2 hj3
      have hqb : q ≠ b := by have := HA.out ⟨q, off, none⟩ hz rfl; simp at this; omega
      have hne : ((n : Int) == 0) = false := by rw [beq_eq_false_iff_ne]; omega
      have HE := Lib.hid (HW.out ((p : Int) + 1) (by go_num))
      have hne2 : ∀ x : Addr, x ≠ ⟨b, 1, none⟩ → (w.setCell ⟨b, 1, none⟩ (.int .i64 ((p : Int) + 1))).cell? x = w.cell? x := fun x hx => by
        first | exact World.cell?_setCell_other (Ne.symm hx) | exact World.cell?_setCell_other _ _ _ _ (Ne.symm hx) | exact World.cell?_setCell_other w _ _ (Ne.symm hx)
      have d0 : (w.setCell ⟨b, 1, none⟩ (.int .i64 ((p : Int) + 1))).cell? ⟨b, 0, none⟩ = some (.slice (some ⟨q, off, none⟩) n cap) := (hne2 _ (by simp)).trans c0
      have d1 : (w.setCell ⟨b, 1, none⟩ (.int .i64 ((p : Int) + 1))).cell? ⟨q, off + j1, none⟩ = some (.int .u8 (z1 : Int)) := (hne2 _ (fun e => hqb (congrArg Addr.block e))).trans hc1
      have d2 : (w.setCell ⟨b, 1, none⟩ (.int .i64 ((p : Int) + 1))).cell? ⟨q, off + j2, none⟩ = some (.int .u8 (z2 : Int)) := (hne2 _ (fun e => hqb (congrArg Addr.block e))).trans hc2
      clear hne2
      go_enter Tryd.func122, Tryd.ntmps122
      go_wp2
      clear HW HR HA
      generalize w.setCell ⟨b, 1, none⟩ (.int .i64 ((p : Int) + 1)) = w2 at HE d0 d1 d2 ⊢
      go_quiet (fail)
      obtain ⟨X, hX⟩ : ∃ X : Nat, (z1 : Int) * 131 + (z2 : Int) * 1117 + (p : Int) * 29 + (j3 : Int) * 53 = (X : Int) := ⟨z1 * 131 + z2 * 1117 + p * 29 + j3 * 53, by simp⟩
      have hXb : X ≤ 1000000000 := by omega
      rw [hX]
      clear g1 g2 g3 g4 g5 g6 g7 g8 g9 g0 t1 t2 t3 o1 o2 o3 hX d0 d1 d2 hc1 hc2 c0 c1 f1
      have hxor := xor_half X hXb
      have hxb : (X ^^^ X / 64) ≤ 9223372036854775807 := Nat.le_of_lt_succ (Nat.xor_lt_two_pow (n := 63) (by omega) (by omega))
      generalize X ^^^ X / 64 = Y at hxor hxb
      go_wp2
      go_ret
      exact ⟨Y % N, by simp, Nat.mod_lt _ (by omega), HE.out.1.later (below_drewN _ _ _), HE.out.2.trans ⟨rfl, rfl, rfl, (drewN_size w2 nq).symm ▸ Nat.le_refl _, fun k hk hne => (below_drewN w2.heap.size w2 nq).block k hk⟩⟩

/-- 'of': one of the texts. -/
theorem of_any (B b P cap : Nat) (ao : Option Addr) (xs : List ByteArray) (w : World) (h : Rd B b P w) (hP : P ≤ 1000000) (hr : StrRow w ao xs) (hne : ∀ a, ao = some a → a.block ≠ b) (h0 : 1 ≤ xs.length) (h1 : xs.length ≤ 1000000) :
    Calls Tryd.prog 153 #[.pointer (some ⟨b, 0, none⟩), .slice ao xs.length cap] w fun e w' => ∃ x, x ∈ xs ∧ e = .returned (.string x) ∧ Rd B b (P + 1) w' ∧ w.grownBy w' (some b) := by
  have HR := Lib.hid hr
  have HN := Lib.hid hne
  clear hr hne
  go_enter Tryd.func153, Tryd.ntmps153
  go_wp2_with fail
  refine (pick_any B b P xs.length _ h hP h0 h1).mono ?_
  rintro e w1 ⟨k, rfl, hk, h2, hg⟩
  obtain ⟨x, hx⟩ : ∃ x, xs[k]? = some x := ⟨_, List.getElem?_eq_getElem hk⟩
  obtain ⟨q, off, rfl, hc⟩ := HR.out k x hx
  have hq : q ≠ b := HN.out ⟨q, off, none⟩ rfl
  have hc1 : w1.cell? ⟨q, off + k, none⟩ = some (.string x) := hg.cell hc (fun e => hq (Option.some.inj e))
  have HX := Lib.hid (List.mem_of_getElem? hx)
  clear hx hc
  go_wp2
  go_ret
  exact ⟨x, HX.out, rfl, h2, hg⟩
theorem grow_alloc {w w' : World} {o : Obj} {r : Option Nat} (h : (w.alloc o).grownBy w' r) : w.grownBy w' r :=
  ⟨h.os, h.tape, h.output, Nat.le_trans (by simp) h.size, fun k hk hne => (h.block k (by simp; omega) hne).trans (heap_alloc_old w o hk)⟩
theorem lit_row (w : World) (cs : Array Value) (xs : List ByteArray) (h : cs.toList = xs.map Value.string) : StrRow (w.alloc (.cells cs 9)) (some ⟨w.heap.size, 0, none⟩) xs := by
  intro k x hx
  refine ⟨w.heap.size, 0, rfl, ?_⟩
  rw [Nat.zero_add, World.cell?_alloc_new w cs 9 k, ← Array.getElem?_toList, h, List.getElem?_map, hx]; rfl
/-- .. of a row that is written there. -/
theorem of_lit (B b P n : Nat) (cs : Array Value) (xs : List ByteArray) (w : World) (h : Rd B b P w) (hP : P ≤ 1000000) (hcs : cs.toList = xs.map Value.string) (hn : n = xs.length) (h0 : 1 ≤ xs.length) (h1 : xs.length ≤ 1000000) :
    Calls Tryd.prog 153 #[.pointer (some ⟨b, 0, none⟩), .slice (some ⟨w.heap.size, 0, none⟩) n n] (w.alloc (.cells cs 9)) fun e w' => ∃ x, x ∈ xs ∧ e = .returned (.string x) ∧ Rd B b (P + 1) w' ∧ w.grownBy w' (some b) := by
  subst hn
  refine (of_any B b P xs.length (some ⟨w.heap.size, 0, none⟩) xs _ (h.later ((Below.refl _ _).alloc (Nat.le_refl _) _)) hP (lit_row w cs xs hcs) (fun a e => by cases e; have := h.lt.2; simp; omega) h0 h1).mono ?_
  rintro e w' ⟨x, hx, rfl, h2, hg⟩
  exact ⟨x, hx, rfl, h2, grow_alloc hg⟩
theorem Rd.below {B b P C : Nat} {w w' : World} (h : Rd B b P w) (hg : w.grownBy w' (some b)) (hC : C ≤ B) : Below C w w' :=
  (Below.refl C w).grown hg (by have := h.lt; omega) fun k hk => by cases hk; have := h.lt; omega
end Go.Proofs.YtfacdiimoncnnaaDoor
