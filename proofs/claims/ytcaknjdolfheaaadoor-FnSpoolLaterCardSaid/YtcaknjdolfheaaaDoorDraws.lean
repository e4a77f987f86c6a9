/- Rd, DrawBody, DrawList, DrawAny, DrawAddr. -/
import Derived.Test.YtcaknjdolfheaaaDoorBasis
import Derived.Deep.QuietTactic
import Derived.Lib.Builder
import Derived.IntWalk
import Derived.BigQuiet
import Derived.Test.YtcaknjdolfheaaaDoorReads
import Derived.Test.YtcaknjdolfheaaaDoorAddrGet
import Derived.WalkSpells
namespace Go.Proofs.YtcaknjdolfheaaaDoor
open Go Go.RowKit

/-- The reader in block b: at most P draws behind it; what is its own lies from block B on, the bytes below. -/
def Rd (B b P : Nat) (w : World) : Prop := ∃ (ao : Option Addr) (n cap p : Nat), B ≤ b ∧ w.heap[b]? = some (.cells #[.slice ao n cap, .int .i64 (p : Int)] 104 (0, 0)) ∧ p ≤ P ∧ n ≤ 2000 ∧ (∀ a, n ≠ 0 → ao = some a → a.block < B) ∧ ByteRow w ao n
theorem Rd.lt {B b P : Nat} {w : World} (h : Rd B b P w) : B ≤ b ∧ b < w.heap.size := by
  obtain ⟨ao, n, cap, p, h1, h2, _⟩ := h
  exact ⟨h1, (Array.getElem?_eq_some_iff.1 h2).1⟩
theorem Rd.mono {B b P P' : Nat} {w : World} (h : Rd B b P w) (hP : P ≤ P') : Rd B b P' w := by
  obtain ⟨ao, n, cap, p, h1, h2, h3, h4⟩ := h
  exact ⟨ao, n, cap, p, h1, h2, by omega, h4⟩
theorem Rd.later {B b P : Nat} {w w' : World} (h : Rd B b P w) (hb : Below w.heap.size w w') : Rd B b P w' := by
  have hl := h.lt.2
  obtain ⟨ao, n, cap, p, h1, h2, h3, h4, h5, h6⟩ := h
  exact ⟨ao, n, cap, p, h1, (hb.block b hl).trans h2, h3, h4, h5, h6.below hb (Nat.le_refl _)⟩

set_option maxHeartbeats 1000000 in
theorem l20Open_any (ao : Option Addr) (len cap : Nat) (w : World) (hr : ByteRow w ao len) (hl : len ≤ cap) (hc : cap ≤ maxLen) :
    Calls Tryd.prog 26 #[.slice ao len cap] w fun e w' => ∃ b, e = .returned (.pointer (some ⟨b, 0, none⟩)) ∧ Rd w.heap.size b 0 w' ∧ Below w.heap.size w w' := by
  unfold maxLen at hc
  have HR := Lib.hid hr
  have HLT := Lib.hid hr.lt
  clear hr
  by_cases hb : 2000 < len
  · go_enter Tryd.func26, Tryd.ntmps26
    go_wp2
    go_ret
    exact ⟨_, rfl, ⟨ao, 2000, cap, 0, Nat.le_refl _, heap_alloc_new w _, Nat.le_refl _, Nat.le_refl _, fun a _ e => HLT.out a (by omega) e, (HR.out.take (by omega)).below ((Below.refl _ _).alloc (Nat.le_refl _) _) (Nat.le_refl _)⟩, (Below.refl _ _).alloc (Nat.le_refl _) _⟩
  · go_enter Tryd.func26, Tryd.ntmps26
    go_wp2
    go_ret
    exact ⟨_, rfl, ⟨ao, len, cap, 0, Nat.le_refl _, heap_alloc_new w _, Nat.le_refl _, by omega, fun a h0 e => HLT.out a h0 e, HR.out.below ((Below.refl _ _).alloc (Nat.le_refl _) _) (Nat.le_refl _)⟩, (Below.refl _ _).alloc (Nat.le_refl _) _⟩

theorem xor_half (X : Nat) (h : X ≤ 1000000000) : bits .xor .i64 (X : Int) ((X : Int) / 64) = ((X ^^^ X / 64 : Nat) : Int) := by
  have hx : X ^^^ X / 64 < 2 ^ 63 := Nat.xor_lt_two_pow (by omega) (by omega)
  have h1 : (BitVec.ofInt 64 (X : Int)).toNat = X := by
    rw [BitVec.ofInt_natCast, BitVec.toNat_ofNat]; exact Nat.mod_eq_of_lt (by omega)
  have d : ((X : Int) / 64) = ((X / 64 : Nat) : Int) := by simp
  have h2 : (BitVec.ofInt 64 ((X / 64 : Nat) : Int)).toNat = X / 64 := by
    rw [BitVec.ofInt_natCast, BitVec.toNat_ofNat]; exact Nat.mod_eq_of_lt (by omega)
  rw [d]
  show IntKind.i64.wrap ((BitVec.ofInt 64 (X : Int) ^^^ BitVec.ofInt 64 ((X / 64 : Nat) : Int)).toNat : Int) = _
  rw [BitVec.toNat_xor, h1, h2]
  exact IntWalk.i64_in _ (by omega)

theorem rd_next {B b P n cap p : Nat} {ao : Option Addr} {w : World} (hB : B ≤ b) (hb : w.heap[b]? = some (.cells #[.slice ao n cap, .int .i64 (p : Int)] 104 (0, 0))) (hp : p ≤ P) (hn : n ≤ 2000) (ha : ∀ a, n ≠ 0 → ao = some a → a.block < B) (hr : ByteRow w ao n) (v : Int) (hv : v = ((p + 1 : Nat) : Int)) :
    Rd B b (P + 1) (w.setCell ⟨b, 1, none⟩ (.int .i64 v)) ∧ w.grownBy (w.setCell ⟨b, 1, none⟩ (.int .i64 v)) (some b) := by
  subst hv
  have hbel : Below B w (w.setCell ⟨b, 1, none⟩ (.int .i64 ((p + 1 : Nat) : Int))) := (Below.refl B w).setCell (p := ⟨b, 1, none⟩) hB _
  refine ⟨⟨ao, n, cap, p + 1, hB, ?_, by omega, hn, ha, hr.kept hbel ha⟩, ⟨rfl, rfl, rfl, by simp, fun k _ hk => heap_setCell_other w ⟨b, 1, none⟩ k _ (fun e => hk (by simp [e]))⟩⟩
  rw [heap_setCell_same w b 1 _ _ _ hb]; rfl

set_option maxHeartbeats 2000000 in
set_option maxRecDepth 100000 in
theorem pick_any (B b P N : Nat) (w : World) (h : Rd B b P w) (hP : P ≤ 1000000) (h0 : 1 ≤ N) (h1 : N ≤ 1000000) :
    Calls Tryd.prog 59 #[.pointer (some ⟨b, 0, none⟩), .int .i64 (N : Int)] w fun e w' => ∃ k : Nat, e = .returned (.int .i64 (k : Int)) ∧ k < N ∧ Rd B b (P + 1) w' ∧ w.grownBy w' (some b) := by
  obtain ⟨ao, n, cap, p, hB, hb, hp, hn, ha, hr⟩ := h
  have c0 : w.cell? ⟨b, 0, none⟩ = some (.slice ao n cap) := by rw [Lib.cell_of_heap hb]; rfl
  have c1 : w.cell? ⟨b, 1, none⟩ = some (.int .i64 (p : Int)) := by rw [Lib.cell_of_heap hb]; rfl
  have f1 : w.frozen? ⟨b, 1, none⟩ = false := frozen_of_row w b 1 _ _ hb
  have HW := Lib.hid (fun v hv => rd_next hB hb hp hn ha hr v hv)
  have HR := Lib.hid hr
  have HA := Lib.hid ha
  clear hr hb ha
  by_cases hz : n = 0
  · subst hz
    go_enter Tryd.func59, Tryd.ntmps59
    go_wp2
    go_ret
    obtain ⟨h2, h3⟩ := HW.out _ (by go_num)
    exact ⟨0, rfl, by omega, h2, h3⟩
  · by_cases hk : p < n
    · obtain ⟨q, off, z, rfl, hz2, hc⟩ := HR.out p hk
      have hqb : q ≠ b := by have := HA.out ⟨q, off, none⟩ hz rfl; simp at this; omega
      have hne : ((n : Int) == 0) = false := by rw [beq_eq_false_iff_ne]; omega
      go_enter Tryd.func59, Tryd.ntmps59
      go_wp2
      go_ret
      obtain ⟨h2, h3⟩ := HW.out _ (by go_num)
      exact ⟨z % N, by simp, Nat.mod_lt _ (by omega), h2, h3⟩
    · have hn0 : 0 < n := by omega
      obtain ⟨j1, hj1⟩ : ∃ j, j = p % n := ⟨_, rfl⟩
      obtain ⟨j2, hj2⟩ : ∃ j, j = (p * 7 + 3) % n := ⟨_, rfl⟩
      obtain ⟨j3, hj3⟩ : ∃ j, j = p / n := ⟨_, rfl⟩
      have l1 : j1 < n := hj1 ▸ Nat.mod_lt _ hn0
      have l2 : j2 < n := hj2 ▸ Nat.mod_lt _ hn0
      have l3 : j3 ≤ p := hj3 ▸ Nat.div_le_self _ _
      obtain ⟨q, off, z1, rfl, hz1, hc1⟩ := HR.out j1 l1
      obtain ⟨q', off', z2, e2, hz2, hc2⟩ := HR.out j2 l2
      cases e2
      have t1 : (p : Int).tmod (n : Int) = (j1 : Int) := by rw [IntWalk.rem_in _ _ (by omega), hj1]; simp
      have t2 : ((p : Int) * 7 + 3).tmod (n : Int) = (j2 : Int) := by rw [IntWalk.rem_in _ _ (by omega), hj2]; simp
      have t3 : (p : Int).tdiv (n : Int) = (j3 : Int) := by rw [Int.tdiv_eq_ediv_of_nonneg (by omega), hj3]; simp
      have g1 : IntKind.i64.wrap ((p : Int) * 7) = (p : Int) * 7 := IntWalk.i64_in _ (by omega)
      have g2 : IntKind.i64.wrap ((p : Int) * 7 + 3) = (p : Int) * 7 + 3 := IntWalk.i64_in _ (by omega)
      have g3 : IntKind.i64.wrap (j3 : Int) = (j3 : Int) := IntWalk.i64_in _ (by omega)
      have g4 : IntKind.i64.wrap ((z1 : Int) * 131) = (z1 : Int) * 131 := IntWalk.i64_in _ (by omega)
      have g5 : IntKind.i64.wrap ((z2 : Int) * 1117) = (z2 : Int) * 1117 := IntWalk.i64_in _ (by omega)
      have g6 : IntKind.i64.wrap ((z1 : Int) * 131 + (z2 : Int) * 1117) = (z1 : Int) * 131 + (z2 : Int) * 1117 := IntWalk.i64_in _ (by omega)
      have g7 : IntKind.i64.wrap ((p : Int) * 29) = (p : Int) * 29 := IntWalk.i64_in _ (by omega)
      have g8 : IntKind.i64.wrap ((z1 : Int) * 131 + (z2 : Int) * 1117 + (p : Int) * 29) = (z1 : Int) * 131 + (z2 : Int) * 1117 + (p : Int) * 29 := IntWalk.i64_in _ (by omega)
      have g9 : IntKind.i64.wrap ((j3 : Int) * 53) = (j3 : Int) * 53 := IntWalk.i64_in _ (by omega)
      have g0 : IntKind.i64.wrap ((z1 : Int) * 131 + (z2 : Int) * 1117 + (p : Int) * 29 + (j3 : Int) * 53) = (z1 : Int) * 131 + (z2 : Int) * 1117 + (p : Int) * 29 + (j3 : Int) * 53 := IntWalk.i64_in _ (by omega)
      have o1 : (0 : Int) ≤ (j1 : Int) ∧ (j1 : Int) < (n : Int) := by omega
      have o2 : (0 : Int) ≤ (j2 : Int) ∧ (j2 : Int) < (n : Int) := by omega
      have o3 : (n : Int) ≠ 0 := by omega
      clear hj1 hj2 hj3
      have hqb : q ≠ b := by have := HA.out ⟨q, off, none⟩ hz rfl; simp at this; omega
      have hne : ((n : Int) == 0) = false := by rw [beq_eq_false_iff_ne]; omega
      have HE := Lib.hid (HW.out ((p : Int) + 1) (by go_num))
      have hne2 : ∀ x : Addr, x ≠ ⟨b, 1, none⟩ → (w.setCell ⟨b, 1, none⟩ (.int .i64 ((p : Int) + 1))).cell? x = w.cell? x := fun x hx => by
        first | exact World.cell?_setCell_other (Ne.symm hx) | exact World.cell?_setCell_other _ _ _ _ (Ne.symm hx) | exact World.cell?_setCell_other w _ _ (Ne.symm hx)
      have d0 : (w.setCell ⟨b, 1, none⟩ (.int .i64 ((p : Int) + 1))).cell? ⟨b, 0, none⟩ = some (.slice (some ⟨q, off, none⟩) n cap) := (hne2 _ (by simp)).trans c0
      have d1 : (w.setCell ⟨b, 1, none⟩ (.int .i64 ((p : Int) + 1))).cell? ⟨q, off + j1, none⟩ = some (.int .u8 (z1 : Int)) := (hne2 _ (fun e => hqb (congrArg Addr.block e))).trans hc1
      have d2 : (w.setCell ⟨b, 1, none⟩ (.int .i64 ((p : Int) + 1))).cell? ⟨q, off + j2, none⟩ = some (.int .u8 (z2 : Int)) := (hne2 _ (fun e => hqb (congrArg Addr.block e))).trans hc2
      clear hne2
      go_enter Tryd.func59, Tryd.ntmps59
      go_wp2
      clear HW HR HA
      generalize w.setCell ⟨b, 1, none⟩ (.int .i64 ((p : Int) + 1)) = w2 at HE d0 d1 d2 ⊢
      go_quiet (fail)
      obtain ⟨X, hX⟩ : ∃ X : Nat, (z1 : Int) * 131 + (z2 : Int) * 1117 + (p : Int) * 29 + (j3 : Int) * 53 = (X : Int) := ⟨z1 * 131 + z2 * 1117 + p * 29 + j3 * 53, by simp⟩
      have hXb : X ≤ 1000000000 := by omega
      rw [hX]
      clear g1 g2 g3 g4 g5 g6 g7 g8 g9 g0 t1 t2 t3 o1 o2 o3 hX d0 d1 d2 hc1 hc2 c0 c1 f1
      have hxor := xor_half X hXb
      have hxb : (X ^^^ X / 64) ≤ 9223372036854775807 := Nat.le_of_lt_succ (Nat.xor_lt_two_pow (n := 63) (by omega) (by omega))
      generalize X ^^^ X / 64 = Y at hxor hxb
      go_wp2
      go_ret
      exact ⟨Y % N, by simp, Nat.mod_lt _ (by omega), HE.out.1.later (below_drewN _ _ _), HE.out.2.trans ⟨rfl, rfl, rfl, (drewN_size w2 nq).symm ▸ Nat.le_refl _, fun k hk hne => (below_drewN w2.heap.size w2 nq).block k hk⟩⟩

/-- 'of': one of the texts. -/
theorem of_any (B b P cap : Nat) (ao : Option Addr) (xs : List ByteArray) (w : World) (h : Rd B b P w) (hP : P ≤ 1000000) (hr : StrRow w ao xs) (hne : ∀ a, ao = some a → a.block ≠ b) (h0 : 1 ≤ xs.length) (h1 : xs.length ≤ 1000000) :
    Calls Tryd.prog 99 #[.pointer (some ⟨b, 0, none⟩), .slice ao xs.length cap] w fun e w' => ∃ x, x ∈ xs ∧ e = .returned (.string x) ∧ Rd B b (P + 1) w' ∧ w.grownBy w' (some b) := by
  have HR := Lib.hid hr
  have HN := Lib.hid hne
  clear hr hne
  go_enter Tryd.func99, Tryd.ntmps99
  go_wp2_with fail
  refine (pick_any B b P xs.length _ h hP h0 h1).mono ?_
  rintro e w1 ⟨k, rfl, hk, h2, hg⟩
  obtain ⟨x, hx⟩ : ∃ x, xs[k]? = some x := ⟨_, List.getElem?_eq_getElem hk⟩
  obtain ⟨q, off, rfl, hc⟩ := HR.out k x hx
  have hq : q ≠ b := HN.out ⟨q, off, none⟩ rfl
  have hc1 : w1.cell? ⟨q, off + k, none⟩ = some (.string x) := hg.cell hc (fun e => hq (Option.some.inj e))
  have HX := Lib.hid (List.mem_of_getElem? hx)
  clear hx hc
  go_wp2
  go_ret
  exact ⟨x, HX.out, rfl, h2, hg⟩
theorem grow_alloc {w w' : World} {o : Obj} {r : Option Nat} (h : (w.alloc o).grownBy w' r) : w.grownBy w' r :=
  ⟨h.os, h.tape, h.output, Nat.le_trans (by simp) h.size, fun k hk hne => (h.block k (by simp; omega) hne).trans (heap_alloc_old w o hk)⟩
theorem lit_row (w : World) (cs : Array Value) (xs : List ByteArray) (h : cs.toList = xs.map Value.string) : StrRow (w.alloc (.cells cs 9)) (some ⟨w.heap.size, 0, none⟩) xs := by
  intro k x hx
  refine ⟨w.heap.size, 0, rfl, ?_⟩
  rw [Nat.zero_add, World.cell?_alloc_new w cs 9 k, ← Array.getElem?_toList, h, List.getElem?_map, hx]; rfl
/-- .. of a row that is written there. -/
theorem of_lit (B b P n : Nat) (cs : Array Value) (xs : List ByteArray) (w : World) (h : Rd B b P w) (hP : P ≤ 1000000) (hcs : cs.toList = xs.map Value.string) (hn : n = xs.length) (h0 : 1 ≤ xs.length) (h1 : xs.length ≤ 1000000) :
    Calls Tryd.prog 99 #[.pointer (some ⟨b, 0, none⟩), .slice (some ⟨w.heap.size, 0, none⟩) n n] (w.alloc (.cells cs 9)) fun e w' => ∃ x, x ∈ xs ∧ e = .returned (.string x) ∧ Rd B b (P + 1) w' ∧ w.grownBy w' (some b) := by
  subst hn
  refine (of_any B b P xs.length (some ⟨w.heap.size, 0, none⟩) xs _ (h.later ((Below.refl _ _).alloc (Nat.le_refl _) _)) hP (lit_row w cs xs hcs) (fun a e => by cases e; have := h.lt.2; simp; omega) h0 h1).mono ?_
  rintro e w' ⟨x, hx, rfl, h2, hg⟩
  exact ⟨x, hx, rfl, h2, grow_alloc hg⟩
theorem Rd.below {B b P C : Nat} {w w' : World} (h : Rd B b P w) (hg : w.grownBy w' (some b)) (hC : C ≤ B) : Below C w w' :=
  (Below.refl C w).grown hg (by have := h.lt; omega) fun k hk => by cases hk; have := h.lt; omega
end Go.Proofs.YtcaknjdolfheaaaDoor
namespace Go.Proofs.YtcaknjdolfheaaaDoor
open Go Go.RowKit

theorem grown_drew (w : World) (r : Option Nat) : w.grownBy w.drew r := by
  have h : Below w.heap.size w w.drew := (Below.refl _ _).drew
  exact ⟨h.os, h.tape, h.output, h.size, fun k hk _ => h.block k hk⟩
theorem grow_more' {w W : World} {r : Option Nat} (h : w.grownBy W r) (o : Obj) : w.grownBy (W.alloc o) r :=
  ⟨h.os, h.tape, h.output, Nat.le_trans h.size (by simp), fun k hk hne => (heap_alloc_old W o (Nat.lt_of_lt_of_le hk h.size)).trans (h.block k hk hne)⟩
theorem Rd.more' {B b P : Nat} {w : World} (h : Rd B b P w) (o : Obj) : Rd B b P (w.alloc o) := h.later ((Below.refl _ _).alloc (Nat.le_refl _) _)
theorem of_at' {B b P n k : Nat} {cs : Array Value} (xs : List ByteArray) {w : World} (h : Rd B b P w) (hk : k = w.heap.size) (hP : P ≤ 1000000) (hcs : cs.toList = xs.map Value.string) (hn : n = xs.length) (h0 : 1 ≤ xs.length) (h1 : xs.length ≤ 1000000) :
    Calls Tryd.prog 99 #[.pointer (some ⟨b, 0, none⟩), .slice (some ⟨k, 0, none⟩) n n] (w.alloc (.cells cs 9)) fun e w' => ∃ x, x ∈ xs ∧ e = .returned (.string x) ∧ Rd B b (P + 1) w' ∧ w.grownBy w' (some b) := by
  subst hk
  exact of_lit B b P n cs xs w h hP hcs hn h0 h1
theorem small_in {xs : List ByteArray} {x : ByteArray} {n : Nat} (h : xs.all (fun y => decide (y.size ≤ n)) = true) (hx : x ∈ xs) : x.size ≤ n := by
  rw [List.all_eq_true] at h; exact of_decide_eq_true (h x hx)

def drawL : List ByteArray := [⟨#[104, 101, 108, 108, 111]⟩, ⟨#[]⟩, ⟨#[46]⟩, ⟨#[46, 46]⟩, ⟨#[46, 100, 111, 116]⟩, ⟨#[97, 32, 108, 111, 110, 103, 101, 114, 32, 108, 105, 110, 101, 32, 111, 102, 32, 116, 101, 120, 116]⟩, ⟨#[72, 111, 112, 58, 32, 111, 110, 101, 46, 111, 114, 103]⟩, ⟨#[72, 111, 112, 58, 32]⟩, ⟨#[73, 100, 58, 32, 55]⟩, ⟨#[110, 111, 116, 32, 100, 101, 108, 105, 118, 101, 114, 101, 100, 58]⟩, ⟨#[60, 97, 64, 111, 110, 101, 46, 111, 114, 103, 62]⟩, ⟨#[108, 105, 110, 101, 32, 116, 104, 97, 116, 32, 105, 115, 32, 101, 120, 97, 99, 116, 108, 121, 32, 102, 111, 114, 116, 121, 32, 98, 121, 116, 101, 115, 32, 108, 111, 110, 103, 46, 46, 33]⟩]
def bentA : List ByteArray := [⟨#[46]⟩, ⟨#[13]⟩, ⟨#[10]⟩, ⟨#[60]⟩, ⟨#[62]⟩, ⟨#[48]⟩, ⟨#[32]⟩, ⟨#[64]⟩]
def bentB : List ByteArray := [⟨#[46]⟩, ⟨#[13, 10]⟩, ⟨#[32]⟩, ⟨#[46, 13, 10]⟩]

set_option maxHeartbeats 1000000 in
set_option maxRecDepth 100000 in
theorem l20Line_any (B b P : Nat) (w : World) (h : Rd B b P w) (hP : P ≤ 1000000) :
    Calls Tryd.prog 123 #[.pointer (some ⟨b, 0, none⟩)] w fun e w' => ∃ x, x.size ≤ 40 ∧ e = .returned (.string x) ∧ Rd B b (P + 1) w' ∧ w.grownBy w' (some b) := by
  have H := Lib.hid h
  clear h
  go_enter Tryd.func123, Tryd.ntmps123
  go_wp2_with fail
  refine (of_at' drawL H.out (by simp) hP rfl rfl (by decide) (by decide)).mono ?_
  rintro e w1 ⟨x, hx, rfl, h1, g1⟩
  have zx : x.size ≤ 40 := small_in (by decide) hx
  clear hx
  go_wp2
  go_ret
  exact ⟨x, zx, rfl, h1, g1⟩

theorem pick_at {B b P : Nat} (N : Nat) {v : Int} {w : World} (h : Rd B b P w) (hv : v = (N : Int)) (hP : P ≤ 1000000) (h0 : 1 ≤ N) (h1 : N ≤ 1000000) :
    Calls Tryd.prog 59 #[.pointer (some ⟨b, 0, none⟩), .int .i64 v] w fun e w' => ∃ k : Nat, e = .returned (.int .i64 (k : Int)) ∧ k < N ∧ Rd B b (P + 1) w' ∧ w.grownBy w' (some b) := by
  subst hv
  exact pick_any B b P N w h hP h0 h1

end Go.Proofs.YtcaknjdolfheaaaDoor
namespace Go.Proofs.YtcaknjdolfheaaaDoor
open Go Go.RowKit

theorem Rd.grown {B b P : Nat} {w w' : World} {r : Option Nat} (h : Rd B b P w) (hg : w.grownBy w' r) (hr : ∀ k, r = some k → b < k) : Rd B b P w' := by
  have hl := h.lt
  have hb : Below B w w' := (Below.refl B w).grown hg (by omega) fun k hk => by have := hr k hk; omega
  obtain ⟨ao, n, cap, p, h1, h2, h3, h4, h5, h6⟩ := h
  exact ⟨ao, n, cap, p, h1, (hg.block b hl.2 fun e => by have := hr b e.symm; omega).trans h2, h3, h4, h5, h6.kept hb h5⟩
theorem grow_own {w W W' : World} {r r' : Option Nat} (h : w.grownBy W r) (hg : W.grownBy W' r') (hr : ∀ k, r' = some k → w.heap.size ≤ k) : w.grownBy W' r :=
  ⟨hg.os.trans h.os, hg.tape.trans h.tape, hg.output.trans h.output, Nat.le_trans h.size hg.size, fun k hk hne => (hg.block k (Nat.lt_of_lt_of_le hk h.size) (fun e => by have := hr k e.symm; omega)).trans (h.block k hk hne)⟩

set_option maxHeartbeats 1000000 in
set_option maxRecDepth 100000 in
theorem l20Body_any (B b P most : Nat) (w : World) (h : Rd B b P w) (hP : P ≤ 900000) (hm : most ≤ 20) :
    Calls Tryd.prog 116 #[.pointer (some ⟨b, 0, none⟩), .int .i64 (most : Int)] w fun e w' => ∃ ao cap xs, xs.length ≤ most ∧ (∀ x ∈ xs, x.size ≤ 40) ∧ e = .returned (.slice ao xs.length cap) ∧ Row w' w.heap.size ao cap xs ∧ Rd B b (P + 21) w' ∧ w.grownBy w' (some b) := by
  obtain ⟨i0, hi, hz0, hz1, hz2⟩ := info_parts infoS
  have HP := Lib.hid hP
  have hbw := h.lt.2
  have H := Lib.hid (h.more' (.cells #[] 9))
  clear hP h
  go_enter Tryd.func116, Tryd.ntmps116
  go_wp2_with fail
  refine (pick_at (most + 1) H.out (by go_num) (by have := HP.out; omega) (by omega) (by omega)).mono ?_
  rintro e w1 ⟨N, rfl, hN, h1, g1⟩
  have O1 := Lib.hid ((World.ownsRow_made (e := 9) w #[] 0 (Nat.le_refl _) (by unfold maxLen; omega) rfl).kept (row := some b) g1 (.inr (by simp [Value.ownBlock]; omega)) : w1.ownsRow w.heap.size 9 1 (.slice (some ⟨w.heap.size, 0, none⟩) 0 0) 0 [])
  have H1 := Lib.hid h1
  have G1 := Lib.hid (grow_alloc g1)
  clear h1 g1 H
  go_wp2_with fail
  go_loopw [5, 6] (fun o i wr => ∃ (n : Nat) (xs : List ByteArray), i = .int .i64 n ∧ n + xs.length = N ∧ Hid (∀ x ∈ xs, x.size ≤ 40) ∧ wr.ownsRow w.heap.size 9 1 o xs.length (xs.map Value.string) ∧ Hid (Rd B b (P + 1 + xs.length) wr) ∧ Hid (w.grownBy wr (some b))) (fun _ i _ => (intOf i).toNat)
  case atStart => exact ⟨N, [], rfl, rfl, Lib.hid (fun x hx => by cases hx), O1.out, H1.out, G1.out⟩
  case round =>
    obtain ⟨n, xs, rfl, hn, HS, hown, HR, HG⟩ := hrel
    obtain ⟨ao, cap, rfl⟩ := shape_own hown
    clear O1 H1 G1
    have hgs := HG.out.size
    by_cases h0 : 0 < n
    · go_wp2_with fail
      refine (l20Line_any B b _ _ HR.out (by have := HP.out; omega)).mono ?_
      rintro e w2 ⟨x, hx, rfl, h2, g2⟩
      have HS2 : Hid (∀ y ∈ xs ++ [x], y.size ≤ 40) := Lib.hid (fun y hy => by
        rcases List.mem_append.1 hy with hy | hy
        · exact HS.out y hy
        · rw [List.mem_singleton.1 hy]; exact hx)
      have hown2 := hown.kept g2 (by
        cases e : (Value.slice ao xs.length cap).ownBlock with
        | none => exact .inl rfl
        | some k => exact .inr (by have := (hown.lt k e).1; simp; omega))
      have HR2 := Lib.hid h2
      have HG2 := Lib.hid (HG.out.trans g2)
      have hgs2 := HG2.out.size
      clear hown HR HG g2 h2 hx
      go_wp2_with (at_builtin; refine wpList_append_own _ rfl _ _ 40 rfl w.heap.size 9 i0 (.string ByteArray.empty) 1 16 Tryd.underlying40 hi hz0 hz1 hz2 rfl (by decide) _ _ _ rfl (hown2.alloc _) ⟨w2.heap.size, 0, none⟩ 1 1 [.string x] rfl rfl ?c1 ?c2 ?c3 ?c4 ?c5 ?_)
      case c1 => exact cell_one_new _ _ _
      case c2 => intro u hu; simp at hu; subst hu; rfl
      case c3 => unfold maxLen; omega
      case c4 => omega
      case c5 => simp; omega
      intro v' w3 hown' hgrow _
      have hlt : ∀ k, (Value.slice ao xs.length cap).ownBlock = some k → w.heap.size ≤ k := fun k e => (hown2.lt k e).1
      have HR3 := Lib.hid ((HR2.out.more' (.cells #[.string x] 9)).grown hgrow (fun k e => by have := hlt k e; omega))
      have HG3 := Lib.hid (grow_own (grow_more' HG2.out (.cells #[.string x] 9)) hgrow hlt)
      have ho1 := snoc_own hown'
      clear hown2 hgrow hown' HR2 HG2
      go_wp2
      go_roundw
      case rel => exact ⟨n - 1, xs ++ [x], by go_num, by rw [List.length_append, List.length_singleton]; omega, HS2, ho1, Lib.hid (HR3.out.mono (by rw [List.length_append, List.length_singleton]; omega)), HG3⟩
      case measure => simp [intOf]; omega
    · obtain rfl : n = 0 := by omega
      go_wp2
      go_ret
      exact ⟨ao, cap, xs, by omega, HS.out, rfl, hown, HR.out.mono (by omega), HG.out⟩
end Go.Proofs.YtcaknjdolfheaaaDoor
namespace Go.Proofs.YtcaknjdolfheaaaDoor
open Go Go.RowKit

/-- 'one': one of the numbers; each is at most m. -/
theorem one_at {B b P n k m : Nat} {cs : Array Value} (xs : List Nat) {w : World} (h : Rd B b P w) (hk : k = w.heap.size) (hP : P ≤ 1000000) (hcs : cs.toList = xs.map fun (x : Nat) => Value.int .i64 (x : Int)) (hn : n = xs.length) (h0 : 1 ≤ xs.length) (h1 : xs.length ≤ 1000000) (hm : ∀ x ∈ xs, x ≤ m) :
    Calls Tryd.prog 42 #[.pointer (some ⟨b, 0, none⟩), .slice (some ⟨k, 0, none⟩) n n] (w.alloc (.cells cs 3)) fun e w' => ∃ x : Nat, x ≤ m ∧ e = .returned (.int .i64 (x : Int)) ∧ Rd B b (P + 1) w' ∧ w.grownBy w' (some b) := by
  subst hk hn
  have hbw := h.lt.2
  have HM := Lib.hid hm
  have H := Lib.hid (h.more' (.cells cs 3))
  have hc : ∀ (j x : Nat), xs[j]? = some x → (w.alloc (.cells cs 3)).cell? ⟨w.heap.size, j, none⟩ = some (.int .i64 (x : Int)) := fun j x hx => by
    rw [World.cell?_alloc_new w cs 3 j, ← Array.getElem?_toList, hcs, List.getElem?_map, hx]; rfl
  have HC := Lib.hid hc
  have HG : Hid (∀ w', (w.alloc (.cells cs 3)).grownBy w' (some b) → w.grownBy w' (some b)) := Lib.hid fun w' g => grow_alloc g
  clear hc hcs hm h
  generalize hW : w.alloc (.cells cs 3) = W at *
  go_enter Tryd.func42, Tryd.ntmps42
  go_wp2_with fail
  refine (pick_at xs.length H.out rfl hP h0 h1).mono ?_
  rintro e w1 ⟨i, rfl, hi, h2, g2⟩
  obtain ⟨x, hx⟩ : ∃ x, xs[i]? = some x := ⟨_, List.getElem?_eq_getElem hi⟩
  have hc1 : w1.cell? ⟨w.heap.size, i, none⟩ = some (.int .i64 (x : Int)) := g2.cell (HC.out i x hx) (fun e => by have := Option.some.inj e; simp at this; omega)
  have HX := Lib.hid (HM.out x (List.mem_of_getElem? hx))
  have H2 := Lib.hid h2
  have G2 := Lib.hid g2
  clear hx h2 g2
  go_wp2
  go_ret
  exact ⟨x, HX.out, rfl, H2.out, HG.out _ G2.out⟩

def lenOfV : Value → Nat
  | .slice _ n _ => n
  | _ => 0
def anyL : List ByteArray := [⟨#[97, 13]⟩, ⟨#[97, 10, 98]⟩, ⟨#[127]⟩, ⟨#[97, 32, 108, 105, 110, 101, 32, 116, 104, 97, 116, 32, 105, 115, 32, 111, 110, 101, 32, 98, 121, 116, 101, 32, 108, 111, 110, 103, 101, 114, 32, 116, 104, 97, 110, 32, 102, 111, 114, 116, 121]⟩]

end Go.Proofs.YtcaknjdolfheaaaDoor
namespace Go.Proofs.YtcaknjdolfheaaaDoor
open Go Go.RowKit

theorem grow_set {w W : World} {r : Option Nat} {k j : Nat} (h : w.grownBy W r) (hk : w.heap.size ≤ k) (v : Value) : w.grownBy (W.setCell ⟨k, j, none⟩ v) r :=
  ⟨h.os, h.tape, h.output, by simpa using h.size, fun i hi hne => (heap_setCell_other W ⟨k, j, none⟩ i v (by simp; omega)).trans (h.block i hi hne)⟩
theorem grow_more {w W : World} {r : Option Nat} (h : w.grownBy W r) (o : Obj) : w.grownBy (W.alloc o) r :=
  ⟨h.os, h.tape, h.output, Nat.le_trans h.size (by simp), fun k hk hne => (heap_alloc_old W o (Nat.lt_of_lt_of_le hk h.size)).trans (h.block k hk hne)⟩
theorem grow_refl (w : World) (r : Option Nat) : w.grownBy w r := ⟨rfl, rfl, rfl, Nat.le_refl _, fun _ _ _ => rfl⟩
theorem Rd.set {B b P k j : Nat} {w : World} (h : Rd B b P w) (hk : b < k) (v : Value) : Rd B b P (w.setCell ⟨k, j, none⟩ v) := by
  obtain ⟨ao, n, cap, p, h1, h2, h3, h4, h5, h6⟩ := h
  exact ⟨ao, n, cap, p, h1, (heap_setCell_other w ⟨k, j, none⟩ b v (by simp; omega)).trans h2, h3, h4, h5, h6.kept ((Below.refl B w).setCell (p := ⟨k, j, none⟩) (by simp; omega) v) h5⟩
theorem Rd.more {B b P : Nat} {w : World} (h : Rd B b P w) (o : Obj) : Rd B b P (w.alloc o) := h.later ((Below.refl _ _).alloc (Nat.le_refl _) _)

theorem TwoAt.kept {W W' : World} {k b : Nat} {x y : Value} (h : TwoAt W k x y) (hg : W.grownBy W' (some b)) (hb : k ≠ b) : TwoAt W' k x y := by
  obtain ⟨h1, h2, h3, h4⟩ := h
  have hl : k < W.heap.size := World.block_lt_of_cell? W _ h1
  have hk := hg.block k hl (by simpa using hb)
  exact ⟨(World.cell?_of_block (a := ⟨k, 0, none⟩) hk).trans h1, (World.cell?_of_block (a := ⟨k, 1, none⟩) hk).trans h2, (World.frozen?_of_block (a := ⟨k, 0, none⟩) hk).trans h3, (World.frozen?_of_block (a := ⟨k, 1, none⟩) hk).trans h4⟩
theorem TwoAt.set0 {W : World} {k : Nat} {x y : Value} (h : TwoAt W k x y) (v : Value) : TwoAt (W.setCell ⟨k, 0, none⟩ v) k v y := by
  obtain ⟨h1, h2, h3, h4⟩ := h
  exact ⟨World.cell?_setCell_same _ _ _ h1, (World.cell?_setCell_other _ _ _ _ (by simp)).trans h2, by simpa using h3, by simpa using h4⟩
theorem TwoAt.set1 {W : World} {k : Nat} {x y : Value} (h : TwoAt W k x y) (v : Value) : TwoAt (W.setCell ⟨k, 1, none⟩ v) k x v := by
  obtain ⟨h1, h2, h3, h4⟩ := h
  exact ⟨(World.cell?_setCell_other _ _ _ _ (by simp)).trans h1, World.cell?_setCell_same _ _ _ h2, by simpa using h3, by simpa using h4⟩
theorem TwoAt.far {W : World} {k q j : Nat} {x y : Value} (h : TwoAt W k x y) (hk : k ≠ q) (v : Value) : TwoAt (W.setCell ⟨q, j, none⟩ v) k x y := by
  obtain ⟨h1, h2, h3, h4⟩ := h
  exact ⟨(World.cell?_setCell_other _ _ _ _ (fun e => hk (congrArg Addr.block e).symm)).trans h1, (World.cell?_setCell_other _ _ _ _ (fun e => hk (congrArg Addr.block e).symm)).trans h2, by simpa using h3, by simpa using h4⟩

def drawD : List ByteArray := [⟨#[111, 110, 101, 46, 111, 114, 103]⟩, ⟨#[116, 119, 111, 46, 111, 114, 103]⟩, ⟨#[104, 117, 98, 46, 110, 101, 116]⟩, ⟨#[120, 46, 99, 111, 109]⟩, ⟨#[102, 97, 114, 46, 99, 111, 109]⟩, ⟨#[111, 116, 104, 101, 114, 46, 99, 111, 109]⟩, ⟨#[97, 46, 111, 110, 101, 46, 111, 114, 103]⟩]
def drawU : List ByteArray := [⟨#[97]⟩, ⟨#[98]⟩, ⟨#[97, 110, 110]⟩, ⟨#[98, 111, 98, 55]⟩]
def badU : List ByteArray := [⟨#[]⟩, ⟨#[65]⟩, ⟨#[116, 111, 111, 108, 111, 110, 103, 110, 97, 109, 101]⟩, ⟨#[97, 64, 98]⟩]
def badD : List ByteArray := [⟨#[]⟩, ⟨#[97, 46, 46, 98]⟩, ⟨#[46, 97]⟩, ⟨#[97, 46, 98, 46, 99, 46, 100]⟩, ⟨#[85, 112, 46, 111, 114, 103]⟩]
theorem small_of {xs : List ByteArray} {x : ByteArray} (h : xs.all (fun y => decide (y.size ≤ 20)) = true) (hx : x ∈ xs) : x.size ≤ 20 := by
  rw [List.all_eq_true] at h; exact of_decide_eq_true (h x hx)

theorem of_at {B b P n k : Nat} {cs : Array Value} (xs : List ByteArray) {w : World} (h : Rd B b P w) (hk : k = w.heap.size) (hP : P ≤ 1000000) (hcs : cs.toList = xs.map Value.string) (hn : n = xs.length) (h0 : 1 ≤ xs.length) (h1 : xs.length ≤ 1000000) :
    Calls Tryd.prog 99 #[.pointer (some ⟨b, 0, none⟩), .slice (some ⟨k, 0, none⟩) n n] (w.alloc (.cells cs 9)) fun e w' => ∃ x, x ∈ xs ∧ e = .returned (.string x) ∧ Rd B b (P + 1) w' ∧ w.grownBy w' (some b) := by
  subst hk
  exact of_lit B b P n cs xs w h hP hcs hn h0 h1

set_option maxHeartbeats 1000000 in
theorem l20Domain_any (B b P : Nat) (w : World) (h : Rd B b P w) (hP : P ≤ 1000000) :
    Calls Tryd.prog 100 #[.pointer (some ⟨b, 0, none⟩)] w fun e w' => ∃ x, x ∈ drawD ∧ e = .returned (.string x) ∧ Rd B b (P + 1) w' ∧ w.grownBy w' (some b) := by
  have C := Lib.hid (fun W (h : Rd B b P W) => of_lit B b P 7 _ drawD W h hP rfl rfl (by decide) (by decide))
  have H := Lib.hid h
  go_enter Tryd.func100, Tryd.ntmps100
  go_wp2_with fail
  refine (C.out _ h).mono ?_
  rintro e w1 ⟨x, hx, rfl, h1, g1⟩
  have HX := Lib.hid hx
  clear hx
  go_wp2
  go_ret
  exact ⟨x, HX.out, rfl, h1, g1⟩

set_option maxRecDepth 100000 in
set_option maxHeartbeats 400000 in
theorem l20Addr_any (B b P : Nat) (w : World) (h : Rd B b P w) (hP : P + 2 ≤ 1000000) :
    Calls Tryd.prog 60 #[.pointer (some ⟨b, 0, none⟩)] w fun e w' => ∃ u d, u ∈ drawU ∧ d ∈ drawD ∧ e = .returned (.agg #[.string u, .string d]) ∧ Rd B b (P + 2) w' ∧ w.grownBy w' (some b) := by
  have HP := Lib.hid hP
  clear hP
  go_enter Tryd.func60, Tryd.ntmps60
  go_wp2_with fail
  refine (of_at drawU (h.more _) (by simp) (by have := HP.out; omega) rfl rfl (by decide) (by decide)).mono ?_
  rintro e w1 ⟨u, hu, rfl, h1, g1⟩
  have HU := Lib.hid hu
  have H1 := Lib.hid (grow_alloc g1)
  have T1 := Lib.hid ((TwoAt.new w _ _ _).kept g1 (Nat.ne_of_gt h.lt.2))
  clear hu g1
  go_wp2_with fail
  refine (l20Domain_any B b _ _ h1 (by have := HP.out; omega)).mono ?_
  rintro e w2 ⟨d, hd, rfl, h2, g2⟩
  have HD := Lib.hid hd
  obtain ⟨t0, t1, t2, t3⟩ := T1.out.kept g2 (Nat.ne_of_gt h.lt.2)
  have H2 := Lib.hid (H1.out.trans g2)
  have H3 := Lib.hid h2
  have hbs := h.lt.2
  clear hd g2 h2 h1
  go_wp2
  exact bodyPost_ret (v := .agg #[.string u, .string d]) (by simp [results, Tryd.results60, go_sem, t0, t1]) rfl ⟨u, d, HU.out, HD.out, rfl, (H3.out.set hbs _).set hbs _, grow_set (grow_set H2.out (Nat.le_refl _) _) (Nat.le_refl _) _⟩

end Go.Proofs.YtcaknjdolfheaaaDoor
