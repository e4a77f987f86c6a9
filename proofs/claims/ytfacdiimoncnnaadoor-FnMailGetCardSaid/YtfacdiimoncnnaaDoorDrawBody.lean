/- Contracts: lines drawn; a text bent. -/
import Derived.Test.YtfacdiimoncnnaaDoorRd
import Derived.Test.YtfacdiimoncnnaaDoorLines
namespace Go.Proofs.YtfacdiimoncnnaaDoor
open Go Go.RowKit

theorem grown_drew (w : World) (r : Option Nat) : w.grownBy w.drew r := by
  have h : Below w.heap.size w w.drew := (Below.refl _ _).drew
  exact ⟨h.os, h.tape, h.output, h.size, fun k hk _ => h.block k hk⟩
theorem grow_more' {w W : World} {r : Option Nat} (h : w.grownBy W r) (o : Obj) : w.grownBy (W.alloc o) r :=
  ⟨h.os, h.tape, h.output, Nat.le_trans h.size (by simp), fun k hk hne => (heap_alloc_old W o (Nat.lt_of_lt_of_le hk h.size)).trans (h.block k hk hne)⟩
theorem Rd.more' {B b P : Nat} {w : World} (h : Rd B b P w) (o : Obj) : Rd B b P (w.alloc o) := h.later ((Below.refl _ _).alloc (Nat.le_refl _) _)
theorem of_at' {B b P n k : Nat} {cs : Array Value} (xs : List ByteArray) {w : World} (h : Rd B b P w) (hk : k = w.heap.size) (hP : P ≤ 1000000) (hcs : cs.toList = xs.map Value.string) (hn : n = xs.length) (h0 : 1 ≤ xs.length) (h1 : xs.length ≤ 1000000) :
    Calls Tryd.prog 153 #[.pointer (some ⟨b, 0, none⟩), .slice (some ⟨k, 0, none⟩) n n] (w.alloc (.cells cs 9)) fun e w' => ∃ x, x ∈ xs ∧ e = .returned (.string x) ∧ Rd B b (P + 1) w' ∧ w.grownBy w' (some b) := by
  subst hk
  exact of_lit B b P n cs xs w h hP hcs hn h0 h1
theorem small_in {xs : List ByteArray} {x : ByteArray} {n : Nat} (h : xs.all (fun y => decide (y.size ≤ n)) = true) (hx : x ∈ xs) : x.size ≤ n := by
  rw [List.all_eq_true] at h; exact of_decide_eq_true (h x hx)

def drawL : List ByteArray := [⟨#[104, 101, 108, 108, 111]⟩, ⟨#[]⟩, ⟨#[46]⟩, ⟨#[46, 46]⟩, ⟨#[46, 100, 111, 116]⟩, ⟨#[97, 32, 108, 111, 110, 103, 101, 114, 32, 108, 105, 110, 101, 32, 111, 102, 32, 116, 101, 120, 116]⟩, ⟨#[72, 111, 112, 58, 32, 111, 110, 101, 46, 111, 114, 103]⟩, ⟨#[72, 111, 112, 58, 32]⟩, ⟨#[73, 100, 58, 32, 55]⟩, ⟨#[110, 111, 116, 32, 100, 101, 108, 105, 118, 101, 114, 101, 100, 58]⟩, ⟨#[60, 97, 64, 111, 110, 101, 46, 111, 114, 103, 62]⟩, ⟨#[108, 105, 110, 101, 32, 116, 104, 97, 116, 32, 105, 115, 32, 101, 120, 97, 99, 116, 108, 121, 32, 102, 111, 114, 116, 121, 32, 98, 121, 116, 101, 115, 32, 108, 111, 110, 103, 46, 46, 33]⟩]
def bentA : List ByteArray := [⟨#[46]⟩, ⟨#[13]⟩, ⟨#[10]⟩, ⟨#[60]⟩, ⟨#[62]⟩, ⟨#[48]⟩, ⟨#[32]⟩, ⟨#[64]⟩]
def bentB : List ByteArray := [⟨#[46]⟩, ⟨#[13, 10]⟩, ⟨#[32]⟩, ⟨#[46, 13, 10]⟩]

set_option maxHeartbeats 1000000 in
set_option maxRecDepth 100000 in
theorem l20Line_any (B b P : Nat) (w : World) (h : Rd B b P w) (hP : P ≤ 1000000) :
    Calls Tryd.prog 222 #[.pointer (some ⟨b, 0, none⟩)] w fun e w' => ∃ x, x.size ≤ 40 ∧ e = .returned (.string x) ∧ Rd B b (P + 1) w' ∧ w.grownBy w' (some b) := by
  have H := Lib.hid h
  clear h
  go_enter Tryd.func222, Tryd.ntmps222
  go_wp2_with fail
  refine (of_at' drawL H.out (by simp) hP rfl rfl (by decide) (by decide)).mono ?_
  rintro e w1 ⟨x, hx, rfl, h1, g1⟩
  have zx : x.size ≤ 40 := small_in (by decide) hx
  clear hx
  go_wp2
  go_ret
  exact ⟨x, zx, rfl, h1, g1⟩

theorem pick_at {B b P : Nat} (N : Nat) {v : Int} {w : World} (h : Rd B b P w) (hv : v = (N : Int)) (hP : P ≤ 1000000) (h0 : 1 ≤ N) (h1 : N ≤ 1000000) :
    Calls Tryd.prog 122 #[.pointer (some ⟨b, 0, none⟩), .int .i64 v] w fun e w' => ∃ k : Nat, e = .returned (.int .i64 (k : Int)) ∧ k < N ∧ Rd B b (P + 1) w' ∧ w.grownBy w' (some b) := by
  subst hv
  exact pick_any B b P N w h hP h0 h1

set_option maxHeartbeats 1000000 in
set_option maxRecDepth 100000 in
theorem l20Bent_any (B b P : Nat) (s : ByteArray) (w : World) (h : Rd B b P w) (hP : P + 3 ≤ 1000000) (hs : s.size ≤ 900000) :
    Calls Tryd.prog 123 #[.pointer (some ⟨b, 0, none⟩), .string s] w fun e w' => ∃ x, x.size ≤ s.size + 3 ∧ e = .returned (.string x) ∧ Rd B b (P + 3) w' ∧ w.grownBy w' (some b) := by
  have HP := Lib.hid hP
  clear hP
  go_enter Tryd.func123, Tryd.ntmps123
  have H := Lib.hid h
  clear h
  go_wp2_with fail
  refine (pick_at (s.size + 1) H.out (by go_num) (by have := HP.out; omega) (by omega) (by omega)).mono ?_
  rintro e w1 ⟨k, rfl, hk, h1, g1⟩
  have H1 := Lib.hid h1
  have G1 := Lib.hid g1
  clear h1 g1 H
  go_wp2_with fail
  refine (pick_at 5 H1.out rfl (by have := HP.out; omega) (by decide) (by decide)).mono ?_
  rintro e w2 ⟨j, rfl, hj, h2, g2⟩
  have H2 := Lib.hid h2
  have G2 := Lib.hid (G1.out.trans g2)
  clear h2 g2 H1 G1
  by_cases j0 : j = 0
  · subst j0
    by_cases hks : k < s.size
    · have w1' : IntKind.i64.wrap ((k : Int) + 1) = (k : Int) + 1 := IntWalk.i64_in _ (by omega)
      have o1 : (0 : Int) ≤ (k : Int) ∧ (k : Int) ≤ (s.size : Int) := by omega
      have o2 : (0 : Int) ≤ (k : Int) + 1 := by omega
      have o3 : (k : Int) + 1 ≤ (s.size : Int) := by omega
      have o4 : ((k : Int) + 1).toNat = k + 1 := by omega
      have D2 := Lib.hid (H2.out.later (Below.refl _ _).drew)
      have E2 := Lib.hid (G2.out.trans (grown_drew w2 (some b)))
      go_wp2_with fail
      go_region_with (first | (go_at_call 153; refine (of_at' bentA (w := w2.drew) D2.out (by simp) (by have := HP.out; omega) rfl rfl (by decide) (by decide)).mono ?_; rintro e w3 ⟨x, hx, rfl, h3, g3⟩; have zx : x.size ≤ 3 := small_in (by decide) hx; have H3 := Lib.hid h3; have G3 := Lib.hid (E2.out.trans g3); clear hx h3 g3))
      all_goals
        clear w1' o1 o2 o3 o4
        go_wp2
        go_ret
        exact ⟨_, by simp only [ByteArray.size_append, ByteArray.size_extract]; omega, rfl, H3.out.mono (by omega), G3.out⟩
    · go_wp2
      go_ret
      exact ⟨s, by omega, rfl, H2.out.mono (by omega), G2.out⟩
  · have hb0 : ((j : Int) == 0) = false := by rw [beq_eq_false_iff_ne]; omega
    by_cases j1 : j = 1
    · subst j1
      go_wp2
      go_ret
      exact ⟨_, by simp only [ByteArray.size_extract]; omega, rfl, H2.out.mono (by omega), G2.out⟩
    · have hb1 : ((j : Int) == 1) = false := by rw [beq_eq_false_iff_ne]; omega
      by_cases j2 : j = 2
      · subst j2
        go_wp2_with fail
        refine (of_at' bentB H2.out (by simp) (by have := HP.out; omega) rfl rfl (by decide) (by decide)).mono ?_
        rintro e w3 ⟨x, hx, rfl, h3, g3⟩
        have zx : x.size ≤ 3 := small_in (by decide) hx
        have H3 := Lib.hid h3
        have G3 := Lib.hid (G2.out.trans g3)
        clear hx h3 g3 H2 G2
        go_wp2
        go_ret
        exact ⟨_, by simp only [ByteArray.size_append]; omega, rfl, H3.out.mono (by omega), G3.out⟩
      · have hb2 : ((j : Int) == 2) = false := by rw [beq_eq_false_iff_ne]; omega
        go_wp2
        go_ret
        exact ⟨s, by omega, rfl, H2.out.mono (by omega), G2.out⟩
end Go.Proofs.YtfacdiimoncnnaaDoor
