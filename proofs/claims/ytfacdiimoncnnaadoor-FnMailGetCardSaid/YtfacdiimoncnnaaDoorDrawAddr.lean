/- Contracts: a domain, an address drawn. -/
import Derived.Test.YtfacdiimoncnnaaDoorRd
import Derived.Test.YtfacdiimoncnnaaDoorAddrGet
import Derived.WalkSpells
namespace Go.Proofs.YtfacdiimoncnnaaDoor
open Go Go.RowKit

theorem grow_set {w W : World} {r : Option Nat} {k j : Nat} (h : w.grownBy W r) (hk : w.heap.size ≤ k) (v : Value) : w.grownBy (W.setCell ⟨k, j, none⟩ v) r :=
  ⟨h.os, h.tape, h.output, by simpa using h.size, fun i hi hne => (heap_setCell_other W ⟨k, j, none⟩ i v (by simp; omega)).trans (h.block i hi hne)⟩
theorem grow_more {w W : World} {r : Option Nat} (h : w.grownBy W r) (o : Obj) : w.grownBy (W.alloc o) r :=
  ⟨h.os, h.tape, h.output, Nat.le_trans h.size (by simp), fun k hk hne => (heap_alloc_old W o (Nat.lt_of_lt_of_le hk h.size)).trans (h.block k hk hne)⟩
theorem grow_refl (w : World) (r : Option Nat) : w.grownBy w r := ⟨rfl, rfl, rfl, Nat.le_refl _, fun _ _ _ => rfl⟩
theorem Rd.set {B b P k j : Nat} {w : World} (h : Rd B b P w) (hk : b < k) (v : Value) : Rd B b P (w.setCell ⟨k, j, none⟩ v) := by
  obtain ⟨ao, n, cap, p, h1, h2, h3, h4, h5, h6⟩ := h
  exact ⟨ao, n, cap, p, h1, (heap_setCell_other w ⟨k, j, none⟩ b v (by simp; omega)).trans h2, h3, h4, h5, h6.kept ((Below.refl B w).setCell (p := ⟨k, j, none⟩) (by simp; omega) v) h5⟩
theorem Rd.more {B b P : Nat} {w : World} (h : Rd B b P w) (o : Obj) : Rd B b P (w.alloc o) := h.later ((Below.refl _ _).alloc (Nat.le_refl _) _)

theorem TwoAt.kept {W W' : World} {k b : Nat} {x y : Value} (h : TwoAt W k x y) (hg : W.grownBy W' (some b)) (hb : k ≠ b) : TwoAt W' k x y := by
  obtain ⟨h1, h2, h3, h4⟩ := h
  have hl : k < W.heap.size := World.block_lt_of_cell? W _ h1
  have hk := hg.block k hl (by simpa using hb)
  exact ⟨(World.cell?_of_block (a := ⟨k, 0, none⟩) hk).trans h1, (World.cell?_of_block (a := ⟨k, 1, none⟩) hk).trans h2, (World.frozen?_of_block (a := ⟨k, 0, none⟩) hk).trans h3, (World.frozen?_of_block (a := ⟨k, 1, none⟩) hk).trans h4⟩
theorem TwoAt.set0 {W : World} {k : Nat} {x y : Value} (h : TwoAt W k x y) (v : Value) : TwoAt (W.setCell ⟨k, 0, none⟩ v) k v y := by
  obtain ⟨h1, h2, h3, h4⟩ := h
  exact ⟨World.cell?_setCell_same _ _ _ h1, (World.cell?_setCell_other _ _ _ _ (by simp)).trans h2, by simpa using h3, by simpa using h4⟩
theorem TwoAt.set1 {W : World} {k : Nat} {x y : Value} (h : TwoAt W k x y) (v : Value) : TwoAt (W.setCell ⟨k, 1, none⟩ v) k x v := by
  obtain ⟨h1, h2, h3, h4⟩ := h
  exact ⟨(World.cell?_setCell_other _ _ _ _ (by simp)).trans h1, World.cell?_setCell_same _ _ _ h2, by simpa using h3, by simpa using h4⟩
theorem TwoAt.far {W : World} {k q j : Nat} {x y : Value} (h : TwoAt W k x y) (hk : k ≠ q) (v : Value) : TwoAt (W.setCell ⟨q, j, none⟩ v) k x y := by
  obtain ⟨h1, h2, h3, h4⟩ := h
  exact ⟨(World.cell?_setCell_other _ _ _ _ (fun e => hk (congrArg Addr.block e).symm)).trans h1, (World.cell?_setCell_other _ _ _ _ (fun e => hk (congrArg Addr.block e).symm)).trans h2, by simpa using h3, by simpa using h4⟩

def drawD : List ByteArray := [⟨#[111, 110, 101, 46, 111, 114, 103]⟩, ⟨#[116, 119, 111, 46, 111, 114, 103]⟩, ⟨#[104, 117, 98, 46, 110, 101, 116]⟩, ⟨#[120, 46, 99, 111, 109]⟩, ⟨#[102, 97, 114, 46, 99, 111, 109]⟩, ⟨#[111, 116, 104, 101, 114, 46, 99, 111, 109]⟩, ⟨#[97, 46, 111, 110, 101, 46, 111, 114, 103]⟩]
def drawU : List ByteArray := [⟨#[97]⟩, ⟨#[98]⟩, ⟨#[97, 110, 110]⟩, ⟨#[98, 111, 98, 55]⟩]
def badU : List ByteArray := [⟨#[]⟩, ⟨#[65]⟩, ⟨#[116, 111, 111, 108, 111, 110, 103, 110, 97, 109, 101]⟩, ⟨#[97, 64, 98]⟩]
def badD : List ByteArray := [⟨#[]⟩, ⟨#[97, 46, 46, 98]⟩, ⟨#[46, 97]⟩, ⟨#[97, 46, 98, 46, 99, 46, 100]⟩, ⟨#[85, 112, 46, 111, 114, 103]⟩]
theorem small_of {xs : List ByteArray} {x : ByteArray} (h : xs.all (fun y => decide (y.size ≤ 20)) = true) (hx : x ∈ xs) : x.size ≤ 20 := by
  rw [List.all_eq_true] at h; exact of_decide_eq_true (h x hx)

theorem of_at {B b P n k : Nat} {cs : Array Value} (xs : List ByteArray) {w : World} (h : Rd B b P w) (hk : k = w.heap.size) (hP : P ≤ 1000000) (hcs : cs.toList = xs.map Value.string) (hn : n = xs.length) (h0 : 1 ≤ xs.length) (h1 : xs.length ≤ 1000000) :
    Calls Tryd.prog 153 #[.pointer (some ⟨b, 0, none⟩), .slice (some ⟨k, 0, none⟩) n n] (w.alloc (.cells cs 9)) fun e w' => ∃ x, x ∈ xs ∧ e = .returned (.string x) ∧ Rd B b (P + 1) w' ∧ w.grownBy w' (some b) := by
  subst hk
  exact of_lit B b P n cs xs w h hP hcs hn h0 h1

set_option maxHeartbeats 1000000 in
theorem l20Domain_any (B b P : Nat) (w : World) (h : Rd B b P w) (hP : P ≤ 1000000) :
    Calls Tryd.prog 212 #[.pointer (some ⟨b, 0, none⟩)] w fun e w' => ∃ x, x ∈ drawD ∧ e = .returned (.string x) ∧ Rd B b (P + 1) w' ∧ w.grownBy w' (some b) := by
  have C := Lib.hid (fun W (h : Rd B b P W) => of_lit B b P 7 _ drawD W h hP rfl rfl (by decide) (by decide))
  have H := Lib.hid h
  go_enter Tryd.func212, Tryd.ntmps212
  go_wp2_with fail
  refine (C.out _ h).mono ?_
  rintro e w1 ⟨x, hx, rfl, h1, g1⟩
  have HX := Lib.hid hx
  clear hx
  go_wp2
  go_ret
  exact ⟨x, HX.out, rfl, h1, g1⟩

set_option maxRecDepth 100000 in
set_option maxHeartbeats 400000 in
theorem l20Addr_any (B b P : Nat) (w : World) (h : Rd B b P w) (hP : P + 2 ≤ 1000000) :
    Calls Tryd.prog 171 #[.pointer (some ⟨b, 0, none⟩)] w fun e w' => ∃ u d, u ∈ drawU ∧ d ∈ drawD ∧ e = .returned (.agg #[.string u, .string d]) ∧ Rd B b (P + 2) w' ∧ w.grownBy w' (some b) := by
  have HP := Lib.hid hP
  clear hP
  go_enter Tryd.func171, Tryd.ntmps171
  go_wp2_with fail
  refine (of_at drawU (h.more _) (by simp) (by have := HP.out; omega) rfl rfl (by decide) (by decide)).mono ?_
  rintro e w1 ⟨u, hu, rfl, h1, g1⟩
  have HU := Lib.hid hu
  have H1 := Lib.hid (grow_alloc g1)
  have T1 := Lib.hid ((TwoAt.new w _ _ _).kept g1 (Nat.ne_of_gt h.lt.2))
  clear hu g1
  go_wp2_with fail
  refine (l20Domain_any B b _ _ h1 (by have := HP.out; omega)).mono ?_
  rintro e w2 ⟨d, hd, rfl, h2, g2⟩
  have HD := Lib.hid hd
  obtain ⟨t0, t1, t2, t3⟩ := T1.out.kept g2 (Nat.ne_of_gt h.lt.2)
  have H2 := Lib.hid (H1.out.trans g2)
  have H3 := Lib.hid h2
  have hbs := h.lt.2
  clear hd g2 h2 h1
  go_wp2
  exact bodyPost_ret (v := .agg #[.string u, .string d]) (by simp [results, Tryd.results171, go_sem, t0, t1]) rfl ⟨u, d, HU.out, HD.out, rfl, (H3.out.set hbs _).set hbs _, grow_set (grow_set H2.out (Nat.le_refl _) _) (Nat.le_refl _) _⟩

set_option maxHeartbeats 1000000 in
set_option maxRecDepth 100000 in
theorem l20AnyAddr_any (B b P : Nat) (w : World) (h : Rd B b P w) (hP : P + 4 ≤ 1000000) :
    Calls Tryd.prog 104 #[.pointer (some ⟨b, 0, none⟩)] w fun e w' => ∃ u d, u.size ≤ 20 ∧ d.size ≤ 20 ∧ e = .returned (.agg #[.string u, .string d]) ∧ Rd B b (P + 4) w' ∧ w.grownBy w' (some b) := by
  have HP := Lib.hid hP
  clear hP
  go_enter Tryd.func104, Tryd.ntmps104
  go_wp2_with fail
  refine (l20Addr_any B b P _ (h.more _) (by have := HP.out; omega)).mono ?_
  rintro e w1 ⟨u, d, hu, hd, rfl, h1, g1⟩
  have zu : u.size ≤ 20 := small_of (by decide) hu
  have zd : d.size ≤ 20 := small_of (by decide) hd
  have T1 := Lib.hid ((TwoAt.new w _ _ _).kept g1 (Nat.ne_of_gt h.lt.2))
  have G1 := Lib.hid (grow_alloc g1)
  have L1 := Lib.hid (World.block_lt_of_cell? w1 _ T1.out.1)
  have H1 := Lib.hid h1
  clear hu hd g1 h1
  go_wp2_with fail
  refine (pick_any B b _ 10 _ (H1.out.more _) (by have := HP.out; omega) (by decide) (by decide)).mono ?_
  rintro e w2 ⟨k, rfl, hk, h2, g2⟩
  have hbw := h.lt.2
  have L1' := L1.out
  have hRA : w.heap.size ≠ w1.heap.size := Nat.ne_of_lt L1'
  have TA := Lib.hid ((TwoAt.new w1 _ _ _).kept g2 (by omega))
  have TR := Lib.hid ((T1.out.later ((Below.refl _ _).alloc (Nat.le_refl _) _)).kept g2 (by omega))
  have G2 := Lib.hid (G1.out.trans (grow_alloc g2))
  have H2 := Lib.hid h2
  clear g2 h2 T1 G1 H1 h
  by_cases k0 : k = 0
  · subst k0
    go_wp2_with fail
    refine (of_at badU H2.out (by simp) (by have := HP.out; omega) rfl rfl (by decide) (by decide)).mono ?_
    rintro e w3 ⟨x, hx, rfl, h3, g3⟩
    have zx : x.size ≤ 20 := small_of (by decide) hx
    obtain ⟨a0, a1, a2, a3⟩ := TA.out.kept g3 (by omega)
    have TR3 := Lib.hid (TR.out.kept g3 (by omega))
    obtain ⟨r0, r1, r2, r3⟩ := TR3.out
    have G3 := Lib.hid (G2.out.trans g3)
    have H3 := Lib.hid h3
    clear hx h3 g3
    go_wp2
    obtain ⟨q0, q1, _, _⟩ := ((TR3.out.far (j := 0) hRA (.string x)).set0 (.string x)).set1 (.string d)
    exact bodyPost_ret (v := .agg #[.string x, .string d]) (by simp [results, Tryd.results104, go_sem, q0, q1]) rfl ⟨x, d, by assumption, by assumption, rfl, ((H3.out.set (by omega) _).set hbw _).set hbw _, grow_set (grow_set (grow_set G3.out (by omega) _) (Nat.le_refl _) _) (Nat.le_refl _) _⟩
  · have hb0 : ((k : Int) == 0) = false := by rw [beq_eq_false_iff_ne]; omega
    by_cases k1 : k = 1
    · subst k1
      go_wp2_with fail
      refine (of_at badD H2.out (by simp) (by have := HP.out; omega) rfl rfl (by decide) (by decide)).mono ?_
      rintro e w3 ⟨x, hx, rfl, h3, g3⟩
      have zx : x.size ≤ 20 := small_of (by decide) hx
      obtain ⟨a0, a1, a2, a3⟩ := TA.out.kept g3 (by omega)
      have TR3 := Lib.hid (TR.out.kept g3 (by omega))
      obtain ⟨r0, r1, r2, r3⟩ := TR3.out
      have G3 := Lib.hid (G2.out.trans g3)
      have H3 := Lib.hid h3
      clear hx h3 g3
      go_wp2
      obtain ⟨q0, q1, _, _⟩ := ((TR3.out.far (j := 1) hRA (.string x)).set0 (.string u)).set1 (.string x)
      exact bodyPost_ret (v := .agg #[.string u, .string x]) (by simp [results, Tryd.results104, go_sem, q0, q1]) rfl ⟨u, x, by assumption, by assumption, rfl, ((H3.out.set (by omega) _).set hbw _).set hbw _, grow_set (grow_set (grow_set G3.out (by omega) _) (Nat.le_refl _) _) (Nat.le_refl _) _⟩
    · have hb1 : ((k : Int) == 1) = false := by rw [beq_eq_false_iff_ne]; omega
      obtain ⟨a0, a1, a2, a3⟩ := TA.out
      obtain ⟨r0, r1, r2, r3⟩ := TR.out
      by_cases k2 : k = 2
      · subst k2
        go_wp2
        obtain ⟨q0, q1, _, _⟩ := (TR.out.set0 (.string { data := #[] })).set1 (.string { data := #[] })
        exact bodyPost_ret (v := .agg #[.string { data := #[] }, .string { data := #[] }]) (by simp [results, Tryd.results104, go_sem, q0, q1]) rfl ⟨_, _, by decide, by decide, rfl, ((H2.out.set hbw _).set hbw _).mono (by omega), grow_set (grow_set G2.out (Nat.le_refl _) _) (Nat.le_refl _) _⟩
      · have hb2 : ((k : Int) == 2) = false := by rw [beq_eq_false_iff_ne]; omega
        go_wp2
        obtain ⟨q0, q1, _, _⟩ := (TR.out.set0 (.string u)).set1 (.string d)
        exact bodyPost_ret (v := .agg #[.string u, .string d]) (by simp [results, Tryd.results104, go_sem, q0, q1]) rfl ⟨u, d, zu, zd, rfl, ((H2.out.set hbw _).set hbw _).mono (by omega), grow_set (grow_set G2.out (Nat.le_refl _) _) (Nat.le_refl _) _⟩
end Go.Proofs.YtfacdiimoncnnaaDoor
