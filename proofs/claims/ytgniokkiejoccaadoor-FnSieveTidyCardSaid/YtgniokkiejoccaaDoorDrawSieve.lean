/- Contract: rules drawn. -/
import Derived.Test.YtgniokkiejoccaaDoorDrawAnyMail
import Derived.Test.YtgniokkiejoccaaDoorOne
import Derived.Test.YtgniokkiejoccaaDoorSieveTidy
namespace Go.Proofs.YtgniokkiejoccaaDoor
open Go Go.RowKit

def txt1 : List ByteArray := [⟨#[111, 110, 101, 46, 111, 114, 103]⟩, ⟨#[111, 114, 103]⟩, ⟨#[99, 111, 109]⟩, ⟨#[120, 46, 99, 111, 109]⟩]
def txt2 : List ByteArray := [⟨#[104, 101, 108, 108, 111]⟩, { data := #[] }, ⟨#[73, 100, 58, 32]⟩, ⟨#[46]⟩, ⟨#[72, 111, 112]⟩]
def txt3 : List ByteArray := [⟨#[65]⟩, ⟨#[97, 10, 98]⟩, ⟨#[120]⟩]
/-- What drawn rules are: few, and small. -/
def Rules5 (xs : List RuleD) : Prop := xs.length ≤ 5 ∧ ∀ x ∈ xs, ruleN x ≤ 200
theorem rules_more {xs : List RuleD} {x : RuleD} (h : ∀ y ∈ xs, ruleN y ≤ 100) (hx : ruleN x ≤ 100) : ∀ y ∈ xs ++ [x], ruleN y ≤ 100 := by
  intro y hy
  rcases List.mem_append.1 hy with hy | hy
  · exact h y hy
  · rw [List.mem_singleton.1 hy]; exact hx
abbrev ruleRow (v : Value) (xs : List RuleD) (n : Nat) : Res := Res.row 41 5 v n (ruleE.all xs (units1 xs))

theorem dwSetRule {B b P : Nat} {w0 w : World} {g cap : Nat} {xs : List RuleD} {l : List Res} (h : Dw B b P w0 w (rulesV (.slice (some ⟨g, 0, none⟩) xs.length cap) xs :: l)) {j : Nat} {y : RuleD} (hy : xs[j]? = some y) (f : Nat) (hf : f < 5) (v : Value) (y' : RuleD) (e : ruleL y' = (ruleL y).set f v) :
    Dw B b P w0 (w.setCell ⟨g, j * 5 + f, none⟩ v) (rulesV (.slice (some ⟨g, 0, none⟩) xs.length cap) (xs.set j y') :: l) := by
  have hj := (List.getElem?_eq_some_iff.1 hy).1
  have hx := take_drop_at hy
  have hset : xs.set j y' = xs.take j ++ y' :: xs.drop (j + 1) := by rw [List.set_eq_take_append_cons_drop, if_pos hj]
  have hu : ∀ n : Nat, n = xs.length → List.replicate n () = List.replicate j () ++ () :: List.replicate (xs.length - (j + 1)) () := fun n hn => by
    rw [← List.replicate_succ, List.replicate_append_replicate]
    congr 1
    omega
  have s : StX (fun i => i = b) w0 w (Res.row 41 ruleE.size (.slice (some ⟨g, 0, none⟩) xs.length cap) xs.length (ruleE.all (xs.take j ++ y :: xs.drop (j + 1)) (List.replicate j () ++ () :: List.replicate (xs.length - (j + 1)) ())) :: l) := by
    rw [← hx, ← hu xs.length rfl]
    exact h.st
  have s2 := s.setElem ruleE (by simp; omega) (i := j) (by simp; omega) (j := f) hf v y' e
  refine ⟨?_, h.rd.set (by have := (h.st.low g rfl).1; have := h.lt; omega) v, h.lt⟩
  rw [← hset, ← hu (xs.set j y').length (by simp)] at s2
  have hl : (xs.set j y').length = xs.length := by simp
  unfold rulesV
  rw [hl]
  exact s2
theorem small_set {xs : List RuleD} {j : Nat} {y' : RuleD} (h : ∀ y ∈ xs, ruleN y ≤ 100) (hy : ruleN y' ≤ 200) : ∀ y ∈ xs.set j y', ruleN y ≤ 200 := fun y hm => by
  rcases List.mem_or_eq_of_mem_set hm with h1 | h1
  · exact Nat.le_trans (h y h1) (by omega)
  · rw [h1]; exact hy

set_option maxHeartbeats 12800000 in
set_option maxRecDepth 100000 in
theorem l20Sieve_any (B b P : Nat) (w : World) (h : Rd B b P w) (hP : P ≤ 500000) :
    Calls Tryd.prog 34 #[.pointer (some ⟨b, 0, none⟩)] w fun e w' => ∃ ao c xs, e = .returned (.slice ao xs.length c) ∧ Rules5 xs ∧ w'.ownsRow w.heap.size 41 5 (.slice ao xs.length c) xs.length (ruleE.all xs (units1 xs)) ∧ Rd B b (P + 50) w' ∧ w.grownBy w' (some b) := by
  obtain ⟨i0, hi, hz0, hz1, hz2⟩ := info_parts infoRule
  have D0 : Seal (Dw B b P w (w.alloc (.cells #[] 41)) [rulesV (.slice (some ⟨w.heap.size, 0, none⟩) 0 0) []]) := ⟨⟨(StX.start _ w).made 41 5 #[] 0 (by unfold maxLen; omega) rfl, h.more _, h.lt.2⟩⟩
  clear h
  go_enter Tryd.func34, Tryd.ntmps34
  go_wp2_with fail
  refine (pick_at 6 D0.out.rd rfl (by omega) (by decide) (by decide)).mono ?_
  rintro e w1 ⟨n0, rfl, hn0, h1, g1⟩
  have D1 : Seal _ := ⟨D0.out.draw h1 g1⟩
  clear h1 g1 D0
  go_wp2
  go_loopw [3, 4] (fun v i wr => ∃ (xs : List RuleD) (n : Nat), i = .int .i64 n ∧ n + xs.length ≤ 5 ∧ Seal (∀ x ∈ xs, ruleN x ≤ 100) ∧ Seal (Dw B b (P + 1 + xs.length * 5) w wr [rulesV v xs])) (fun _ i _ => (intOf i).toNat)
  case atStart => exact ⟨[], n0, rfl, by simp; omega, ⟨fun x hx => by cases hx⟩, ⟨D1.out⟩⟩
  case round =>
    obtain ⟨xs, n, rfl, hn, HR, D⟩ := hrel
    clear D1 hn0
    obtain ⟨ao, c, rfl, hcap⟩ := rules_value D.out.st.head
    cases n with
    | zero =>
      rcases Nat.eq_zero_or_pos xs.length with h0 | h0
      · obtain rfl : xs = [] := List.eq_nil_of_length_eq_zero h0
        have DE : Seal _ := ⟨D.out⟩
        clear D
        go_wp2
        go_ret
        exact ⟨ao, c, [], rfl, ⟨by simp, fun x hx => by cases hx⟩, DE.out.st.rowAt, DE.out.rd.mono (by simp <;> omega), DE.out.grown⟩
      go_wp2_with fail
      refine (pick_at 12 D.out.rd rfl (by omega) (by decide) (by decide)).mono ?_
      rintro e w2 ⟨k, rfl, hk, h2, g2⟩
      have D2 : Seal _ := ⟨D.out.draw h2 g2⟩
      clear h2 g2 D
      by_cases hk0 : k = 0
      · subst hk0
        go_wp2_with fail
        refine (pick_at xs.length D2.out.rd rfl (by omega) (by omega) (by omega)).mono ?_
        rintro e w3 ⟨j, rfl, hj, h3, g3⟩
        have D3 : Seal _ := ⟨D2.out.draw h3 g3⟩
        clear h3 g3 D2
        go_wp2_with fail
        refine (pick_at 3 D3.out.rd rfl (by omega) (by decide) (by decide)).mono ?_
        rintro e w4 ⟨k3, rfl, hk3, h4, g4⟩
        have D4 : Seal _ := ⟨D3.out.draw h4 g4⟩
        clear h4 g4 D3
        obtain ⟨y, hy⟩ : ∃ y, xs[j]? = some y := ⟨_, List.getElem?_eq_getElem hj⟩
        have hyn := HR.out y (List.mem_of_getElem? hy)
        have HY : Seal _ := ⟨hy⟩
        rcases slice_or D4.out.st.head with hz | ⟨g, rfl⟩
        · omega
        clear hy
        unfold ruleN at hyn
        rcases (show k3 = 0 ∨ k3 = 1 ∨ k3 = 2 by omega) with rfl | rfl | rfl
        · go_wp2_with fail
          refine (one_int [0, 5] D4.out.rd (by simp) (by omega) rfl rfl (by decide) (by decide)).mono ?_
          rintro e w5 ⟨x, hx, rfl, h5, g5⟩
          have D5 : Seal _ := ⟨D4.out.draw h5 g5⟩
          clear h5 g5 D4 hx
          have ho := D5.out.st.head
          obtain ⟨v0, e0⟩ : ∃ v, w5.cell? ⟨g, j * 5, none⟩ = some v := row_cell ho (j * 5) (by show j * 5 < xs.length * 5; omega)
          have f0 := World.ownsRow.frozenAt ho (j * 5)
          have D6 : Seal (Dw B b _ w (w5.setCell ⟨g, j * 5, none⟩ (.int .i64 x)) _) := ⟨dwSetRule D5.out HY.out 0 (by decide) (.int .i64 x) ⟨x, y.txt, y.act, y.u, y.d⟩ rfl⟩
          have H6 : Seal _ := ⟨small_set (j := j) (y' := ⟨x, y.txt, y.act, y.u, y.d⟩) HR.out (by unfold ruleN; dsimp only; omega)⟩
          clear ho D5
          go_wp2
          go_ret
          exact ⟨some ⟨g, 0, none⟩, c, xs.set j ⟨x, y.txt, y.act, y.u, y.d⟩, by (rw [List.length_set]; rfl), ⟨by rw [List.length_set]; omega, H6.out⟩, by have q := D6.out.st.rowAt; rw [List.length_set] at q ⊢; exact q, D6.out.rd.mono (by omega), D6.out.grown⟩
        · go_wp2_with fail
          refine (of_at' txt3 D4.out.rd (by simp) (by omega) rfl rfl (by decide) (by decide)).mono ?_
          rintro e w5 ⟨x, hx, rfl, h5, g5⟩
          have D5 : Seal _ := ⟨D4.out.draw h5 g5⟩
          have zx : x.size ≤ 20 := small_of (by decide) hx
          clear h5 g5 D4 hx
          have ho := D5.out.st.head
          obtain ⟨v0, e0⟩ : ∃ v, w5.cell? ⟨g, j * 5 + 1, none⟩ = some v := row_cell ho (j * 5 + 1) (by show j * 5 + 1 < xs.length * 5; omega)
          have f0 := World.ownsRow.frozenAt ho (j * 5 + 1)
          have D6 : Seal (Dw B b _ w (w5.setCell ⟨g, j * 5 + 1, none⟩ (.string x)) _) := ⟨dwSetRule D5.out HY.out 1 (by decide) (.string x) ⟨y.ask, x, y.act, y.u, y.d⟩ rfl⟩
          have H6 : Seal _ := ⟨small_set (j := j) (y' := ⟨y.ask, x, y.act, y.u, y.d⟩) HR.out (by have := HR.out y (List.mem_of_getElem? HY.out); unfold ruleN; dsimp only; omega)⟩
          clear ho D5
          go_wp2
          go_ret
          exact ⟨some ⟨g, 0, none⟩, c, xs.set j ⟨y.ask, x, y.act, y.u, y.d⟩, by (rw [List.length_set]; rfl), ⟨by rw [List.length_set]; omega, H6.out⟩, by have q := D6.out.st.rowAt; rw [List.length_set] at q ⊢; exact q, D6.out.rd.mono (by omega), D6.out.grown⟩
        · go_wp2_with fail
          refine (l20AnyAddr_any B b _ _ D4.out.rd (by omega)).mono ?_
          rintro e w5 ⟨u, d, hu, hd, rfl, h5, g5⟩
          have D5 : Seal _ := ⟨D4.out.draw h5 g5⟩
          clear h5 g5 D4
          have ho := D5.out.st.head
          obtain ⟨v0, e0⟩ : ∃ v, w5.cell? ⟨g, j * 5 + 3, none⟩ = some v := row_cell ho (j * 5 + 3) (by show j * 5 + 3 < xs.length * 5; omega)
          obtain ⟨v1, e1⟩ : ∃ v, w5.cell? ⟨g, j * 5 + 4, none⟩ = some v := row_cell ho (j * 5 + 4) (by show j * 5 + 4 < xs.length * 5; omega)
          have f0 := World.ownsRow.frozenAt ho (j * 5 + 3)
          have f1 := World.ownsRow.frozenAt ho (j * 5 + 4)
          have d6 := dwSetRule D5.out HY.out 3 (by decide) (.string u) ⟨y.ask, y.txt, y.act, u, y.d⟩ rfl
          have hl : xs.length = (xs.set j ⟨y.ask, y.txt, y.act, u, y.d⟩).length := by rw [List.length_set]
          rw [hl] at d6
          have D7 : Seal (Dw B b _ w ((w5.setCell ⟨g, j * 5 + 3, none⟩ (.string u)).setCell ⟨g, j * 5 + 4, none⟩ (.string d)) _) := ⟨dwSetRule d6 (y := ⟨y.ask, y.txt, y.act, u, y.d⟩) (by rw [List.getElem?_set_self hj]) 4 (by decide) (.string d) ⟨y.ask, y.txt, y.act, u, d⟩ rfl⟩
          have H6 : Seal _ := ⟨small_set (j := j) (y' := ⟨y.ask, y.txt, y.act, u, d⟩) HR.out (by unfold ruleN; dsimp only; omega)⟩
          clear ho D5 d6
          rw [List.set_set] at D7
          rw [← hl] at D7
          clear hl
          go_wp2
          go_ret
          exact ⟨some ⟨g, 0, none⟩, c, xs.set j ⟨y.ask, y.txt, y.act, u, d⟩, by (rw [List.length_set]; rfl), ⟨by rw [List.length_set]; omega, H6.out⟩, by have q := D7.out.st.rowAt; rw [List.length_set] at q ⊢; exact q, D7.out.rd.mono (by omega), D7.out.grown⟩
      · have b0 : ((k : Int) == 0) = false := by rw [beq_eq_false_iff_ne]; omega
        have DE : Seal _ := ⟨D2.out⟩
        clear D2
        go_wp2
        go_ret
        exact ⟨ao, c, xs, rfl, ⟨by omega, fun x hx => Nat.le_trans (HR.out x hx) (by omega)⟩, DE.out.st.rowAt, DE.out.rd.mono (by omega), DE.out.grown⟩
    | succ n =>
      have q0 : (0 : Int) < ((n + 1 : Nat) : Int) := by omega
      go_wp2_with fail
      refine (pick_at 4 D.out.rd rfl (by omega) (by decide) (by decide)).mono ?_
      rintro e w2 ⟨k1, rfl, hk1, h2, g2⟩
      have D2 : Seal _ := ⟨D.out.draw h2 g2⟩
      clear h2 g2 D
      go_wp2_with fail
      refine (pick_at 3 D2.out.rd rfl (by omega) (by decide) (by decide)).mono ?_
      rintro e w3 ⟨k2, rfl, hk2, h3, g3⟩
      have D3 : Seal _ := ⟨D2.out.draw h3 g3⟩
      clear h3 g3 D2
      rcases (show k1 = 0 ∨ k1 ≠ 0 by omega) with rfl | hne0
      · rcases (show k2 = 0 ∨ k2 ≠ 0 by omega) with rfl | hm0
        · have D4 : Seal _ := ⟨D3.out.alloc #[.int .i64 1, .string { data := #[] }, .int .i64 1, .string { data := #[] }, .string { data := #[] }] 41⟩
          clear D3
          have KB := D4.out.st.head
          have c0 := KB.c 0 _ rfl
          have f0 := KB.f 0 (by simp)
          have c1 := KB.c 1 _ rfl
          have f1 := KB.f 1 (by simp)
          have c2 := KB.c 2 _ rfl
          have f2 := KB.f 2 (by simp)
          have c3 := KB.c 3 _ rfl
          have f3 := KB.f 3 (by simp)
          have c4 := KB.c 4 _ rfl
          have f4 := KB.f 4 (by simp)
          have lk := KB.lt
          clear KB
          go_wp2_with fail
          refine (of_at' txt1 D4.out.rd (by simp) (by omega) rfl rfl (by decide) (by decide)).mono ?_
          rintro e w5 ⟨s, hs, rfl, h5, g5⟩
          have D5 : Seal _ := ⟨(D4.out.draw h5 g5).set 1 (.string s) (by simp)⟩
          have E5 : Seal _ := ⟨D4.out.draw h5 g5⟩
          have zs : s.size ≤ 20 := small_of (by decide) hs
          clear h5 g5 hs D4
          clear c0 c1 c2 c3 c4 f0 f1 f2 f3 f4 lk
          have KB := E5.out.st.head
          have c0 := KB.c 0 _ rfl
          have f0 := KB.f 0 (by simp)
          have c1 := KB.c 1 _ rfl
          have f1 := KB.f 1 (by simp)
          have c2 := KB.c 2 _ rfl
          have f2 := KB.f 2 (by simp)
          have c3 := KB.c 3 _ rfl
          have f3 := KB.f 3 (by simp)
          have c4 := KB.c 4 _ rfl
          have f4 := KB.f 4 (by simp)
          have lk := KB.lt
          clear KB
          clear E5
          obtain ⟨m, hm⟩ : ∃ m, xs.length = m := ⟨_, rfl⟩
          have HM : Seal _ := ⟨hm⟩
          have DA : Seal (Dw B b (P + 1 + xs.length * 5 + 1 + 1 + 1) w ((w5.setCell ⟨w3.heap.size, 1, none⟩ (.string s)).alloc (.cells (ruleV (⟨1, s, 1, { data := #[] }, { data := #[] }⟩ : RuleD)) 41)) [ruleRow (.slice ao m c) xs m]) := ⟨by rw [← hm]; exact D5.out.tail.more _⟩
          have OW : Seal (World.ownsRow _ 0 41 5 (.slice ao m c) m (ruleE.all xs (units1 xs))) := ⟨DA.out.st.head⟩
          rw [hm] at hn hcap ⊢
          clear hm
          go_wp2_with (at_builtin; refine wpList_append_own_at _ rfl _ _ 23 rfl 0 41 i0 (.agg #[.int .i64 0, .string ByteArray.empty, .int .i64 0, .string ByteArray.empty, .string ByteArray.empty]) 5 64 Tryd.underlying23 hi hz0 hz1 hz2 rfl (by decide) _ _ _ rfl OW.out ⟨w5.heap.size, 0, none⟩ 1 1 (ruleL (⟨1, s, 1, { data := #[] }, { data := #[] }⟩ : RuleD)) rfl rfl ?c1 ?c2 ?c3 ?c4 ?c5 ?_)
          case c1 =>
            intro j vv hj
            have := (CellsM.new (w5.setCell ⟨w3.heap.size, 1, none⟩ (.string s)) (ruleV (⟨1, s, 1, { data := #[] }, { data := #[] }⟩ : RuleD)) 41).c j vv hj
            try simp only [World.size_setCell] at this
            try simp only [World.size_alloc] at this
            by_cases h0 : j = 0
            · subst h0; simpa [Addr.add] using this
            · simpa [Addr.add, h0] using this
          case c2 => exact rule_one _
          case c3 => unfold maxLen; omega
          case c4 => omega
          case c5 => exact Nat.zero_le _
          intro v' w9 hown hg _ hat
          have d5 := DA.out.app hown hg (by simpa using hat)
          have D5 : Seal (Dw B b (P + 1 + (xs ++ [(⟨1, s, 1, { data := #[] }, { data := #[] }⟩ : RuleD)]).length * 5) w w9 [rulesV v' (xs ++ [(⟨1, s, 1, { data := #[] }, { data := #[] }⟩ : RuleD)])]) := ⟨by
            unfold rulesV
            rw [rules_snoc, List.length_append, HM.out]
            exact d5.up (by have e9 := HM.out; simp; omega)⟩
          have HR2 : Seal _ := ⟨rules_more (x := (⟨1, s, 1, { data := #[] }, { data := #[] }⟩ : RuleD)) HR.out (by have e0 : ({ data := #[] } : ByteArray).size = 0 := rfl; unfold ruleN; dsimp only; omega)⟩
          clear hown hg hat OW DA d5
          go_wp2
          go_roundw
          case rel => exact ⟨xs ++ [(⟨1, s, 1, { data := #[] }, { data := #[] }⟩ : RuleD)], n, by go_num, by rw [List.length_append, HM.out]; simp; omega, HR2, D5⟩
          case measure => simp [intOf]
        rcases (show k2 = 1 ∨ k2 ≠ 1 by omega) with rfl | hm1
        · have D4 : Seal _ := ⟨D3.out.alloc #[.int .i64 1, .string { data := #[] }, .int .i64 2, .string { data := #[] }, .string { data := #[] }] 41⟩
          clear D3
          have KB := D4.out.st.head
          have c0 := KB.c 0 _ rfl
          have f0 := KB.f 0 (by simp)
          have c1 := KB.c 1 _ rfl
          have f1 := KB.f 1 (by simp)
          have c2 := KB.c 2 _ rfl
          have f2 := KB.f 2 (by simp)
          have c3 := KB.c 3 _ rfl
          have f3 := KB.f 3 (by simp)
          have c4 := KB.c 4 _ rfl
          have f4 := KB.f 4 (by simp)
          have lk := KB.lt
          clear KB
          go_wp2_with fail
          refine (of_at' txt1 D4.out.rd (by simp) (by omega) rfl rfl (by decide) (by decide)).mono ?_
          rintro e w5 ⟨s, hs, rfl, h5, g5⟩
          have D5 : Seal _ := ⟨(D4.out.draw h5 g5).set 1 (.string s) (by simp)⟩
          have E5 : Seal _ := ⟨D4.out.draw h5 g5⟩
          have zs : s.size ≤ 20 := small_of (by decide) hs
          clear h5 g5 hs D4
          clear c0 c1 c2 c3 c4 f0 f1 f2 f3 f4 lk
          have KB := E5.out.st.head
          have c0 := KB.c 0 _ rfl
          have f0 := KB.f 0 (by simp)
          have c1 := KB.c 1 _ rfl
          have f1 := KB.f 1 (by simp)
          have c2 := KB.c 2 _ rfl
          have f2 := KB.f 2 (by simp)
          have c3 := KB.c 3 _ rfl
          have f3 := KB.f 3 (by simp)
          have c4 := KB.c 4 _ rfl
          have f4 := KB.f 4 (by simp)
          have lk := KB.lt
          clear KB
          clear E5
          obtain ⟨m, hm⟩ : ∃ m, xs.length = m := ⟨_, rfl⟩
          have HM : Seal _ := ⟨hm⟩
          have DA : Seal (Dw B b (P + 1 + xs.length * 5 + 1 + 1 + 1) w ((w5.setCell ⟨w3.heap.size, 1, none⟩ (.string s)).alloc (.cells (ruleV (⟨1, s, 2, { data := #[] }, { data := #[] }⟩ : RuleD)) 41)) [ruleRow (.slice ao m c) xs m]) := ⟨by rw [← hm]; exact D5.out.tail.more _⟩
          have OW : Seal (World.ownsRow _ 0 41 5 (.slice ao m c) m (ruleE.all xs (units1 xs))) := ⟨DA.out.st.head⟩
          rw [hm] at hn hcap ⊢
          clear hm
          go_wp2_with (at_builtin; refine wpList_append_own_at _ rfl _ _ 23 rfl 0 41 i0 (.agg #[.int .i64 0, .string ByteArray.empty, .int .i64 0, .string ByteArray.empty, .string ByteArray.empty]) 5 64 Tryd.underlying23 hi hz0 hz1 hz2 rfl (by decide) _ _ _ rfl OW.out ⟨w5.heap.size, 0, none⟩ 1 1 (ruleL (⟨1, s, 2, { data := #[] }, { data := #[] }⟩ : RuleD)) rfl rfl ?c1 ?c2 ?c3 ?c4 ?c5 ?_)
          case c1 =>
            intro j vv hj
            have := (CellsM.new (w5.setCell ⟨w3.heap.size, 1, none⟩ (.string s)) (ruleV (⟨1, s, 2, { data := #[] }, { data := #[] }⟩ : RuleD)) 41).c j vv hj
            try simp only [World.size_setCell] at this
            try simp only [World.size_alloc] at this
            by_cases h0 : j = 0
            · subst h0; simpa [Addr.add] using this
            · simpa [Addr.add, h0] using this
          case c2 => exact rule_one _
          case c3 => unfold maxLen; omega
          case c4 => omega
          case c5 => exact Nat.zero_le _
          intro v' w9 hown hg _ hat
          have d5 := DA.out.app hown hg (by simpa using hat)
          have D5 : Seal (Dw B b (P + 1 + (xs ++ [(⟨1, s, 2, { data := #[] }, { data := #[] }⟩ : RuleD)]).length * 5) w w9 [rulesV v' (xs ++ [(⟨1, s, 2, { data := #[] }, { data := #[] }⟩ : RuleD)])]) := ⟨by
            unfold rulesV
            rw [rules_snoc, List.length_append, HM.out]
            exact d5.up (by have e9 := HM.out; simp; omega)⟩
          have HR2 : Seal _ := ⟨rules_more (x := (⟨1, s, 2, { data := #[] }, { data := #[] }⟩ : RuleD)) HR.out (by have e0 : ({ data := #[] } : ByteArray).size = 0 := rfl; unfold ruleN; dsimp only; omega)⟩
          clear hown hg hat OW DA d5
          go_wp2
          go_roundw
          case rel => exact ⟨xs ++ [(⟨1, s, 2, { data := #[] }, { data := #[] }⟩ : RuleD)], n, by go_num, by rw [List.length_append, HM.out]; simp; omega, HR2, D5⟩
          case measure => simp [intOf]
        obtain rfl : k2 = 2 := by omega
        have D4 : Seal _ := ⟨D3.out.alloc #[.int .i64 1, .string { data := #[] }, .int .i64 3, .string { data := #[] }, .string { data := #[] }] 41⟩
        clear D3
        have KB := D4.out.st.head
        have c0 := KB.c 0 _ rfl
        have f0 := KB.f 0 (by simp)
        have c1 := KB.c 1 _ rfl
        have f1 := KB.f 1 (by simp)
        have c2 := KB.c 2 _ rfl
        have f2 := KB.f 2 (by simp)
        have c3 := KB.c 3 _ rfl
        have f3 := KB.f 3 (by simp)
        have c4 := KB.c 4 _ rfl
        have f4 := KB.f 4 (by simp)
        have lk := KB.lt
        clear KB
        go_wp2_with fail
        refine (of_at' txt1 D4.out.rd (by simp) (by omega) rfl rfl (by decide) (by decide)).mono ?_
        rintro e w5 ⟨s, hs, rfl, h5, g5⟩
        have D5 : Seal _ := ⟨(D4.out.draw h5 g5).set 1 (.string s) (by simp)⟩
        have E5 : Seal _ := ⟨D4.out.draw h5 g5⟩
        have zs : s.size ≤ 20 := small_of (by decide) hs
        clear h5 g5 hs D4
        clear c0 c1 c2 c3 c4 f0 f1 f2 f3 f4 lk
        have KB := E5.out.st.head
        have c0 := KB.c 0 _ rfl
        have f0 := KB.f 0 (by simp)
        have c1 := KB.c 1 _ rfl
        have f1 := KB.f 1 (by simp)
        have c2 := KB.c 2 _ rfl
        have f2 := KB.f 2 (by simp)
        have c3 := KB.c 3 _ rfl
        have f3 := KB.f 3 (by simp)
        have c4 := KB.c 4 _ rfl
        have f4 := KB.f 4 (by simp)
        have lk := KB.lt
        clear KB
        clear E5
        go_wp2_with fail
        refine (l20Addr_any B b _ _ D5.out.rd (by omega)).mono ?_
        rintro e w6 ⟨u, d, hu, hd, rfl, h6, g6⟩
        have D6 : Seal _ := ⟨((D5.out.draw h6 g6).set 3 (.string u) (by simp)).set 4 (.string d) (by simp)⟩
        have E6 : Seal _ := ⟨D5.out.draw h6 g6⟩
        have zu : u.size ≤ 20 := small_of (by decide) hu
        have zd : d.size ≤ 20 := small_of (by decide) hd
        clear h6 g6 hu hd D5
        clear c0 c1 c2 c3 c4 f0 f1 f2 f3 f4 lk
        have KB := E6.out.st.head
        have c0 := KB.c 0 _ rfl
        have f0 := KB.f 0 (by simp)
        have c1 := KB.c 1 _ rfl
        have f1 := KB.f 1 (by simp)
        have c2 := KB.c 2 _ rfl
        have f2 := KB.f 2 (by simp)
        have c3 := KB.c 3 _ rfl
        have f3 := KB.f 3 (by simp)
        have c4 := KB.c 4 _ rfl
        have f4 := KB.f 4 (by simp)
        have lk := KB.lt
        clear KB
        clear E6
        obtain ⟨m, hm⟩ : ∃ m, xs.length = m := ⟨_, rfl⟩
        have HM : Seal _ := ⟨hm⟩
        have DA : Seal (Dw B b (P + 1 + xs.length * 5 + 1 + 1 + 1 + 2) w (((w6.setCell ⟨w3.heap.size, 3, none⟩ (.string u)).setCell ⟨w3.heap.size, 4, none⟩ (.string d)).alloc (.cells (ruleV (⟨1, s, 3, u, d⟩ : RuleD)) 41)) [ruleRow (.slice ao m c) xs m]) := ⟨by rw [← hm]; exact D6.out.tail.more _⟩
        have OW : Seal (World.ownsRow _ 0 41 5 (.slice ao m c) m (ruleE.all xs (units1 xs))) := ⟨DA.out.st.head⟩
        rw [hm] at hn hcap ⊢
        clear hm
        go_wp2_with (at_builtin; refine wpList_append_own_at _ rfl _ _ 23 rfl 0 41 i0 (.agg #[.int .i64 0, .string ByteArray.empty, .int .i64 0, .string ByteArray.empty, .string ByteArray.empty]) 5 64 Tryd.underlying23 hi hz0 hz1 hz2 rfl (by decide) _ _ _ rfl OW.out ⟨w6.heap.size, 0, none⟩ 1 1 (ruleL (⟨1, s, 3, u, d⟩ : RuleD)) rfl rfl ?c1 ?c2 ?c3 ?c4 ?c5 ?_)
        case c1 =>
          intro j vv hj
          have := (CellsM.new ((w6.setCell ⟨w3.heap.size, 3, none⟩ (.string u)).setCell ⟨w3.heap.size, 4, none⟩ (.string d)) (ruleV (⟨1, s, 3, u, d⟩ : RuleD)) 41).c j vv hj
          try simp only [World.size_setCell] at this
          try simp only [World.size_alloc] at this
          by_cases h0 : j = 0
          · subst h0; simpa [Addr.add] using this
          · simpa [Addr.add, h0] using this
        case c2 => exact rule_one _
        case c3 => unfold maxLen; omega
        case c4 => omega
        case c5 => exact Nat.zero_le _
        intro v' w9 hown hg _ hat
        have d5 := DA.out.app hown hg (by simpa using hat)
        have D5 : Seal (Dw B b (P + 1 + (xs ++ [(⟨1, s, 3, u, d⟩ : RuleD)]).length * 5) w w9 [rulesV v' (xs ++ [(⟨1, s, 3, u, d⟩ : RuleD)])]) := ⟨by
          unfold rulesV
          rw [rules_snoc, List.length_append, HM.out]
          exact d5.up (by have e9 := HM.out; simp; omega)⟩
        have HR2 : Seal _ := ⟨rules_more (x := (⟨1, s, 3, u, d⟩ : RuleD)) HR.out (by have e0 : ({ data := #[] } : ByteArray).size = 0 := rfl; unfold ruleN; dsimp only; omega)⟩
        clear hown hg hat OW DA d5
        go_wp2
        go_roundw
        case rel => exact ⟨xs ++ [(⟨1, s, 3, u, d⟩ : RuleD)], n, by go_num, by rw [List.length_append, HM.out]; simp; omega, HR2, D5⟩
        case measure => simp [intOf]
      rcases (show k1 = 1 ∨ k1 ≠ 1 by omega) with rfl | hne1
      · rcases (show k2 = 0 ∨ k2 ≠ 0 by omega) with rfl | hm0
        · have D4 : Seal _ := ⟨D3.out.alloc #[.int .i64 2, .string { data := #[] }, .int .i64 1, .string { data := #[] }, .string { data := #[] }] 41⟩
          clear D3
          have KB := D4.out.st.head
          have c0 := KB.c 0 _ rfl
          have f0 := KB.f 0 (by simp)
          have c1 := KB.c 1 _ rfl
          have f1 := KB.f 1 (by simp)
          have c2 := KB.c 2 _ rfl
          have f2 := KB.f 2 (by simp)
          have c3 := KB.c 3 _ rfl
          have f3 := KB.f 3 (by simp)
          have c4 := KB.c 4 _ rfl
          have f4 := KB.f 4 (by simp)
          have lk := KB.lt
          clear KB
          go_wp2_with fail
          refine (of_at' txt2 D4.out.rd (by simp) (by omega) rfl rfl (by decide) (by decide)).mono ?_
          rintro e w5 ⟨s, hs, rfl, h5, g5⟩
          have D5 : Seal _ := ⟨(D4.out.draw h5 g5).set 1 (.string s) (by simp)⟩
          have E5 : Seal _ := ⟨D4.out.draw h5 g5⟩
          have zs : s.size ≤ 20 := small_of (by decide) hs
          clear h5 g5 hs D4
          clear c0 c1 c2 c3 c4 f0 f1 f2 f3 f4 lk
          have KB := E5.out.st.head
          have c0 := KB.c 0 _ rfl
          have f0 := KB.f 0 (by simp)
          have c1 := KB.c 1 _ rfl
          have f1 := KB.f 1 (by simp)
          have c2 := KB.c 2 _ rfl
          have f2 := KB.f 2 (by simp)
          have c3 := KB.c 3 _ rfl
          have f3 := KB.f 3 (by simp)
          have c4 := KB.c 4 _ rfl
          have f4 := KB.f 4 (by simp)
          have lk := KB.lt
          clear KB
          clear E5
          obtain ⟨m, hm⟩ : ∃ m, xs.length = m := ⟨_, rfl⟩
          have HM : Seal _ := ⟨hm⟩
          have DA : Seal (Dw B b (P + 1 + xs.length * 5 + 1 + 1 + 1) w ((w5.setCell ⟨w3.heap.size, 1, none⟩ (.string s)).alloc (.cells (ruleV (⟨2, s, 1, { data := #[] }, { data := #[] }⟩ : RuleD)) 41)) [ruleRow (.slice ao m c) xs m]) := ⟨by rw [← hm]; exact D5.out.tail.more _⟩
          have OW : Seal (World.ownsRow _ 0 41 5 (.slice ao m c) m (ruleE.all xs (units1 xs))) := ⟨DA.out.st.head⟩
          rw [hm] at hn hcap ⊢
          clear hm
          go_wp2_with (at_builtin; refine wpList_append_own_at _ rfl _ _ 23 rfl 0 41 i0 (.agg #[.int .i64 0, .string ByteArray.empty, .int .i64 0, .string ByteArray.empty, .string ByteArray.empty]) 5 64 Tryd.underlying23 hi hz0 hz1 hz2 rfl (by decide) _ _ _ rfl OW.out ⟨w5.heap.size, 0, none⟩ 1 1 (ruleL (⟨2, s, 1, { data := #[] }, { data := #[] }⟩ : RuleD)) rfl rfl ?c1 ?c2 ?c3 ?c4 ?c5 ?_)
          case c1 =>
            intro j vv hj
            have := (CellsM.new (w5.setCell ⟨w3.heap.size, 1, none⟩ (.string s)) (ruleV (⟨2, s, 1, { data := #[] }, { data := #[] }⟩ : RuleD)) 41).c j vv hj
            try simp only [World.size_setCell] at this
            try simp only [World.size_alloc] at this
            by_cases h0 : j = 0
            · subst h0; simpa [Addr.add] using this
            · simpa [Addr.add, h0] using this
          case c2 => exact rule_one _
          case c3 => unfold maxLen; omega
          case c4 => omega
          case c5 => exact Nat.zero_le _
          intro v' w9 hown hg _ hat
          have d5 := DA.out.app hown hg (by simpa using hat)
          have D5 : Seal (Dw B b (P + 1 + (xs ++ [(⟨2, s, 1, { data := #[] }, { data := #[] }⟩ : RuleD)]).length * 5) w w9 [rulesV v' (xs ++ [(⟨2, s, 1, { data := #[] }, { data := #[] }⟩ : RuleD)])]) := ⟨by
            unfold rulesV
            rw [rules_snoc, List.length_append, HM.out]
            exact d5.up (by have e9 := HM.out; simp; omega)⟩
          have HR2 : Seal _ := ⟨rules_more (x := (⟨2, s, 1, { data := #[] }, { data := #[] }⟩ : RuleD)) HR.out (by have e0 : ({ data := #[] } : ByteArray).size = 0 := rfl; unfold ruleN; dsimp only; omega)⟩
          clear hown hg hat OW DA d5
          go_wp2
          go_roundw
          case rel => exact ⟨xs ++ [(⟨2, s, 1, { data := #[] }, { data := #[] }⟩ : RuleD)], n, by go_num, by rw [List.length_append, HM.out]; simp; omega, HR2, D5⟩
          case measure => simp [intOf]
        rcases (show k2 = 1 ∨ k2 ≠ 1 by omega) with rfl | hm1
        · have D4 : Seal _ := ⟨D3.out.alloc #[.int .i64 2, .string { data := #[] }, .int .i64 2, .string { data := #[] }, .string { data := #[] }] 41⟩
          clear D3
          have KB := D4.out.st.head
          have c0 := KB.c 0 _ rfl
          have f0 := KB.f 0 (by simp)
          have c1 := KB.c 1 _ rfl
          have f1 := KB.f 1 (by simp)
          have c2 := KB.c 2 _ rfl
          have f2 := KB.f 2 (by simp)
          have c3 := KB.c 3 _ rfl
          have f3 := KB.f 3 (by simp)
          have c4 := KB.c 4 _ rfl
          have f4 := KB.f 4 (by simp)
          have lk := KB.lt
          clear KB
          go_wp2_with fail
          refine (of_at' txt2 D4.out.rd (by simp) (by omega) rfl rfl (by decide) (by decide)).mono ?_
          rintro e w5 ⟨s, hs, rfl, h5, g5⟩
          have D5 : Seal _ := ⟨(D4.out.draw h5 g5).set 1 (.string s) (by simp)⟩
          have E5 : Seal _ := ⟨D4.out.draw h5 g5⟩
          have zs : s.size ≤ 20 := small_of (by decide) hs
          clear h5 g5 hs D4
          clear c0 c1 c2 c3 c4 f0 f1 f2 f3 f4 lk
          have KB := E5.out.st.head
          have c0 := KB.c 0 _ rfl
          have f0 := KB.f 0 (by simp)
          have c1 := KB.c 1 _ rfl
          have f1 := KB.f 1 (by simp)
          have c2 := KB.c 2 _ rfl
          have f2 := KB.f 2 (by simp)
          have c3 := KB.c 3 _ rfl
          have f3 := KB.f 3 (by simp)
          have c4 := KB.c 4 _ rfl
          have f4 := KB.f 4 (by simp)
          have lk := KB.lt
          clear KB
          clear E5
          obtain ⟨m, hm⟩ : ∃ m, xs.length = m := ⟨_, rfl⟩
          have HM : Seal _ := ⟨hm⟩
          have DA : Seal (Dw B b (P + 1 + xs.length * 5 + 1 + 1 + 1) w ((w5.setCell ⟨w3.heap.size, 1, none⟩ (.string s)).alloc (.cells (ruleV (⟨2, s, 2, { data := #[] }, { data := #[] }⟩ : RuleD)) 41)) [ruleRow (.slice ao m c) xs m]) := ⟨by rw [← hm]; exact D5.out.tail.more _⟩
          have OW : Seal (World.ownsRow _ 0 41 5 (.slice ao m c) m (ruleE.all xs (units1 xs))) := ⟨DA.out.st.head⟩
          rw [hm] at hn hcap ⊢
          clear hm
          go_wp2_with (at_builtin; refine wpList_append_own_at _ rfl _ _ 23 rfl 0 41 i0 (.agg #[.int .i64 0, .string ByteArray.empty, .int .i64 0, .string ByteArray.empty, .string ByteArray.empty]) 5 64 Tryd.underlying23 hi hz0 hz1 hz2 rfl (by decide) _ _ _ rfl OW.out ⟨w5.heap.size, 0, none⟩ 1 1 (ruleL (⟨2, s, 2, { data := #[] }, { data := #[] }⟩ : RuleD)) rfl rfl ?c1 ?c2 ?c3 ?c4 ?c5 ?_)
          case c1 =>
            intro j vv hj
            have := (CellsM.new (w5.setCell ⟨w3.heap.size, 1, none⟩ (.string s)) (ruleV (⟨2, s, 2, { data := #[] }, { data := #[] }⟩ : RuleD)) 41).c j vv hj
            try simp only [World.size_setCell] at this
            try simp only [World.size_alloc] at this
            by_cases h0 : j = 0
            · subst h0; simpa [Addr.add] using this
            · simpa [Addr.add, h0] using this
          case c2 => exact rule_one _
          case c3 => unfold maxLen; omega
          case c4 => omega
          case c5 => exact Nat.zero_le _
          intro v' w9 hown hg _ hat
          have d5 := DA.out.app hown hg (by simpa using hat)
          have D5 : Seal (Dw B b (P + 1 + (xs ++ [(⟨2, s, 2, { data := #[] }, { data := #[] }⟩ : RuleD)]).length * 5) w w9 [rulesV v' (xs ++ [(⟨2, s, 2, { data := #[] }, { data := #[] }⟩ : RuleD)])]) := ⟨by
            unfold rulesV
            rw [rules_snoc, List.length_append, HM.out]
            exact d5.up (by have e9 := HM.out; simp; omega)⟩
          have HR2 : Seal _ := ⟨rules_more (x := (⟨2, s, 2, { data := #[] }, { data := #[] }⟩ : RuleD)) HR.out (by have e0 : ({ data := #[] } : ByteArray).size = 0 := rfl; unfold ruleN; dsimp only; omega)⟩
          clear hown hg hat OW DA d5
          go_wp2
          go_roundw
          case rel => exact ⟨xs ++ [(⟨2, s, 2, { data := #[] }, { data := #[] }⟩ : RuleD)], n, by go_num, by rw [List.length_append, HM.out]; simp; omega, HR2, D5⟩
          case measure => simp [intOf]
        obtain rfl : k2 = 2 := by omega
        have D4 : Seal _ := ⟨D3.out.alloc #[.int .i64 2, .string { data := #[] }, .int .i64 3, .string { data := #[] }, .string { data := #[] }] 41⟩
        clear D3
        have KB := D4.out.st.head
        have c0 := KB.c 0 _ rfl
        have f0 := KB.f 0 (by simp)
        have c1 := KB.c 1 _ rfl
        have f1 := KB.f 1 (by simp)
        have c2 := KB.c 2 _ rfl
        have f2 := KB.f 2 (by simp)
        have c3 := KB.c 3 _ rfl
        have f3 := KB.f 3 (by simp)
        have c4 := KB.c 4 _ rfl
        have f4 := KB.f 4 (by simp)
        have lk := KB.lt
        clear KB
        go_wp2_with fail
        refine (of_at' txt2 D4.out.rd (by simp) (by omega) rfl rfl (by decide) (by decide)).mono ?_
        rintro e w5 ⟨s, hs, rfl, h5, g5⟩
        have D5 : Seal _ := ⟨(D4.out.draw h5 g5).set 1 (.string s) (by simp)⟩
        have E5 : Seal _ := ⟨D4.out.draw h5 g5⟩
        have zs : s.size ≤ 20 := small_of (by decide) hs
        clear h5 g5 hs D4
        clear c0 c1 c2 c3 c4 f0 f1 f2 f3 f4 lk
        have KB := E5.out.st.head
        have c0 := KB.c 0 _ rfl
        have f0 := KB.f 0 (by simp)
        have c1 := KB.c 1 _ rfl
        have f1 := KB.f 1 (by simp)
        have c2 := KB.c 2 _ rfl
        have f2 := KB.f 2 (by simp)
        have c3 := KB.c 3 _ rfl
        have f3 := KB.f 3 (by simp)
        have c4 := KB.c 4 _ rfl
        have f4 := KB.f 4 (by simp)
        have lk := KB.lt
        clear KB
        clear E5
        go_wp2_with fail
        refine (l20Addr_any B b _ _ D5.out.rd (by omega)).mono ?_
        rintro e w6 ⟨u, d, hu, hd, rfl, h6, g6⟩
        have D6 : Seal _ := ⟨((D5.out.draw h6 g6).set 3 (.string u) (by simp)).set 4 (.string d) (by simp)⟩
        have E6 : Seal _ := ⟨D5.out.draw h6 g6⟩
        have zu : u.size ≤ 20 := small_of (by decide) hu
        have zd : d.size ≤ 20 := small_of (by decide) hd
        clear h6 g6 hu hd D5
        clear c0 c1 c2 c3 c4 f0 f1 f2 f3 f4 lk
        have KB := E6.out.st.head
        have c0 := KB.c 0 _ rfl
        have f0 := KB.f 0 (by simp)
        have c1 := KB.c 1 _ rfl
        have f1 := KB.f 1 (by simp)
        have c2 := KB.c 2 _ rfl
        have f2 := KB.f 2 (by simp)
        have c3 := KB.c 3 _ rfl
        have f3 := KB.f 3 (by simp)
        have c4 := KB.c 4 _ rfl
        have f4 := KB.f 4 (by simp)
        have lk := KB.lt
        clear KB
        clear E6
        obtain ⟨m, hm⟩ : ∃ m, xs.length = m := ⟨_, rfl⟩
        have HM : Seal _ := ⟨hm⟩
        have DA : Seal (Dw B b (P + 1 + xs.length * 5 + 1 + 1 + 1 + 2) w (((w6.setCell ⟨w3.heap.size, 3, none⟩ (.string u)).setCell ⟨w3.heap.size, 4, none⟩ (.string d)).alloc (.cells (ruleV (⟨2, s, 3, u, d⟩ : RuleD)) 41)) [ruleRow (.slice ao m c) xs m]) := ⟨by rw [← hm]; exact D6.out.tail.more _⟩
        have OW : Seal (World.ownsRow _ 0 41 5 (.slice ao m c) m (ruleE.all xs (units1 xs))) := ⟨DA.out.st.head⟩
        rw [hm] at hn hcap ⊢
        clear hm
        go_wp2_with (at_builtin; refine wpList_append_own_at _ rfl _ _ 23 rfl 0 41 i0 (.agg #[.int .i64 0, .string ByteArray.empty, .int .i64 0, .string ByteArray.empty, .string ByteArray.empty]) 5 64 Tryd.underlying23 hi hz0 hz1 hz2 rfl (by decide) _ _ _ rfl OW.out ⟨w6.heap.size, 0, none⟩ 1 1 (ruleL (⟨2, s, 3, u, d⟩ : RuleD)) rfl rfl ?c1 ?c2 ?c3 ?c4 ?c5 ?_)
        case c1 =>
          intro j vv hj
          have := (CellsM.new ((w6.setCell ⟨w3.heap.size, 3, none⟩ (.string u)).setCell ⟨w3.heap.size, 4, none⟩ (.string d)) (ruleV (⟨2, s, 3, u, d⟩ : RuleD)) 41).c j vv hj
          try simp only [World.size_setCell] at this
          try simp only [World.size_alloc] at this
          by_cases h0 : j = 0
          · subst h0; simpa [Addr.add] using this
          · simpa [Addr.add, h0] using this
        case c2 => exact rule_one _
        case c3 => unfold maxLen; omega
        case c4 => omega
        case c5 => exact Nat.zero_le _
        intro v' w9 hown hg _ hat
        have d5 := DA.out.app hown hg (by simpa using hat)
        have D5 : Seal (Dw B b (P + 1 + (xs ++ [(⟨2, s, 3, u, d⟩ : RuleD)]).length * 5) w w9 [rulesV v' (xs ++ [(⟨2, s, 3, u, d⟩ : RuleD)])]) := ⟨by
          unfold rulesV
          rw [rules_snoc, List.length_append, HM.out]
          exact d5.up (by have e9 := HM.out; simp; omega)⟩
        have HR2 : Seal _ := ⟨rules_more (x := (⟨2, s, 3, u, d⟩ : RuleD)) HR.out (by have e0 : ({ data := #[] } : ByteArray).size = 0 := rfl; unfold ruleN; dsimp only; omega)⟩
        clear hown hg hat OW DA d5
        go_wp2
        go_roundw
        case rel => exact ⟨xs ++ [(⟨2, s, 3, u, d⟩ : RuleD)], n, by go_num, by rw [List.length_append, HM.out]; simp; omega, HR2, D5⟩
        case measure => simp [intOf]
      rcases (show k1 = 2 ∨ k1 ≠ 2 by omega) with rfl | hne2
      · rcases (show k2 = 0 ∨ k2 ≠ 0 by omega) with rfl | hm0
        · have D4 : Seal _ := ⟨D3.out.alloc #[.int .i64 3, .string { data := #[] }, .int .i64 1, .string { data := #[] }, .string { data := #[] }] 41⟩
          clear D3
          have KB := D4.out.st.head
          have c0 := KB.c 0 _ rfl
          have f0 := KB.f 0 (by simp)
          have c1 := KB.c 1 _ rfl
          have f1 := KB.f 1 (by simp)
          have c2 := KB.c 2 _ rfl
          have f2 := KB.f 2 (by simp)
          have c3 := KB.c 3 _ rfl
          have f3 := KB.f 3 (by simp)
          have c4 := KB.c 4 _ rfl
          have f4 := KB.f 4 (by simp)
          have lk := KB.lt
          clear KB
          obtain ⟨m, hm⟩ : ∃ m, xs.length = m := ⟨_, rfl⟩
          have HM : Seal _ := ⟨hm⟩
          have DA : Seal (Dw B b (P + 1 + xs.length * 5 + 1 + 1) w ((w3.alloc (.cells #[.int .i64 3, .string { data := #[] }, .int .i64 1, .string { data := #[] }, .string { data := #[] }] 41)).alloc (.cells (ruleV (⟨3, { data := #[] }, 1, { data := #[] }, { data := #[] }⟩ : RuleD)) 41)) [ruleRow (.slice ao m c) xs m]) := ⟨by rw [← hm]; exact D4.out.tail.more _⟩
          have OW : Seal (World.ownsRow _ 0 41 5 (.slice ao m c) m (ruleE.all xs (units1 xs))) := ⟨DA.out.st.head⟩
          rw [hm] at hn hcap ⊢
          clear hm
          go_wp2_with (at_builtin; refine wpList_append_own_at _ rfl _ _ 23 rfl 0 41 i0 (.agg #[.int .i64 0, .string ByteArray.empty, .int .i64 0, .string ByteArray.empty, .string ByteArray.empty]) 5 64 Tryd.underlying23 hi hz0 hz1 hz2 rfl (by decide) _ _ _ rfl OW.out ⟨w3.heap.size + 1, 0, none⟩ 1 1 (ruleL (⟨3, { data := #[] }, 1, { data := #[] }, { data := #[] }⟩ : RuleD)) rfl rfl ?c1 ?c2 ?c3 ?c4 ?c5 ?_)
          case c1 =>
            intro j vv hj
            have := (CellsM.new (w3.alloc (.cells #[.int .i64 3, .string { data := #[] }, .int .i64 1, .string { data := #[] }, .string { data := #[] }] 41)) (ruleV (⟨3, { data := #[] }, 1, { data := #[] }, { data := #[] }⟩ : RuleD)) 41).c j vv hj
            try simp only [World.size_setCell] at this
            try simp only [World.size_alloc] at this
            by_cases h0 : j = 0
            · subst h0; simpa [Addr.add] using this
            · simpa [Addr.add, h0] using this
          case c2 => exact rule_one _
          case c3 => unfold maxLen; omega
          case c4 => omega
          case c5 => exact Nat.zero_le _
          intro v' w9 hown hg _ hat
          have d5 := DA.out.app hown hg (by simpa using hat)
          have D5 : Seal (Dw B b (P + 1 + (xs ++ [(⟨3, { data := #[] }, 1, { data := #[] }, { data := #[] }⟩ : RuleD)]).length * 5) w w9 [rulesV v' (xs ++ [(⟨3, { data := #[] }, 1, { data := #[] }, { data := #[] }⟩ : RuleD)])]) := ⟨by
            unfold rulesV
            rw [rules_snoc, List.length_append, HM.out]
            exact d5.up (by have e9 := HM.out; simp; omega)⟩
          have HR2 : Seal _ := ⟨rules_more (x := (⟨3, { data := #[] }, 1, { data := #[] }, { data := #[] }⟩ : RuleD)) HR.out (by decide)⟩
          clear hown hg hat OW DA d5
          go_wp2
          go_roundw
          case rel => exact ⟨xs ++ [(⟨3, { data := #[] }, 1, { data := #[] }, { data := #[] }⟩ : RuleD)], n, by go_num, by rw [List.length_append, HM.out]; simp; omega, HR2, D5⟩
          case measure => simp [intOf]
        rcases (show k2 = 1 ∨ k2 ≠ 1 by omega) with rfl | hm1
        · have D4 : Seal _ := ⟨D3.out.alloc #[.int .i64 3, .string { data := #[] }, .int .i64 2, .string { data := #[] }, .string { data := #[] }] 41⟩
          clear D3
          have KB := D4.out.st.head
          have c0 := KB.c 0 _ rfl
          have f0 := KB.f 0 (by simp)
          have c1 := KB.c 1 _ rfl
          have f1 := KB.f 1 (by simp)
          have c2 := KB.c 2 _ rfl
          have f2 := KB.f 2 (by simp)
          have c3 := KB.c 3 _ rfl
          have f3 := KB.f 3 (by simp)
          have c4 := KB.c 4 _ rfl
          have f4 := KB.f 4 (by simp)
          have lk := KB.lt
          clear KB
          obtain ⟨m, hm⟩ : ∃ m, xs.length = m := ⟨_, rfl⟩
          have HM : Seal _ := ⟨hm⟩
          have DA : Seal (Dw B b (P + 1 + xs.length * 5 + 1 + 1) w ((w3.alloc (.cells #[.int .i64 3, .string { data := #[] }, .int .i64 2, .string { data := #[] }, .string { data := #[] }] 41)).alloc (.cells (ruleV (⟨3, { data := #[] }, 2, { data := #[] }, { data := #[] }⟩ : RuleD)) 41)) [ruleRow (.slice ao m c) xs m]) := ⟨by rw [← hm]; exact D4.out.tail.more _⟩
          have OW : Seal (World.ownsRow _ 0 41 5 (.slice ao m c) m (ruleE.all xs (units1 xs))) := ⟨DA.out.st.head⟩
          rw [hm] at hn hcap ⊢
          clear hm
          go_wp2_with (at_builtin; refine wpList_append_own_at _ rfl _ _ 23 rfl 0 41 i0 (.agg #[.int .i64 0, .string ByteArray.empty, .int .i64 0, .string ByteArray.empty, .string ByteArray.empty]) 5 64 Tryd.underlying23 hi hz0 hz1 hz2 rfl (by decide) _ _ _ rfl OW.out ⟨w3.heap.size + 1, 0, none⟩ 1 1 (ruleL (⟨3, { data := #[] }, 2, { data := #[] }, { data := #[] }⟩ : RuleD)) rfl rfl ?c1 ?c2 ?c3 ?c4 ?c5 ?_)
          case c1 =>
            intro j vv hj
            have := (CellsM.new (w3.alloc (.cells #[.int .i64 3, .string { data := #[] }, .int .i64 2, .string { data := #[] }, .string { data := #[] }] 41)) (ruleV (⟨3, { data := #[] }, 2, { data := #[] }, { data := #[] }⟩ : RuleD)) 41).c j vv hj
            try simp only [World.size_setCell] at this
            try simp only [World.size_alloc] at this
            by_cases h0 : j = 0
            · subst h0; simpa [Addr.add] using this
            · simpa [Addr.add, h0] using this
          case c2 => exact rule_one _
          case c3 => unfold maxLen; omega
          case c4 => omega
          case c5 => exact Nat.zero_le _
          intro v' w9 hown hg _ hat
          have d5 := DA.out.app hown hg (by simpa using hat)
          have D5 : Seal (Dw B b (P + 1 + (xs ++ [(⟨3, { data := #[] }, 2, { data := #[] }, { data := #[] }⟩ : RuleD)]).length * 5) w w9 [rulesV v' (xs ++ [(⟨3, { data := #[] }, 2, { data := #[] }, { data := #[] }⟩ : RuleD)])]) := ⟨by
            unfold rulesV
            rw [rules_snoc, List.length_append, HM.out]
            exact d5.up (by have e9 := HM.out; simp; omega)⟩
          have HR2 : Seal _ := ⟨rules_more (x := (⟨3, { data := #[] }, 2, { data := #[] }, { data := #[] }⟩ : RuleD)) HR.out (by decide)⟩
          clear hown hg hat OW DA d5
          go_wp2
          go_roundw
          case rel => exact ⟨xs ++ [(⟨3, { data := #[] }, 2, { data := #[] }, { data := #[] }⟩ : RuleD)], n, by go_num, by rw [List.length_append, HM.out]; simp; omega, HR2, D5⟩
          case measure => simp [intOf]
        obtain rfl : k2 = 2 := by omega
        have D4 : Seal _ := ⟨D3.out.alloc #[.int .i64 3, .string { data := #[] }, .int .i64 3, .string { data := #[] }, .string { data := #[] }] 41⟩
        clear D3
        have KB := D4.out.st.head
        have c0 := KB.c 0 _ rfl
        have f0 := KB.f 0 (by simp)
        have c1 := KB.c 1 _ rfl
        have f1 := KB.f 1 (by simp)
        have c2 := KB.c 2 _ rfl
        have f2 := KB.f 2 (by simp)
        have c3 := KB.c 3 _ rfl
        have f3 := KB.f 3 (by simp)
        have c4 := KB.c 4 _ rfl
        have f4 := KB.f 4 (by simp)
        have lk := KB.lt
        clear KB
        go_wp2_with fail
        refine (l20Addr_any B b _ _ D4.out.rd (by omega)).mono ?_
        rintro e w6 ⟨u, d, hu, hd, rfl, h6, g6⟩
        have D6 : Seal _ := ⟨((D4.out.draw h6 g6).set 3 (.string u) (by simp)).set 4 (.string d) (by simp)⟩
        have E6 : Seal _ := ⟨D4.out.draw h6 g6⟩
        have zu : u.size ≤ 20 := small_of (by decide) hu
        have zd : d.size ≤ 20 := small_of (by decide) hd
        clear h6 g6 hu hd D4
        clear c0 c1 c2 c3 c4 f0 f1 f2 f3 f4 lk
        have KB := E6.out.st.head
        have c0 := KB.c 0 _ rfl
        have f0 := KB.f 0 (by simp)
        have c1 := KB.c 1 _ rfl
        have f1 := KB.f 1 (by simp)
        have c2 := KB.c 2 _ rfl
        have f2 := KB.f 2 (by simp)
        have c3 := KB.c 3 _ rfl
        have f3 := KB.f 3 (by simp)
        have c4 := KB.c 4 _ rfl
        have f4 := KB.f 4 (by simp)
        have lk := KB.lt
        clear KB
        clear E6
        obtain ⟨m, hm⟩ : ∃ m, xs.length = m := ⟨_, rfl⟩
        have HM : Seal _ := ⟨hm⟩
        have DA : Seal (Dw B b (P + 1 + xs.length * 5 + 1 + 1 + 2) w (((w6.setCell ⟨w3.heap.size, 3, none⟩ (.string u)).setCell ⟨w3.heap.size, 4, none⟩ (.string d)).alloc (.cells (ruleV (⟨3, { data := #[] }, 3, u, d⟩ : RuleD)) 41)) [ruleRow (.slice ao m c) xs m]) := ⟨by rw [← hm]; exact D6.out.tail.more _⟩
        have OW : Seal (World.ownsRow _ 0 41 5 (.slice ao m c) m (ruleE.all xs (units1 xs))) := ⟨DA.out.st.head⟩
        rw [hm] at hn hcap ⊢
        clear hm
        go_wp2_with (at_builtin; refine wpList_append_own_at _ rfl _ _ 23 rfl 0 41 i0 (.agg #[.int .i64 0, .string ByteArray.empty, .int .i64 0, .string ByteArray.empty, .string ByteArray.empty]) 5 64 Tryd.underlying23 hi hz0 hz1 hz2 rfl (by decide) _ _ _ rfl OW.out ⟨w6.heap.size, 0, none⟩ 1 1 (ruleL (⟨3, { data := #[] }, 3, u, d⟩ : RuleD)) rfl rfl ?c1 ?c2 ?c3 ?c4 ?c5 ?_)
        case c1 =>
          intro j vv hj
          have := (CellsM.new ((w6.setCell ⟨w3.heap.size, 3, none⟩ (.string u)).setCell ⟨w3.heap.size, 4, none⟩ (.string d)) (ruleV (⟨3, { data := #[] }, 3, u, d⟩ : RuleD)) 41).c j vv hj
          try simp only [World.size_setCell] at this
          try simp only [World.size_alloc] at this
          by_cases h0 : j = 0
          · subst h0; simpa [Addr.add] using this
          · simpa [Addr.add, h0] using this
        case c2 => exact rule_one _
        case c3 => unfold maxLen; omega
        case c4 => omega
        case c5 => exact Nat.zero_le _
        intro v' w9 hown hg _ hat
        have d5 := DA.out.app hown hg (by simpa using hat)
        have D5 : Seal (Dw B b (P + 1 + (xs ++ [(⟨3, { data := #[] }, 3, u, d⟩ : RuleD)]).length * 5) w w9 [rulesV v' (xs ++ [(⟨3, { data := #[] }, 3, u, d⟩ : RuleD)])]) := ⟨by
          unfold rulesV
          rw [rules_snoc, List.length_append, HM.out]
          exact d5.up (by have e9 := HM.out; simp; omega)⟩
        have HR2 : Seal _ := ⟨rules_more (x := (⟨3, { data := #[] }, 3, u, d⟩ : RuleD)) HR.out (by have e0 : ({ data := #[] } : ByteArray).size = 0 := rfl; unfold ruleN; dsimp only; omega)⟩
        clear hown hg hat OW DA d5
        go_wp2
        go_roundw
        case rel => exact ⟨xs ++ [(⟨3, { data := #[] }, 3, u, d⟩ : RuleD)], n, by go_num, by rw [List.length_append, HM.out]; simp; omega, HR2, D5⟩
        case measure => simp [intOf]
      obtain rfl : k1 = 3 := by omega
      rcases (show k2 = 0 ∨ k2 ≠ 0 by omega) with rfl | hm0
      · have D4 : Seal _ := ⟨D3.out.alloc #[.int .i64 4, .string { data := #[] }, .int .i64 1, .string { data := #[] }, .string { data := #[] }] 41⟩
        clear D3
        have KB := D4.out.st.head
        have c0 := KB.c 0 _ rfl
        have f0 := KB.f 0 (by simp)
        have c1 := KB.c 1 _ rfl
        have f1 := KB.f 1 (by simp)
        have c2 := KB.c 2 _ rfl
        have f2 := KB.f 2 (by simp)
        have c3 := KB.c 3 _ rfl
        have f3 := KB.f 3 (by simp)
        have c4 := KB.c 4 _ rfl
        have f4 := KB.f 4 (by simp)
        have lk := KB.lt
        clear KB
        obtain ⟨m, hm⟩ : ∃ m, xs.length = m := ⟨_, rfl⟩
        have HM : Seal _ := ⟨hm⟩
        have DA : Seal (Dw B b (P + 1 + xs.length * 5 + 1 + 1) w ((w3.alloc (.cells #[.int .i64 4, .string { data := #[] }, .int .i64 1, .string { data := #[] }, .string { data := #[] }] 41)).alloc (.cells (ruleV (⟨4, { data := #[] }, 1, { data := #[] }, { data := #[] }⟩ : RuleD)) 41)) [ruleRow (.slice ao m c) xs m]) := ⟨by rw [← hm]; exact D4.out.tail.more _⟩
        have OW : Seal (World.ownsRow _ 0 41 5 (.slice ao m c) m (ruleE.all xs (units1 xs))) := ⟨DA.out.st.head⟩
        rw [hm] at hn hcap ⊢
        clear hm
        go_wp2_with (at_builtin; refine wpList_append_own_at _ rfl _ _ 23 rfl 0 41 i0 (.agg #[.int .i64 0, .string ByteArray.empty, .int .i64 0, .string ByteArray.empty, .string ByteArray.empty]) 5 64 Tryd.underlying23 hi hz0 hz1 hz2 rfl (by decide) _ _ _ rfl OW.out ⟨w3.heap.size + 1, 0, none⟩ 1 1 (ruleL (⟨4, { data := #[] }, 1, { data := #[] }, { data := #[] }⟩ : RuleD)) rfl rfl ?c1 ?c2 ?c3 ?c4 ?c5 ?_)
        case c1 =>
          intro j vv hj
          have := (CellsM.new (w3.alloc (.cells #[.int .i64 4, .string { data := #[] }, .int .i64 1, .string { data := #[] }, .string { data := #[] }] 41)) (ruleV (⟨4, { data := #[] }, 1, { data := #[] }, { data := #[] }⟩ : RuleD)) 41).c j vv hj
          try simp only [World.size_setCell] at this
          try simp only [World.size_alloc] at this
          by_cases h0 : j = 0
          · subst h0; simpa [Addr.add] using this
          · simpa [Addr.add, h0] using this
        case c2 => exact rule_one _
        case c3 => unfold maxLen; omega
        case c4 => omega
        case c5 => exact Nat.zero_le _
        intro v' w9 hown hg _ hat
        have d5 := DA.out.app hown hg (by simpa using hat)
        have D5 : Seal (Dw B b (P + 1 + (xs ++ [(⟨4, { data := #[] }, 1, { data := #[] }, { data := #[] }⟩ : RuleD)]).length * 5) w w9 [rulesV v' (xs ++ [(⟨4, { data := #[] }, 1, { data := #[] }, { data := #[] }⟩ : RuleD)])]) := ⟨by
          unfold rulesV
          rw [rules_snoc, List.length_append, HM.out]
          exact d5.up (by have e9 := HM.out; simp; omega)⟩
        have HR2 : Seal _ := ⟨rules_more (x := (⟨4, { data := #[] }, 1, { data := #[] }, { data := #[] }⟩ : RuleD)) HR.out (by decide)⟩
        clear hown hg hat OW DA d5
        go_wp2
        go_roundw
        case rel => exact ⟨xs ++ [(⟨4, { data := #[] }, 1, { data := #[] }, { data := #[] }⟩ : RuleD)], n, by go_num, by rw [List.length_append, HM.out]; simp; omega, HR2, D5⟩
        case measure => simp [intOf]
      rcases (show k2 = 1 ∨ k2 ≠ 1 by omega) with rfl | hm1
      · have D4 : Seal _ := ⟨D3.out.alloc #[.int .i64 4, .string { data := #[] }, .int .i64 2, .string { data := #[] }, .string { data := #[] }] 41⟩
        clear D3
        have KB := D4.out.st.head
        have c0 := KB.c 0 _ rfl
        have f0 := KB.f 0 (by simp)
        have c1 := KB.c 1 _ rfl
        have f1 := KB.f 1 (by simp)
        have c2 := KB.c 2 _ rfl
        have f2 := KB.f 2 (by simp)
        have c3 := KB.c 3 _ rfl
        have f3 := KB.f 3 (by simp)
        have c4 := KB.c 4 _ rfl
        have f4 := KB.f 4 (by simp)
        have lk := KB.lt
        clear KB
        obtain ⟨m, hm⟩ : ∃ m, xs.length = m := ⟨_, rfl⟩
        have HM : Seal _ := ⟨hm⟩
        have DA : Seal (Dw B b (P + 1 + xs.length * 5 + 1 + 1) w ((w3.alloc (.cells #[.int .i64 4, .string { data := #[] }, .int .i64 2, .string { data := #[] }, .string { data := #[] }] 41)).alloc (.cells (ruleV (⟨4, { data := #[] }, 2, { data := #[] }, { data := #[] }⟩ : RuleD)) 41)) [ruleRow (.slice ao m c) xs m]) := ⟨by rw [← hm]; exact D4.out.tail.more _⟩
        have OW : Seal (World.ownsRow _ 0 41 5 (.slice ao m c) m (ruleE.all xs (units1 xs))) := ⟨DA.out.st.head⟩
        rw [hm] at hn hcap ⊢
        clear hm
        go_wp2_with (at_builtin; refine wpList_append_own_at _ rfl _ _ 23 rfl 0 41 i0 (.agg #[.int .i64 0, .string ByteArray.empty, .int .i64 0, .string ByteArray.empty, .string ByteArray.empty]) 5 64 Tryd.underlying23 hi hz0 hz1 hz2 rfl (by decide) _ _ _ rfl OW.out ⟨w3.heap.size + 1, 0, none⟩ 1 1 (ruleL (⟨4, { data := #[] }, 2, { data := #[] }, { data := #[] }⟩ : RuleD)) rfl rfl ?c1 ?c2 ?c3 ?c4 ?c5 ?_)
        case c1 =>
          intro j vv hj
          have := (CellsM.new (w3.alloc (.cells #[.int .i64 4, .string { data := #[] }, .int .i64 2, .string { data := #[] }, .string { data := #[] }] 41)) (ruleV (⟨4, { data := #[] }, 2, { data := #[] }, { data := #[] }⟩ : RuleD)) 41).c j vv hj
          try simp only [World.size_setCell] at this
          try simp only [World.size_alloc] at this
          by_cases h0 : j = 0
          · subst h0; simpa [Addr.add] using this
          · simpa [Addr.add, h0] using this
        case c2 => exact rule_one _
        case c3 => unfold maxLen; omega
        case c4 => omega
        case c5 => exact Nat.zero_le _
        intro v' w9 hown hg _ hat
        have d5 := DA.out.app hown hg (by simpa using hat)
        have D5 : Seal (Dw B b (P + 1 + (xs ++ [(⟨4, { data := #[] }, 2, { data := #[] }, { data := #[] }⟩ : RuleD)]).length * 5) w w9 [rulesV v' (xs ++ [(⟨4, { data := #[] }, 2, { data := #[] }, { data := #[] }⟩ : RuleD)])]) := ⟨by
          unfold rulesV
          rw [rules_snoc, List.length_append, HM.out]
          exact d5.up (by have e9 := HM.out; simp; omega)⟩
        have HR2 : Seal _ := ⟨rules_more (x := (⟨4, { data := #[] }, 2, { data := #[] }, { data := #[] }⟩ : RuleD)) HR.out (by decide)⟩
        clear hown hg hat OW DA d5
        go_wp2
        go_roundw
        case rel => exact ⟨xs ++ [(⟨4, { data := #[] }, 2, { data := #[] }, { data := #[] }⟩ : RuleD)], n, by go_num, by rw [List.length_append, HM.out]; simp; omega, HR2, D5⟩
        case measure => simp [intOf]
      obtain rfl : k2 = 2 := by omega
      have D4 : Seal _ := ⟨D3.out.alloc #[.int .i64 4, .string { data := #[] }, .int .i64 3, .string { data := #[] }, .string { data := #[] }] 41⟩
      clear D3
      have KB := D4.out.st.head
      have c0 := KB.c 0 _ rfl
      have f0 := KB.f 0 (by simp)
      have c1 := KB.c 1 _ rfl
      have f1 := KB.f 1 (by simp)
      have c2 := KB.c 2 _ rfl
      have f2 := KB.f 2 (by simp)
      have c3 := KB.c 3 _ rfl
      have f3 := KB.f 3 (by simp)
      have c4 := KB.c 4 _ rfl
      have f4 := KB.f 4 (by simp)
      have lk := KB.lt
      clear KB
      go_wp2_with fail
      refine (l20Addr_any B b _ _ D4.out.rd (by omega)).mono ?_
      rintro e w6 ⟨u, d, hu, hd, rfl, h6, g6⟩
      have D6 : Seal _ := ⟨((D4.out.draw h6 g6).set 3 (.string u) (by simp)).set 4 (.string d) (by simp)⟩
      have E6 : Seal _ := ⟨D4.out.draw h6 g6⟩
      have zu : u.size ≤ 20 := small_of (by decide) hu
      have zd : d.size ≤ 20 := small_of (by decide) hd
      clear h6 g6 hu hd D4
      clear c0 c1 c2 c3 c4 f0 f1 f2 f3 f4 lk
      have KB := E6.out.st.head
      have c0 := KB.c 0 _ rfl
      have f0 := KB.f 0 (by simp)
      have c1 := KB.c 1 _ rfl
      have f1 := KB.f 1 (by simp)
      have c2 := KB.c 2 _ rfl
      have f2 := KB.f 2 (by simp)
      have c3 := KB.c 3 _ rfl
      have f3 := KB.f 3 (by simp)
      have c4 := KB.c 4 _ rfl
      have f4 := KB.f 4 (by simp)
      have lk := KB.lt
      clear KB
      clear E6
      obtain ⟨m, hm⟩ : ∃ m, xs.length = m := ⟨_, rfl⟩
      have HM : Seal _ := ⟨hm⟩
      have DA : Seal (Dw B b (P + 1 + xs.length * 5 + 1 + 1 + 2) w (((w6.setCell ⟨w3.heap.size, 3, none⟩ (.string u)).setCell ⟨w3.heap.size, 4, none⟩ (.string d)).alloc (.cells (ruleV (⟨4, { data := #[] }, 3, u, d⟩ : RuleD)) 41)) [ruleRow (.slice ao m c) xs m]) := ⟨by rw [← hm]; exact D6.out.tail.more _⟩
      have OW : Seal (World.ownsRow _ 0 41 5 (.slice ao m c) m (ruleE.all xs (units1 xs))) := ⟨DA.out.st.head⟩
      rw [hm] at hn hcap ⊢
      clear hm
      go_wp2_with (at_builtin; refine wpList_append_own_at _ rfl _ _ 23 rfl 0 41 i0 (.agg #[.int .i64 0, .string ByteArray.empty, .int .i64 0, .string ByteArray.empty, .string ByteArray.empty]) 5 64 Tryd.underlying23 hi hz0 hz1 hz2 rfl (by decide) _ _ _ rfl OW.out ⟨w6.heap.size, 0, none⟩ 1 1 (ruleL (⟨4, { data := #[] }, 3, u, d⟩ : RuleD)) rfl rfl ?c1 ?c2 ?c3 ?c4 ?c5 ?_)
      case c1 =>
        intro j vv hj
        have := (CellsM.new ((w6.setCell ⟨w3.heap.size, 3, none⟩ (.string u)).setCell ⟨w3.heap.size, 4, none⟩ (.string d)) (ruleV (⟨4, { data := #[] }, 3, u, d⟩ : RuleD)) 41).c j vv hj
        try simp only [World.size_setCell] at this
        try simp only [World.size_alloc] at this
        by_cases h0 : j = 0
        · subst h0; simpa [Addr.add] using this
        · simpa [Addr.add, h0] using this
      case c2 => exact rule_one _
      case c3 => unfold maxLen; omega
      case c4 => omega
      case c5 => exact Nat.zero_le _
      intro v' w9 hown hg _ hat
      have d5 := DA.out.app hown hg (by simpa using hat)
      have D5 : Seal (Dw B b (P + 1 + (xs ++ [(⟨4, { data := #[] }, 3, u, d⟩ : RuleD)]).length * 5) w w9 [rulesV v' (xs ++ [(⟨4, { data := #[] }, 3, u, d⟩ : RuleD)])]) := ⟨by
        unfold rulesV
        rw [rules_snoc, List.length_append, HM.out]
        exact d5.up (by have e9 := HM.out; simp; omega)⟩
      have HR2 : Seal _ := ⟨rules_more (x := (⟨4, { data := #[] }, 3, u, d⟩ : RuleD)) HR.out (by have e0 : ({ data := #[] } : ByteArray).size = 0 := rfl; unfold ruleN; dsimp only; omega)⟩
      clear hown hg hat OW DA d5
      go_wp2
      go_roundw
      case rel => exact ⟨xs ++ [(⟨4, { data := #[] }, 3, u, d⟩ : RuleD)], n, by go_num, by rw [List.length_append, HM.out]; simp; omega, HR2, D5⟩
      case measure => simp [intOf]
end Go.Proofs.YtgniokkiejoccaaDoor
