/- Contracts: the laws' copies of rules. -/
import Derived.Test.YtgniokkiejoccaaDoorRuleSz
namespace Go.Proofs.YtgniokkiejoccaaDoor
open Go Go.RowKit

theorem infoRule : (Tryd.prog.info? 41).map (fun i => (i.zero, i.size, i.bytes)) = some (some (.agg #[.int .i64 0, .string ByteArray.empty, .int .i64 0, .string ByteArray.empty, .string ByteArray.empty]), 5, 64) := by kernel_rfl
abbrev noRule : Array Value := #[.int .i64 0, .string { data := #[] }, .int .i64 0, .string { data := #[] }, .string { data := #[] }]

set_option maxHeartbeats 800000 in
set_option maxRecDepth 100000 in
theorem toRule_any (x : RuleD) (w : World) :
    Calls Tryd.prog 53 #[.agg (ruleV x)] w fun e w' => e = .returned (.agg (ruleV x)) ∧ Below w.heap.size w w' := by
  have s0 := (((St.start w).alloc (ruleV x) 75).alloc noRule 41).alloc #[.int .i64 x.ask, .string x.txt, .int .i64 x.act, .string { data := #[] }, .string { data := #[] }] 41
  simp only [World.size_alloc] at s0
  have S0 : Seal _ := ⟨s0⟩
  clear s0
  go_enter Tryd.func53, Tryd.ntmps53
  go_wp2_with fail
  refine (toAddr_any x.u x.d _).mono ?_
  rintro e w1 ⟨rfl, hb1⟩
  have s1 := S0.out.later hb1
  have P1 := s1.head
  have o0 := P1.c 0 _ rfl
  have o1 := P1.c 1 _ rfl
  have o2 := P1.c 2 _ rfl
  have o3 := P1.c 3 _ rfl
  have o4 := P1.c 4 _ rfl
  have f3 := P1.f 3 (by simp)
  have f4 := P1.f 4 (by simp)
  have R1 := s1.two.head
  have r0 := R1.c 0 _ rfl
  have r1 := R1.c 1 _ rfl
  have r2 := R1.c 2 _ rfl
  have r3 := R1.c 3 _ rfl
  have r4 := R1.c 4 _ rfl
  have h0 := R1.f 0 (by simp)
  have h1 := R1.f 1 (by simp)
  have h2 := R1.f 2 (by simp)
  have h3 := R1.f 3 (by simp)
  have h4 := R1.f 4 (by simp)
  have hn : w.heap.size + 1 + 1 ≠ w.heap.size + 1 := by omega
  have hn' : w.heap.size + 1 + 1 ≠ w.heap.size := by omega
  have S1 : Seal _ := ⟨s1⟩
  clear P1 R1 hb1 S0 s1
  go_wp2
  refine bodyPost_ret (v := .agg (ruleV x)) (by simp [results, Tryd.results53, go_sem, r0, r1, r2, r3, r4]) rfl ⟨rfl, ?_⟩
  iterate 7 (refine Below.setCell ?_ (by simp <;> omega) _)
  exact S1.out.below

set_option maxHeartbeats 1600000 in
set_option maxRecDepth 100000 in
theorem toRuleS_any (ao : Option Addr) (cap : Nat) (xs : List RuleD) (w : World) (hr : RuleRow w ao xs) (hl : xs.length ≤ 1048576) :
    Calls Tryd.prog 26 #[.slice ao xs.length cap] w fun e w' => ∃ bo c, e = .returned (.slice bo xs.length c) ∧ St w w' [rulesR bo c xs] := by
  obtain ⟨i0, hi, hz0, hz1, hz2⟩ := info_parts infoRule
  have HR : Seal _ := ⟨hr⟩
  clear hr
  go_enter Tryd.func26, Tryd.ntmps26
  go_wp2_with (at_make; refine wpList_make_full _ rfl _ _ 23 rfl w.heap.size 41 i0 (.agg #[.int .i64 0, .string ByteArray.empty, .int .i64 0, .string ByteArray.empty, .string ByteArray.empty]) 5 Tryd.underlying23 hi hz0 hz1 .i64 .i64 xs.length xs.length xs.length rfl rfl rfl rfl ?b2 ?b3 ?b4 ?_)
  case b2 => rw [hz2]; omega
  case b3 => unfold maxLen; omega
  case b4 => exact Nat.le_refl _
  intro w1 hown1 hgrow1
  have S1 : Seal _ := ⟨ruleE.make (e := 41) _ rfl (by decide) hown1 hgrow1 xs⟩
  clear hown1 hgrow1
  go_wp2
  go_loopw [4] (fun i wr => ∃ (k : Nat) (ps : List Unit), k ≤ xs.length ∧ i = .int .i64 k ∧ ps.length = k ∧ Seal (St w wr (Res.row 41 ruleE.size (.slice (some ⟨w.heap.size, 0, none⟩) xs.length xs.length) xs.length (ruleE.part (#[.int .i64 0, .string ByteArray.empty, .int .i64 0, .string ByteArray.empty, .string ByteArray.empty] : Array Value).toList (xs.take k) ps (xs.length - k)) :: (ruleE.ress (xs.take k) ps ++ [])))) (fun i _ => xs.length - (intOf i).toNat)
  case atStart => exact ⟨0, [], Nat.zero_le _, rfl, rfl, S1⟩
  case round =>
    obtain ⟨k, ps, hk, rfl, hps, S⟩ := hrel
    clear S1
    by_cases hlt : k < xs.length
    · obtain ⟨x, hx⟩ : ∃ x, xs[k]? = some x := ⟨_, List.getElem?_eq_getElem hlt⟩
      obtain ⟨b, off, rfl, c0, c1, c2, c3, c4⟩ := ruleAt (HR.out.below ruleP_stays S.out.below (Nat.le_refl _)) hx
      have HX : Seal _ := ⟨hx⟩
      have HP : Seal _ := ⟨hps⟩
      clear hx hps
      go_wp2_with fail
      refine (toRule_any x _).mono ?_
      rintro e w2 ⟨rfl, hb2⟩
      have ho := S.out.later hb2 |>.head
      obtain ⟨v0, e0⟩ : ∃ v, w2.cell? ⟨w.heap.size, k * 5, none⟩ = some v := row_cell ho (k * 5) (by show k * 5 < xs.length * 5; omega)
      obtain ⟨v1, e1⟩ : ∃ v, w2.cell? ⟨w.heap.size, k * 5 + 1, none⟩ = some v := row_cell ho (k * 5 + 1) (by show k * 5 + 1 < xs.length * 5; omega)
      obtain ⟨v2, e2⟩ : ∃ v, w2.cell? ⟨w.heap.size, k * 5 + 2, none⟩ = some v := row_cell ho (k * 5 + 2) (by show k * 5 + 2 < xs.length * 5; omega)
      obtain ⟨v3, e3⟩ : ∃ v, w2.cell? ⟨w.heap.size, k * 5 + 3, none⟩ = some v := row_cell ho (k * 5 + 3) (by show k * 5 + 3 < xs.length * 5; omega)
      obtain ⟨v4, e4⟩ : ∃ v, w2.cell? ⟨w.heap.size, k * 5 + 4, none⟩ = some v := row_cell ho (k * 5 + 4) (by show k * 5 + 4 < xs.length * 5; omega)
      have f0 := World.ownsRow.frozenAt ho (k * 5)
      have f1 := World.ownsRow.frozenAt ho (k * 5 + 1)
      have f2 := World.ownsRow.frozenAt ho (k * 5 + 2)
      have f3 := World.ownsRow.frozenAt ho (k * 5 + 3)
      have f4 := World.ownsRow.frozenAt ho (k * 5 + 4)
      have S2 : Seal (St w (((((w2.setCell ⟨w.heap.size, k * 5, none⟩ (.int .i64 x.ask)).setCell ⟨w.heap.size, k * 5 + 1, none⟩ (.string x.txt)).setCell ⟨w.heap.size, k * 5 + 2, none⟩ (.int .i64 x.act)).setCell ⟨w.heap.size, k * 5 + 3, none⟩ (.string x.u)).setCell ⟨w.heap.size, k * 5 + 4, none⟩ (.string x.d)) _) := ⟨ruleE.next (p := ()) rfl HP.out HX.out S.out ((St.start _).later hb2)⟩
      clear ho hb2 S
      go_wp2
      go_roundw
      case rel => exact ⟨k + 1, ps ++ [()], by omega, by go_num, by simp [HP.out], S2⟩
      case measure => simp [intOf]; omega
    · obtain rfl : k = xs.length := by omega
      have S2 : Seal _ := ⟨ruleE.done S.out⟩
      go_wp2
      go_ret
      refine ⟨_, _, rfl, ?_⟩
      have e := units ps
      rw [hps] at e
      have := S2.out
      rw [e] at this
      unfold Elem.row at this
      rw [ruleE_ress] at this
      exact this
end Go.Proofs.YtgniokkiejoccaaDoor
