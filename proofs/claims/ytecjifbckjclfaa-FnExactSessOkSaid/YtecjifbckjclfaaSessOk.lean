/- Contracts: whether a server's state is ok, of the model and of the program. -/
import Derived.Test.YtecjifbckjclfaaSessFns
import Derived.Test.YtecjifbckjclfaaLines
import Derived.Test.YtecjifbckjclfaaEnds
namespace Go.Proofs.Ytecjifbckjclfaa
open Go Go.RowKit

def sessB (s : SessD) : Bool := inB s.st 0 5 && (decide (s.buf.size ≤ 80) && (decide (s.m.rc.length ≤ 4) && (decide (s.m.body.length ≤ 13) && (linesB s.buf).isEmpty)))
theorem sessB_no {s : SessD} (h : ¬ (0 ≤ s.st ∧ s.st ≤ 5) ∨ 80 < s.buf.size ∨ 4 < s.m.rc.length ∨ 13 < s.m.body.length) : sessB s = false := by
  unfold sessB
  rcases h with h | h | h | h
  · rw [inB_false h]; rfl
  · rw [decide_eq_false (by omega : ¬ s.buf.size ≤ 80)]; simp
  · rw [decide_eq_false (by omega : ¬ s.m.rc.length ≤ 4)]; simp
  · rw [decide_eq_false (by omega : ¬ s.m.body.length ≤ 13)]; simp
theorem sessB_yes {s : SessD} (h1 : 0 ≤ s.st ∧ s.st ≤ 5) (h2 : s.buf.size ≤ 80) (h3 : s.m.rc.length ≤ 4) (h4 : s.m.body.length ≤ 13) : sessB s = (linesB s.buf).isEmpty := by
  unfold sessB
  rw [inB_true h1, decide_eq_true h2, decide_eq_true h3, decide_eq_true h4]; rfl
theorem contains_lines (s : ByteArray) : Lib.contains s.data.toList [13, 10] = !(linesB s).isEmpty := by
  have e : Lib.indexB s crlf = Lib.index s.data.toList [13, 10] := rfl
  unfold Lib.contains
  rw [← e]
  rcases Lib.indexB_cases s crlf with h | ⟨i, h, hi⟩
  · rw [h, (linesB_none h).1]; rfl
  · have hi2 : i + 2 ≤ s.size := hi
    rw [(linesB_hit h hi2).1, h]
    have : (0 : Int) ≤ (i : Int) := by omega
    simp [this]

set_option maxHeartbeats 800000 in
set_option maxRecDepth 100000 in
theorem l3SessOk_any (s : SessD) (a1 : Option Addr) (c1 : Nat) (a2 : Option Addr) (c2 : Nat) (w : World) (hsz : SessSz 1048576 s) :
    Calls Try.prog 10 #[.agg (sessV s a1 c1 a2 c2)] w fun e w' => e = .returned (.bool (sessB s)) ∧ Below w.heap.size w w' := by
  have zb := hsz.buf
  have z1 := hsz.m.rcl
  have z2 := hsz.m.bol
  have b0 : Below w.heap.size w (w.alloc (.cells (sessV s a1 c1 a2 c2) 37)) := (Below.refl _ _).alloc (Nat.le_refl _) _
  clear hsz
  by_cases h1 : 0 ≤ s.st ∧ s.st ≤ 5
  · have C := Lib.hid (l1In_any s.st 0 5)
    rw [inB_true h1] at C
    by_cases h2 : s.buf.size ≤ 80
    · by_cases h3 : s.m.rc.length ≤ 4
      · by_cases h4 : s.m.body.length ≤ 13
        · have hq := Lib.hid (sessB_yes h1 h2 h3 h4)
          have CL := Lib.hid (l2Lines_any s.buf (w.alloc (.cells (sessV s a1 c1 a2 c2) 37)) (by omega))
          clear h1
          go_enter Try.func10, Try.ntmps10
          go_wp2_with fail
          refine (C.out _).mono ?_
          rintro e w' ⟨rfl, rfl⟩
          go_wp2_with fail
          refine CL.out.mono ?_
          rintro e w1 ⟨ao, cap, rfl, _, hb1⟩
          have B1 := b0.trans (hb1.mono b0.size)
          clear CL hb1 b0
          cases hl : linesB s.buf with
          | nil =>
            have hm : Hid (sessB s = true) := Lib.hid (by rw [hq.out, hl]; rfl)
            go_wp2
            go_ret
            exact ⟨ret_b hm.out.symm, B1⟩
          | cons x r =>
            have hm : Hid (sessB s = false) := Lib.hid (by rw [hq.out, hl]; rfl)
            have hne : (((r.length + 1 : Nat) : Int) == 0) = false := by rw [beq_eq_false_iff_ne]; omega
            have hne2 : (((r.length : Int) + 1) == 0) = false := by rw [beq_eq_false_iff_ne]; omega
            go_wp2
            go_ret
            exact ⟨ret_b hm.out.symm, B1⟩
        · have hm : Hid (sessB s = false) := Lib.hid (sessB_no (by omega))
          clear h1
          go_enter Try.func10, Try.ntmps10
          go_wp2_with fail
          refine (C.out _).mono ?_
          rintro e w' ⟨rfl, rfl⟩
          go_wp2
          go_ret
          exact ⟨ret_b hm.out.symm, b0⟩
      · have hm : Hid (sessB s = false) := Lib.hid (sessB_no (by omega))
        clear h1
        go_enter Try.func10, Try.ntmps10
        go_wp2_with fail
        refine (C.out _).mono ?_
        rintro e w' ⟨rfl, rfl⟩
        go_wp2
        go_ret
        exact ⟨ret_b hm.out.symm, b0⟩
    · have hm : Hid (sessB s = false) := Lib.hid (sessB_no (by omega))
      clear h1
      go_enter Try.func10, Try.ntmps10
      go_wp2_with fail
      refine (C.out _).mono ?_
      rintro e w' ⟨rfl, rfl⟩
      go_wp2
      go_ret
      exact ⟨ret_b hm.out.symm, b0⟩
  · have C := Lib.hid (l1In_any s.st 0 5)
    rw [inB_false h1] at C
    have hm : Hid (sessB s = false) := Lib.hid (sessB_no (.inl h1))
    clear h1
    go_enter Try.func10, Try.ntmps10
    go_wp2_with fail
    refine (C.out _).mono ?_
    rintro e w' ⟨rfl, rfl⟩
    go_wp2
    go_ret
    exact ⟨ret_b hm.out.symm, b0⟩

theorem specSessOk_any (s : SessD) (a1 : Option Addr) (c1 : Nat) (a2 : Option Addr) (c2 : Nat) (w : World) (hsz : SessSz 1048576 s) :
    Calls Try.prog 5 #[.agg (sessV s a1 c1 a2 c2)] w fun e w' => e = .returned (.bool (sessB s)) ∧ Below w.heap.size w w' := by
  have b0 : Below w.heap.size w (w.alloc (.cells (sessV s a1 c1 a2 c2) 37)) := (Below.refl _ _).alloc (Nat.le_refl _) _
  have C := Lib.hid (fun w => l3SessOk_any s a1 c1 a2 c2 w hsz)
  clear hsz
  go_enter Try.func5, Try.ntmps5
  go_wp2_with fail
  refine (C.out _).mono ?_
  rintro e w1 ⟨rfl, hb1⟩
  have B1 := b0.trans (hb1.mono b0.size)
  go_wp2
  go_ret
  exact ⟨rfl, B1⟩

set_option maxHeartbeats 800000 in
set_option maxRecDepth 100000 in
theorem implSessOk_any (s : SessD) (a1 : Option Addr) (c1 : Nat) (a2 : Option Addr) (c2 : Nat) (w : World) (hm : HasMax w) (hsz : SessSz 1048576 s) :
    Calls Try.prog 7 #[.agg (sessV s a1 c1 a2 c2)] w fun e w' => e = .returned (.bool (sessB s)) ∧ Below w.heap.size w w' := by
  have zb := hsz.buf
  have z1 := hsz.m.rcl
  have z2 := hsz.m.bol
  have b0 : Below w.heap.size w (w.alloc (.cells (sessV s a1 c1 a2 c2) 37)) := (Below.refl _ _).alloc (Nat.le_refl _) _
  obtain ⟨mx, hmx⟩ := hm.below b0 (Nat.le_refl _)
  have CC : Hid (Calls Try.prog 12 #[.string s.buf, .string { data := #[13, 10] }] (w.alloc (.cells (sessV s a1 c1 a2 c2) 37)) fun e w' => e = .returned (.bool (!(linesB s.buf).isEmpty)) ∧ w' = (w.alloc (.cells (sessV s a1 c1 a2 c2) 37))) := Lib.hid (by
    rw [← contains_lines]
    exact Try.strings_Contains s.buf { data := #[13, 10] } mx _ (by omega) hmx)
  clear hsz hm hmx
  by_cases h0 : 0 ≤ s.st
  · by_cases h1 : s.st ≤ 5
    · by_cases h2 : s.buf.size ≤ 80
      · by_cases h3 : s.m.rc.length ≤ 4
        · by_cases h4 : s.m.body.length ≤ 13
          · have hq := Lib.hid (sessB_yes ⟨h0, h1⟩ h2 h3 h4)
            have hd : decide ((s.m.body.length : Int) ≤ 13) = true := decide_eq_true (by omega)
            generalize (linesB s.buf).isEmpty = v at CC hq
            cases v
            all_goals
              go_enter Try.func7, Try.ntmps7
              go_wp2_with fail
              refine CC.out.mono ?_
              rintro e w' ⟨rfl, rfl⟩
              go_wp2
              go_ret
              exact ⟨ret_b hq.out.symm, b0⟩
          · have hm : Hid (sessB s = false) := Lib.hid (sessB_no (by omega))
            have hd : decide ((s.m.body.length : Int) ≤ 13) = false := decide_eq_false (by omega)
            generalize (linesB s.buf).isEmpty = v at CC
            cases v
            all_goals
              go_enter Try.func7, Try.ntmps7
              go_wp2_with fail
              refine CC.out.mono ?_
              rintro e w' ⟨rfl, rfl⟩
              go_wp2
              go_ret
              exact ⟨ret_b hm.out.symm, b0⟩
        · have hm : Hid (sessB s = false) := Lib.hid (sessB_no (by omega))
          generalize (linesB s.buf).isEmpty = v at CC
          cases v
          all_goals
            go_enter Try.func7, Try.ntmps7
            go_wp2_with fail
            refine CC.out.mono ?_
            rintro e w' ⟨rfl, rfl⟩
            go_wp2
            go_ret
            exact ⟨ret_b hm.out.symm, b0⟩
      · have hm : Hid (sessB s = false) := Lib.hid (sessB_no (by omega))
        go_enter Try.func7, Try.ntmps7
        go_wp2
        go_ret
        exact ⟨ret_b hm.out.symm, b0⟩
    · have hm : Hid (sessB s = false) := Lib.hid (sessB_no (by omega))
      go_enter Try.func7, Try.ntmps7
      go_wp2
      go_ret
      exact ⟨ret_b hm.out.symm, b0⟩
  · have hm : Hid (sessB s = false) := Lib.hid (sessB_no (by omega))
    go_enter Try.func7, Try.ntmps7
    go_wp2
    go_ret
    exact ⟨ret_b hm.out.symm, b0⟩
end Go.Proofs.Ytecjifbckjclfaa
