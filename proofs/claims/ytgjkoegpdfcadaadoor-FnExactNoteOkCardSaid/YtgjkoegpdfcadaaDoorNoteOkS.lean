/- Contracts: whether a note is ok, of the model. -/
import Derived.Test.YtgjkoegpdfcadaaDoorNoteD
namespace Go.Proofs.YtgjkoegpdfcadaaDoor
open Go Go.RowKit

def bareB (m : MailD) : Bool := nullB m.fu m.fd && (decide (m.rc.length = 0) && decide (m.body.length = 0))
def noteB (n : NoteD) : Bool :=
  if n.kind = 1 then decide (n.id = 0) && (nullB n.u n.d && (mailB n.m && inB n.now 0 9999))
  else if n.kind = 2 then bareB n.m && (inB n.id 1 999 && (addrB n.u n.d && decide (n.now = 0)))
  else if n.kind = 3 then bareB n.m && (inB n.id 1 999 && (addrB n.u n.d && inB n.now 0 9999))
  else false
theorem noteB_one {n : NoteD} (h : n.kind = 1) : noteB n = (decide (n.id = 0) && (nullB n.u n.d && (mailB n.m && inB n.now 0 9999))) := by unfold noteB; rw [if_pos h]
theorem noteB_two {n : NoteD} (h : n.kind = 2) : noteB n = (bareB n.m && (inB n.id 1 999 && (addrB n.u n.d && decide (n.now = 0)))) := by unfold noteB; rw [if_neg (by omega), if_pos h]
theorem noteB_three {n : NoteD} (h : n.kind = 3) : noteB n = (bareB n.m && (inB n.id 1 999 && (addrB n.u n.d && inB n.now 0 9999))) := by unfold noteB; rw [if_neg (by omega), if_neg (by omega), if_pos h]
theorem noteB_none {n : NoteD} (h1 : n.kind ≠ 1) (h2 : n.kind ≠ 2) (h3 : n.kind ≠ 3) : noteB n = false := by unfold noteB; rw [if_neg h1, if_neg h2, if_neg h3]

set_option maxHeartbeats 6400000 in
set_option maxRecDepth 100000 in
theorem l6Ok_any (n : NoteD) (a1 : Option Addr) (c1 : Nat) (a2 : Option Addr) (c2 : Nat) (w : World) (hat : MailAt w n.m a1 a2) (hsz : NoteSz 1048576 n) :
    Calls Tryd.prog 127 #[.agg (noteV n a1 c1 a2 c2)] w fun e w' => e = .returned (.bool (noteB n)) ∧ Below w.heap.size w w' := by
  have HA : Seal _ := ⟨hat⟩
  have HZ : Seal _ := ⟨hsz⟩
  have zu := hsz.u
  have zd := hsz.d
  have z1 := hsz.m.rcl
  have z2 := hsz.m.bol
  have S0 : Seal _ := ⟨(St.start w).alloc (noteV n a1 c1 a2 c2) 99⟩
  obtain ⟨vb, hvb⟩ : ∃ v, nullB n.m.fu n.m.fd = v := ⟨_, rfl⟩
  obtain ⟨vn, hvn⟩ : ∃ v, nullB n.u n.d = v := ⟨_, rfl⟩
  obtain ⟨va, hva⟩ : ∃ v, addrB n.u n.d = v := ⟨_, rfl⟩
  obtain ⟨vm, hvm⟩ : ∃ v, mailB n.m = v := ⟨_, rfl⟩
  obtain ⟨vi, hvi⟩ : ∃ v, inB n.id 1 999 = v := ⟨_, rfl⟩
  obtain ⟨vt, hvt⟩ : ∃ v, inB n.now 0 9999 = v := ⟨_, rfl⟩
  have HVB : Seal _ := ⟨hvb⟩
  have HVN : Seal _ := ⟨hvn⟩
  have HVA : Seal _ := ⟨hva⟩
  have HVM : Seal _ := ⟨hvm⟩
  have HVI : Seal _ := ⟨hvi⟩
  have HVT : Seal _ := ⟨hvt⟩
  have CI : Seal _ := ⟨l1In_any n.id 1 999⟩
  rw [hvi] at CI
  have CT : Seal _ := ⟨l1In_any n.now 0 9999⟩
  rw [hvt] at CT
  clear hvb hvn hva hvm hvi hvt hat hsz
  have CM : Seal (∀ W, Below w.heap.size w W → Calls Tryd.prog 87 #[.agg (mailV n.m a1 c1 a2 c2)] W fun e w' => e = .returned (.bool vm) ∧ Below W.heap.size W w') := ⟨fun W hW => by rw [← HVM.out]; exact l2Ok_any n.m a1 c1 a2 c2 W (HA.out.below hW (Nat.le_refl _)) HZ.out.m⟩
  go_enter Tryd.func127, Tryd.ntmps127
  go_wp2_with fail
  refine (l1Null_is n.m.fu n.m.fd vb HVB.out _).mono ?_
  rintro e w1 ⟨rfl, hb1⟩
  have S1 : Seal _ := ⟨S0.out.later hb1⟩
  have K1 := S1.out.head
  have g0 := K1.c 0 _ rfl
  have g1 := K1.c 1 _ rfl
  have g2 := K1.c 2 _ rfl
  have g3 := K1.c 3 _ rfl
  have g4 := K1.c 4 _ rfl
  have g5 := K1.c 5 _ rfl
  have g6 := K1.c 6 _ rfl
  have g7 := K1.c 7 _ rfl
  have g8 := K1.c 8 _ rfl
  clear hb1 S0 K1
  have H4 : Seal ((vb = false ∧ bareB n.m = false) ∨ (vb = true ∧ ((n.m.rc.length : Int) == 0) = false ∧ bareB n.m = false) ∨ (vb = true ∧ ((n.m.rc.length : Int) == 0) = true ∧ ((n.m.body.length : Int) == 0) = false ∧ bareB n.m = false) ∨ (vb = true ∧ ((n.m.rc.length : Int) == 0) = true ∧ ((n.m.body.length : Int) == 0) = true ∧ bareB n.m = true)) := ⟨by
    unfold bareB
    rw [HVB.out, beq_eq_false_iff_ne, beq_iff_eq, beq_eq_false_iff_ne, beq_iff_eq]
    cases vb
    · exact .inl ⟨rfl, rfl⟩
    · by_cases hl : n.m.rc.length = 0
      · by_cases hl2 : n.m.body.length = 0
        · exact .inr (.inr (.inr ⟨rfl, by omega, by omega, by rw [decide_eq_true hl, decide_eq_true hl2]; rfl⟩))
        · exact .inr (.inr (.inl ⟨rfl, by omega, by omega, by rw [decide_eq_true hl, decide_eq_false hl2]; rfl⟩))
      · exact .inr (.inl ⟨rfl, by omega, by rw [decide_eq_false hl]; rfl⟩)⟩
  by_cases k1 : n.kind = 1
  · -- what was added
    have HQ : Seal _ := ⟨noteB_one k1⟩
    have e1 : ((n.kind : Int) == 1) = true := by rw [beq_iff_eq]; exact k1
    clear k1
    by_cases i0 : n.id = 0
    · have e2 : ((n.id : Int) == 0) = true := by rw [beq_iff_eq]; exact i0
      have HQ2 : Seal (noteB n = (vn && (vm && vt))) := ⟨by rw [HQ.out, decide_eq_true i0, HVN.out, HVM.out, HVT.out]; rfl⟩
      clear HQ i0
      cases vn
      · have hm : Seal (noteB n = false) := ⟨HQ2.out⟩
        rcases H4.out with ⟨rfl, hb⟩ | ⟨rfl, e3, hb⟩ | ⟨rfl, e3, e4, hb⟩ | ⟨rfl, e3, e4, hb⟩
        all_goals
          clear hb
          go_wp2_with fail
          refine (l1Null_is n.u n.d false HVN.out _).mono ?_
          rintro e w2 ⟨rfl, hb2⟩
          have S2 : Seal _ := ⟨S1.out.later hb2⟩
          clear hb2
          go_wp2
          go_ret
          exact ⟨ret_b hm.out.symm, S2.out.below⟩
      · cases vm
        · have hm : Seal (noteB n = false) := ⟨HQ2.out⟩
          rcases H4.out with ⟨rfl, hb⟩ | ⟨rfl, e3, hb⟩ | ⟨rfl, e3, e4, hb⟩ | ⟨rfl, e3, e4, hb⟩
          all_goals
            clear hb
            go_wp2_with fail
            refine (l1Null_is n.u n.d true HVN.out _).mono ?_
            rintro e w2 ⟨rfl, hb2⟩
            have S2 : Seal _ := ⟨S1.out.later hb2⟩
            have K2 := S2.out.head
            have y5 := K2.c 5 _ rfl
            have y6 := K2.c 6 _ rfl
            have y7 := K2.c 7 _ rfl
            have y8 := K2.c 8 _ rfl
            clear hb2 K2
            go_wp2_with fail
            refine (CM.out _ S2.out.below).mono ?_
            rintro e w3 ⟨rfl, hb3⟩
            have S3 : Seal _ := ⟨S2.out.later hb3⟩
            clear hb3
            go_wp2
            go_ret
            exact ⟨ret_b hm.out.symm, S3.out.below⟩
        · have hm : Seal (noteB n = vt) := ⟨by rw [HQ2.out]; rfl⟩
          rcases H4.out with ⟨rfl, hb⟩ | ⟨rfl, e3, hb⟩ | ⟨rfl, e3, e4, hb⟩ | ⟨rfl, e3, e4, hb⟩
          all_goals
            clear hb
            go_wp2_with fail
            refine (l1Null_is n.u n.d true HVN.out _).mono ?_
            rintro e w2 ⟨rfl, hb2⟩
            have S2 : Seal _ := ⟨S1.out.later hb2⟩
            have K2 := S2.out.head
            have y5 := K2.c 5 _ rfl
            have y6 := K2.c 6 _ rfl
            have y7 := K2.c 7 _ rfl
            have y8 := K2.c 8 _ rfl
            clear hb2 K2
            go_wp2_with fail
            refine (CM.out _ S2.out.below).mono ?_
            rintro e w3 ⟨rfl, hb3⟩
            have S3 : Seal _ := ⟨S2.out.later hb3⟩
            have y4 := S3.out.head.c 4 _ rfl
            clear hb3
            go_wp2_with fail
            refine (CT.out _).mono ?_
            rintro e w4 ⟨rfl, rfl⟩
            go_wp2
            go_ret
            exact ⟨ret_b hm.out.symm, S3.out.below⟩
    · have e2 : ((n.id : Int) == 0) = false := by rw [beq_eq_false_iff_ne]; exact i0
      have hm : Seal (noteB n = false) := ⟨by rw [HQ.out, decide_eq_false i0]; rfl⟩
      clear i0
      rcases H4.out with ⟨rfl, hb⟩ | ⟨rfl, e3, hb⟩ | ⟨rfl, e3, e4, hb⟩ | ⟨rfl, e3, e4, hb⟩
      all_goals
        clear hb
        go_wp2
        go_ret
        exact ⟨ret_b hm.out.symm, S1.out.below⟩
  have e1 : ((n.kind : Int) == 1) = false := by rw [beq_eq_false_iff_ne]; exact k1
  by_cases k2 : n.kind = 2
  · have HQ : Seal _ := ⟨noteB_two k2⟩
    have e5 : ((n.kind : Int) == 2) = true := by rw [beq_iff_eq]; exact k2
    clear k2
    rcases H4.out with ⟨rfl, hb⟩ | ⟨rfl, e3, hb⟩ | ⟨rfl, e3, e4, hb⟩ | ⟨rfl, e3, e4, hb⟩
    · have hm : Seal (noteB n = false) := ⟨by rw [HQ.out, hb]; rfl⟩
      clear hb
      go_wp2
      go_ret
      exact ⟨ret_b hm.out.symm, S1.out.below⟩
    · have hm : Seal (noteB n = false) := ⟨by rw [HQ.out, hb]; rfl⟩
      clear hb
      go_wp2
      go_ret
      exact ⟨ret_b hm.out.symm, S1.out.below⟩
    · have hm : Seal (noteB n = false) := ⟨by rw [HQ.out, hb]; rfl⟩
      clear hb
      go_wp2
      go_ret
      exact ⟨ret_b hm.out.symm, S1.out.below⟩
    · have HQ2 : Seal (noteB n = (vi && (va && decide (n.now = 0)))) := ⟨by rw [HQ.out, hb, HVI.out, HVA.out]; rfl⟩
      clear hb HQ
      go_wp2_with fail
      refine (CI.out _).mono ?_
      rintro e w2 ⟨rfl, rfl⟩
      cases vi
      · have hm : Seal (noteB n = false) := ⟨HQ2.out⟩
        go_wp2
        go_ret
        exact ⟨ret_b hm.out.symm, S1.out.below⟩
      · go_wp2_with fail
        refine (l1AddrOk_any n.u n.d _ (by omega) (by omega)).mono ?_
        rintro e w2 ⟨rfl, hb2⟩
        rw [HVA.out]
        have S2 : Seal _ := ⟨S1.out.later hb2⟩
        have y4 := S2.out.head.c 4 _ rfl
        clear hb2
        cases va
        · have hm : Seal (noteB n = false) := ⟨HQ2.out⟩
          go_wp2
          go_ret
          exact ⟨ret_b hm.out.symm, S2.out.below⟩
        · by_cases i0 : n.now = 0
          · have e6 : ((n.now : Int) == 0) = true := by rw [beq_iff_eq]; exact i0
            have hm : Seal (noteB n = true) := ⟨by rw [HQ2.out, decide_eq_true i0]; rfl⟩
            clear i0
            go_wp2
            go_ret
            exact ⟨ret_b hm.out.symm, S2.out.below⟩
          · have e6 : ((n.now : Int) == 0) = false := by rw [beq_eq_false_iff_ne]; exact i0
            have hm : Seal (noteB n = false) := ⟨by rw [HQ2.out, decide_eq_false i0]; rfl⟩
            clear i0
            go_wp2
            go_ret
            exact ⟨ret_b hm.out.symm, S2.out.below⟩
  have e12 : ((n.kind : Int) == 2) = false := by rw [beq_eq_false_iff_ne]; exact k2
  by_cases k3 : n.kind = 3
  · have HQ : Seal _ := ⟨noteB_three k3⟩
    have e5 : ((n.kind : Int) == 3) = true := by rw [beq_iff_eq]; exact k3
    clear k3
    rcases H4.out with ⟨rfl, hb⟩ | ⟨rfl, e3, hb⟩ | ⟨rfl, e3, e4, hb⟩ | ⟨rfl, e3, e4, hb⟩
    · have hm : Seal (noteB n = false) := ⟨by rw [HQ.out, hb]; rfl⟩
      clear hb
      go_wp2
      go_ret
      exact ⟨ret_b hm.out.symm, S1.out.below⟩
    · have hm : Seal (noteB n = false) := ⟨by rw [HQ.out, hb]; rfl⟩
      clear hb
      go_wp2
      go_ret
      exact ⟨ret_b hm.out.symm, S1.out.below⟩
    · have hm : Seal (noteB n = false) := ⟨by rw [HQ.out, hb]; rfl⟩
      clear hb
      go_wp2
      go_ret
      exact ⟨ret_b hm.out.symm, S1.out.below⟩
    · have HQ2 : Seal (noteB n = (vi && (va && vt))) := ⟨by rw [HQ.out, hb, HVI.out, HVA.out, HVT.out]; rfl⟩
      clear hb HQ
      go_wp2_with fail
      refine (CI.out _).mono ?_
      rintro e w2 ⟨rfl, rfl⟩
      cases vi
      · have hm : Seal (noteB n = false) := ⟨HQ2.out⟩
        go_wp2
        go_ret
        exact ⟨ret_b hm.out.symm, S1.out.below⟩
      · go_wp2_with fail
        refine (l1AddrOk_any n.u n.d _ (by omega) (by omega)).mono ?_
        rintro e w2 ⟨rfl, hb2⟩
        rw [HVA.out]
        have S2 : Seal _ := ⟨S1.out.later hb2⟩
        have y4 := S2.out.head.c 4 _ rfl
        clear hb2
        cases va
        · have hm : Seal (noteB n = false) := ⟨HQ2.out⟩
          go_wp2
          go_ret
          exact ⟨ret_b hm.out.symm, S2.out.below⟩
        · have hm : Seal (noteB n = vt) := ⟨by rw [HQ2.out]; rfl⟩
          go_wp2_with fail
          refine (CT.out _).mono ?_
          rintro e w3 ⟨rfl, rfl⟩
          go_wp2
          go_ret
          exact ⟨ret_b hm.out.symm, S2.out.below⟩
  have e13 : ((n.kind : Int) == 3) = false := by rw [beq_eq_false_iff_ne]; exact k3
  have hm : Seal (noteB n = false) := ⟨noteB_none k1 k2 k3⟩
  clear k1 k2 k3
  rcases H4.out with ⟨rfl, hb⟩ | ⟨rfl, e3, hb⟩ | ⟨rfl, e3, e4, hb⟩ | ⟨rfl, e3, e4, hb⟩
  all_goals
    clear hb
    go_wp2
    go_ret
    exact ⟨ret_b hm.out.symm, S1.out.below⟩

set_option maxRecDepth 100000 in
theorem specNoteOk_any (n : NoteD) (a1 : Option Addr) (c1 : Nat) (a2 : Option Addr) (c2 : Nat) (w : World) (hat : MailAt w n.m a1 a2) (hsz : NoteSz 1048576 n) :
    Calls Tryd.prog 58 #[.agg (noteV n a1 c1 a2 c2)] w fun e w' => e = .returned (.bool (noteB n)) ∧ Below w.heap.size w w' := by
  have S0 : Seal _ := ⟨(St.start w).alloc (noteV n a1 c1 a2 c2) 99⟩
  have C : Seal _ := ⟨l6Ok_any n a1 c1 a2 c2 _ (hat.below S0.out.below (Nat.le_refl _)) hsz⟩
  clear hat hsz
  go_enter Tryd.func58, Tryd.ntmps58
  go_wp2_with fail
  refine C.out.mono ?_
  rintro e w1 ⟨rfl, hb1⟩
  have S1 : Seal _ := ⟨S0.out.later hb1⟩
  clear hb1 S0 C
  go_wp2
  go_ret
  exact ⟨rfl, S1.out.below⟩
end Go.Proofs.YtgjkoegpdfcadaaDoor
