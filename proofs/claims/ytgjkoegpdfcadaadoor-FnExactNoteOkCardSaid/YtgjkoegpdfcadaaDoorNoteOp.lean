/- Contracts: the operation of a note, of the program; whether a note is ok. -/
import Derived.Test.YtgjkoegpdfcadaaDoorNoteOkS
import Derived.Test.YtgjkoegpdfcadaaDoorSpoolOne
import Derived.Deep.RegionHeld3
namespace Go.Proofs.YtgjkoegpdfcadaaDoor
open Go Go.RowKit

set_option maxRecDepth 100000 in
theorem targetValid_any (id : Int) (u d : ByteArray) (w : World) (hm : HasMax w) (hu : u.size ≤ 1048576) (hd : d.size ≤ 1048576) :
    Calls Tryd.prog 204 #[.agg #[.int .i64 id, .string u, .string d]] w fun e w' => e = .returned (.bool (inB id 1 999 && addrB u d)) ∧ Below w.heap.size w w' := by
  have s0 := (St.start w).alloc #[.int .i64 id, .string u, .string d] 222
  have S0 : Seal _ := ⟨s0⟩
  have C : Seal _ := ⟨implAddrOk_any u d _ (hm.below s0.below (Nat.le_refl _)) (by omega) (by omega)⟩
  clear s0 hm
  rcases (show id < 1 ∨ (1 ≤ id ∧ id ≤ 999) ∨ (1 ≤ id ∧ 999 < id) by omega) with h | ⟨h, h'⟩ | ⟨h, h'⟩
  · have hq : Seal ((inB id 1 999 && addrB u d) = false) := ⟨by rw [inB_false (by omega)]; rfl⟩
    go_enter Tryd.func204, Tryd.ntmps204
    go_wp2
    go_ret
    exact ⟨ret_b hq.out.symm, S0.out.below⟩
  · have hq : Seal ((inB id 1 999 && addrB u d) = addrB u d) := ⟨by rw [inB_true (by omega)]; rfl⟩
    go_enter Tryd.func204, Tryd.ntmps204
    go_wp2_with fail
    refine C.out.mono ?_
    rintro e w1 ⟨rfl, hb1⟩
    have S1 : Seal _ := ⟨S0.out.later hb1⟩
    clear hb1 C
    go_wp2
    go_ret
    exact ⟨ret_b hq.out.symm, S1.out.below⟩
  · have hq : Seal ((inB id 1 999 && addrB u d) = false) := ⟨by rw [inB_false (by omega)]; rfl⟩
    go_enter Tryd.func204, Tryd.ntmps204
    go_wp2
    go_ret
    exact ⟨ret_b hq.out.symm, S0.out.below⟩

set_option maxRecDepth 100000 in
theorem addValid_any (m : MailD) (a1 : Option Addr) (c1 : Nat) (a2 : Option Addr) (c2 : Nat) (now : Int) (w : World) (hm : HasMax w) (hat : MailAt w m a1 a2) (hsz : MailSz 1048576 m) (hcap : m.rc.length ≤ c1) :
    Calls Tryd.prog 202 #[.agg #[.string m.fu, .string m.fd, .slice a1 m.rc.length c1, .slice a2 m.body.length c2, .int .i64 now]] w fun e w' => e = .returned (.bool (mailB m && inB now 0 9999)) ∧ Below w.heap.size w w' := by
  have s0 := (St.start w).alloc #[.string m.fu, .string m.fd, .slice a1 m.rc.length c1, .slice a2 m.body.length c2, .int .i64 now] 220
  have S0 : Seal _ := ⟨s0⟩
  obtain ⟨v, hv⟩ : ∃ v, mailB m = v := ⟨_, rfl⟩
  have C : Seal _ := ⟨implMailOk_any m a1 c1 a2 c2 _ (hm.below s0.below (Nat.le_refl _)) (hat.below s0.below (Nat.le_refl _)) hsz hcap⟩
  rw [hv] at C
  have HV : Seal _ := ⟨hv⟩
  clear s0 hm hat hsz hcap hv
  go_enter Tryd.func202, Tryd.ntmps202
  go_wp2_with fail
  refine C.out.mono ?_
  rintro e w1 ⟨rfl, hb1⟩
  have S1 : Seal _ := ⟨S0.out.later hb1⟩
  have g4 := S1.out.head.c 4 _ rfl
  clear hb1 C S0
  cases v
  · have hq : Seal ((mailB m && inB now 0 9999) = false) := ⟨by rw [HV.out]; rfl⟩
    go_wp2
    go_ret
    exact ⟨ret_b hq.out.symm, S1.out.below⟩
  · have hq : Seal ((mailB m && inB now 0 9999) = inB now 0 9999) := ⟨by rw [HV.out]; rfl⟩
    go_wp2_with fail
    refine (isTime_any _ _).mono ?_
    rintro e w2 ⟨rfl, rfl⟩
    go_wp2
    go_ret
    exact ⟨ret_b hq.out.symm, S1.out.below⟩

set_option maxRecDepth 100000 in
theorem laterValid_any (id : Int) (u d : ByteArray) (now : Int) (w : World) (hm : HasMax w) (hu : u.size ≤ 1048576) (hd : d.size ≤ 1048576) :
    Calls Tryd.prog 206 #[.agg #[.int .i64 id, .string u, .string d, .int .i64 now]] w fun e w' => e = .returned (.bool ((inB id 1 999 && addrB u d) && inB now 0 9999)) ∧ Below w.heap.size w w' := by
  have s0 := (St.start w).alloc #[.int .i64 id, .string u, .string d, .int .i64 now] 226
  have S0 : Seal _ := ⟨s0⟩
  obtain ⟨v, hv⟩ : ∃ v, (inB id 1 999 && addrB u d) = v := ⟨_, rfl⟩
  have C : Seal _ := ⟨targetValid_any id u d _ (hm.below s0.below (Nat.le_refl _)) hu hd⟩
  rw [hv] at C
  have HV : Seal _ := ⟨hv⟩
  clear s0 hm hv
  go_enter Tryd.func206, Tryd.ntmps206
  go_wp2_with fail
  refine C.out.mono ?_
  rintro e w1 ⟨rfl, hb1⟩
  have S1 : Seal _ := ⟨S0.out.later hb1⟩
  have g3 := S1.out.head.c 3 _ rfl
  clear hb1 C S0
  cases v
  · have hq : Seal (((inB id 1 999 && addrB u d) && inB now 0 9999) = false) := ⟨by rw [HV.out]; rfl⟩
    go_wp2
    go_ret
    exact ⟨ret_b hq.out.symm, S1.out.below⟩
  · have hq : Seal (((inB id 1 999 && addrB u d) && inB now 0 9999) = inB now 0 9999) := ⟨by rw [HV.out]; rfl⟩
    go_wp2_with fail
    refine (isTime_any _ _).mono ?_
    rintro e w2 ⟨rfl, rfl⟩
    go_wp2
    go_ret
    exact ⟨ret_b hq.out.symm, S1.out.below⟩

set_option maxRecDepth 100000 in
theorem isZero_any (m : MailD) (a1 : Option Addr) (c1 : Nat) (a2 : Option Addr) (c2 : Nat) (w : World) :
    Calls Tryd.prog 205 #[.agg (mailV m a1 c1 a2 c2)] w fun e w' => e = .returned (.bool (bareB m)) ∧ Below w.heap.size w w' := by
  have S0 : Seal _ := ⟨(St.start w).alloc (mailV m a1 c1 a2 c2) 41⟩
  obtain ⟨vb, hvb⟩ : ∃ v, nullB m.fu m.fd = v := ⟨_, rfl⟩
  have HVB : Seal _ := ⟨hvb⟩
  clear hvb
  go_enter Tryd.func205, Tryd.ntmps205
  go_wp2_with fail
  refine (isNull_is m.fu m.fd vb HVB.out _).mono ?_
  rintro e w1 ⟨rfl, hb1⟩
  have S1 : Seal _ := ⟨S0.out.later hb1⟩
  have g2 := S1.out.head.c 2 _ rfl
  have g3 := S1.out.head.c 3 _ rfl
  clear hb1 S0
  cases vb
  · have hq : Seal (bareB m = false) := ⟨by unfold bareB; rw [HVB.out]; rfl⟩
    go_wp2
    go_ret
    exact ⟨ret_b hq.out.symm, S1.out.below⟩
  · by_cases hl : m.rc.length = 0
    · have e3 : ((m.rc.length : Int) == 0) = true := by rw [beq_iff_eq, hl]; rfl
      by_cases hl2 : m.body.length = 0
      · have e4 : ((m.body.length : Int) == 0) = true := by rw [beq_iff_eq, hl2]; rfl
        have hq : Seal (bareB m = true) := ⟨by unfold bareB; rw [HVB.out, decide_eq_true hl, decide_eq_true hl2]; rfl⟩
        clear hl hl2
        go_wp2
        go_ret
        exact ⟨ret_b hq.out.symm, S1.out.below⟩
      · have e4 : ((m.body.length : Int) == 0) = false := by rw [beq_eq_false_iff_ne]; omega
        have hq : Seal (bareB m = false) := ⟨by unfold bareB; rw [HVB.out, decide_eq_true hl, decide_eq_false hl2]; rfl⟩
        clear hl hl2
        go_wp2
        go_ret
        exact ⟨ret_b hq.out.symm, S1.out.below⟩
    · have e3 : ((m.rc.length : Int) == 0) = false := by rw [beq_eq_false_iff_ne]; omega
      have hq : Seal (bareB m = false) := ⟨by unfold bareB; rw [HVB.out, decide_eq_false hl]; rfl⟩
      clear hl
      go_wp2
      go_ret
      exact ⟨ret_b hq.out.symm, S1.out.below⟩

/-- What the operation of a note is. -/
def OpPost (n : NoteD) (w : World) (e : Ending) (w' : World) : Prop := ∃ v : Value, (e = .returned (.tuple #[v, .bool (noteB n)])) ∧ Below w.heap.size w w'

set_option maxHeartbeats 16000000 in
set_option maxRecDepth 100000 in
theorem operationOf_add (n : NoteD) (a1 : Option Addr) (c1 : Nat) (a2 : Option Addr) (c2 : Nat) (w : World) (hm : HasMax w) (hat : MailAt w n.m a1 a2) (hsz : NoteSz 1048576 n) (hcap : n.m.rc.length ≤ c1) (hk : n.kind = 1) :
    Calls Tryd.prog 130 #[.agg (noteV n a1 c1 a2 c2)] w (OpPost n w) := by
  have HM : Seal _ := ⟨hm⟩
  have HA : Seal _ := ⟨hat⟩
  have HZ : Seal _ := ⟨hsz⟩
  have HC : Seal _ := ⟨hcap⟩
  have zu := hsz.u
  have zd := hsz.d
  have s0 := (St.start w).alloc (noteV n a1 c1 a2 c2) 99
  obtain ⟨vf, hvf⟩ : ∃ v, (mailB n.m && inB n.now 0 9999) = v := ⟨_, rfl⟩
  obtain ⟨vs, hvs⟩ : ∃ v, nullB n.u n.d = v := ⟨_, rfl⟩
  have HQ : Seal (noteB n = (decide (n.id = 0) && (vs && vf))) := ⟨by rw [noteB_one hk, hvs, hvf]⟩
  have HF : Seal _ := ⟨hvf⟩
  have HS : Seal _ := ⟨hvs⟩
  have e1 : ((n.kind : Int) == 1) = true := by rw [beq_iff_eq]; exact hk
  clear hm hat hsz hcap hvf hvs hk
  have s1 := s0.alloc #[.string n.m.fu, .string n.m.fd, .slice a1 n.m.rc.length c1, .slice a2 n.m.body.length c2, .int .i64 n.now] 220
  simp only [World.size_alloc] at s1
  have S1 : Seal _ := ⟨s1⟩
  clear s0 s1
  cases vf
  · have hm : Seal (noteB n = false) := ⟨by rw [HQ.out]; simp⟩
    go_enter Tryd.func130, Tryd.ntmps130
    go_wp2_with fail
    obtain ⟨W, hW⟩ : ∃ W, W = (w.alloc (.cells (noteV n a1 c1 a2 c2) 99)).alloc (.cells #[.string n.m.fu, .string n.m.fd, .slice a1 n.m.rc.length c1, .slice a2 n.m.body.length c2, .int .i64 n.now] 220) := ⟨_, rfl⟩
    rw [← hW] at S1 ⊢
    have SW : Seal _ := ⟨S1.out⟩
    clear S1 hW
    have KN := SW.out.two.head
    have KO := SW.out.head
    have g1 := KN.c 1 _ rfl
    have g2 := KN.c 2 _ rfl
    have g3 := KN.c 3 _ rfl
    have g4 := KN.c 4 _ rfl
    have g5 := KN.c 5 _ rfl
    have g6 := KN.c 6 _ rfl
    have g7 := KN.c 7 _ rfl
    have g8 := KN.c 8 _ rfl
    have o0 := KO.c 0 _ rfl
    have o1 := KO.c 1 _ rfl
    have o2 := KO.c 2 _ rfl
    have o3 := KO.c 3 _ rfl
    have o4 := KO.c 4 _ rfl
    clear KN KO
    refine wp_region_held_drew (S := (fun w' => w'.cell? ⟨w.heap.size, 1, none⟩ = some (.int .i64 n.id) ∧ w'.cell? ⟨w.heap.size, 2, none⟩ = some (.string n.u) ∧ w'.cell? ⟨w.heap.size, 3, none⟩ = some (.string n.d) ∧ w'.cell? ⟨w.heap.size, 4, none⟩ = some (.int .i64 n.now) ∧ w'.cell? ⟨w.heap.size, 5, none⟩ = some (.string n.m.fu) ∧ w'.cell? ⟨w.heap.size, 6, none⟩ = some (.string n.m.fd) ∧ w'.cell? ⟨w.heap.size, 7, none⟩ = some (.slice a1 n.m.rc.length c1) ∧ w'.cell? ⟨w.heap.size, 8, none⟩ = some (.slice a2 n.m.body.length c2) ∧ w'.cell? ⟨w.heap.size + 1, 0, none⟩ = some (.string n.m.fu) ∧ w'.cell? ⟨w.heap.size + 1, 1, none⟩ = some (.string n.m.fd) ∧ w'.cell? ⟨w.heap.size + 1, 2, none⟩ = some (.slice a1 n.m.rc.length c1) ∧ w'.cell? ⟨w.heap.size + 1, 3, none⟩ = some (.slice a2 n.m.body.length c2) ∧ w'.cell? ⟨w.heap.size + 1, 4, none⟩ = some (.int .i64 n.now) ∧ Below W.heap.size W w')) (by kernel_rfl) ⟨g1, g2, g3, g4, g5, g6, g7, g8, o0, o1, o2, o3, o4, (Below.refl _ _).drew⟩ (fun hHeld => ?_)
    (refine wpAnyH_take (i := 0) (v := ?_) rfl (by kernel_rfl) (by kernel_rfl) (by kernel_rfl) (fun _ _ _ h => h) (Or.inl ⟨by rfl, ?_⟩) (by assumption) ?_; rotate_left; (intro w hSw; (try dsimp only at hSw); go_split_ands; go_simp; first | done | with_reducible rfl); rotate_left; simp only [Act.put, List.getElem_toArray, List.getElem_cons_zero, List.setIfInBounds_toArray, List.set_cons_succ, List.set_cons_zero])
    (refine wpAnyH_take (i := 1) (v := ?_) rfl (by kernel_rfl) (by kernel_rfl) (by kernel_rfl) (fun _ _ _ h => h) (Or.inl ⟨by rfl, ?_⟩) (by assumption) ?_; rotate_left; (intro w hSw; (try dsimp only at hSw); go_split_ands; go_simp; first | done | with_reducible rfl); rotate_left; simp only [Act.put, List.getElem_toArray, List.getElem_cons_succ, List.getElem_cons_zero, List.setIfInBounds_toArray, List.set_cons_succ, List.set_cons_zero])
    (refine wpAnyH_take (i := 2) (v := ?_) rfl (by kernel_rfl) (by kernel_rfl) (by kernel_rfl) (fun _ _ _ h => h) (Or.inl ⟨by rfl, ?_⟩) (by assumption) ?_; rotate_left; (intro w hSw; (try dsimp only at hSw); go_split_ands; go_simp; first | done | with_reducible rfl); rotate_left; simp only [Act.put, List.getElem_toArray, List.getElem_cons_succ, List.getElem_cons_zero, List.setIfInBounds_toArray, List.set_cons_succ, List.set_cons_zero])
    refine wpAnyH_ready (rs := [3]) (by kernel_rfl) (by simp) ?_
    refine AllReadyH.cons rfl (fun K hK => ?_) AllReadyH.nil
    try dsimp only at hHeld
    go_split_ands
    go_simp
    refine (addValid_any n.m a1 c1 a2 c2 n.now _ (HM.out.below (SW.out.below.trans ((by assumption : Below W.heap.size W _).mono SW.out.size)) (Nat.le_refl _)) (HA.out.below (SW.out.below.trans ((by assumption : Below W.heap.size W _).mono SW.out.size)) (Nat.le_refl _)) HZ.out.m HC.out).mono ?_
    rintro e w1 ⟨rfl, hb1⟩
    rw [HF.out]
    refine hK.out _ _ ⟨heldc (by assumption) hb1, heldc (by assumption) hb1, heldc (by assumption) hb1, heldc (by assumption) hb1, heldc (by assumption) hb1, heldc (by assumption) hb1, heldc (by assumption) hb1, heldc (by assumption) hb1, heldc (by assumption) hb1, heldc (by assumption) hb1, heldc (by assumption) hb1, heldc (by assumption) hb1, heldc (by assumption) hb1, (by assumption : Below W.heap.size W _).trans (hb1.mono (by assumption : Below W.heap.size W _).size)⟩ (fun hHeld => ?_)
    clear hK K
    try simp only [Act.put, List.setIfInBounds_toArray, List.set_cons_zero, List.set_cons_succ]
    (refine wpAnyH_take (i := 4) (v := ?_) rfl (by kernel_rfl) (by kernel_rfl) (by kernel_rfl) (fun _ _ _ h => h) (Or.inl ⟨by rfl, ?_⟩) (by assumption) ?_; rotate_left; (intro w hSw; (try dsimp only at hSw); go_split_ands; go_simp; first | done | with_reducible rfl); rotate_left; simp only [Act.put, List.getElem_toArray, List.getElem_cons_succ, List.getElem_cons_zero, List.setIfInBounds_toArray, List.set_cons_succ, List.set_cons_zero])
    (refine wpAnyH_take (i := 5) (v := undef) rfl (by kernel_rfl) (by kernel_rfl) (by kernel_rfl) (fun _ _ _ h => h) (Or.inr ⟨by rfl, rfl⟩) (by assumption) ?_; simp only [Act.put, List.getElem_toArray, List.getElem_cons_succ, List.getElem_cons_zero, List.setIfInBounds_toArray, List.set_cons_succ, List.set_cons_zero])
    (refine wpAnyH_take (i := 6) (v := undef) rfl (by kernel_rfl) (by kernel_rfl) (by kernel_rfl) (fun _ _ _ h => h) (Or.inr ⟨by rfl, rfl⟩) (by assumption) ?_; simp only [Act.put, List.getElem_toArray, List.getElem_cons_succ, List.getElem_cons_zero, List.setIfInBounds_toArray, List.set_cons_succ, List.set_cons_zero])
    (refine wpAnyH_take (i := 7) (v := undef) rfl (by kernel_rfl) (by kernel_rfl) (by kernel_rfl) (fun _ _ _ h => h) (Or.inr ⟨by rfl, rfl⟩) (by assumption) ?_; simp only [Act.put, List.getElem_toArray, List.getElem_cons_succ, List.getElem_cons_zero, List.setIfInBounds_toArray, List.set_cons_succ, List.set_cons_zero])
    (refine wpAnyH_take (i := 8) (v := ?_) rfl (by kernel_rfl) (by kernel_rfl) (by kernel_rfl) (fun _ _ _ h => h) (Or.inl ⟨by rfl, ?_⟩) (by assumption) ?_; rotate_left; (intro w hSw; (try dsimp only at hSw); go_split_ands; go_simp; first | done | with_reducible rfl); rotate_left; simp only [Act.put, List.getElem_toArray, List.getElem_cons_succ, List.getElem_cons_zero, List.setIfInBounds_toArray, List.set_cons_succ, List.set_cons_zero])
    (refine wpAnyH_take (i := 9) (v := ?_) rfl (by kernel_rfl) (by kernel_rfl) (by kernel_rfl) (fun _ _ _ h => h) (Or.inl ⟨by rfl, ?_⟩) (by assumption) ?_; rotate_left; (intro w hSw; (try dsimp only at hSw); go_split_ands; go_simp; first | done | with_reducible rfl); rotate_left; simp only [Act.put, List.getElem_toArray, List.getElem_cons_succ, List.getElem_cons_zero, List.setIfInBounds_toArray, List.set_cons_succ, List.set_cons_zero])
    (refine wpAnyH_take (i := 10) (v := undef) rfl (by kernel_rfl) (by kernel_rfl) (by kernel_rfl) (fun _ _ _ h => h) (Or.inr ⟨by rfl, rfl⟩) (by assumption) ?_; simp only [Act.put, List.getElem_toArray, List.getElem_cons_succ, List.getElem_cons_zero, List.setIfInBounds_toArray, List.set_cons_succ, List.set_cons_zero])
    (refine wpAnyH_take (i := 11) (v := undef) rfl (by kernel_rfl) (by kernel_rfl) (by kernel_rfl) (fun _ _ _ h => h) (Or.inr ⟨by rfl, rfl⟩) (by assumption) ?_; simp only [Act.put, List.getElem_toArray, List.getElem_cons_succ, List.getElem_cons_zero, List.setIfInBounds_toArray, List.set_cons_succ, List.set_cons_zero])
    refine wpAnyH_ready (rs := [12]) (by kernel_rfl) (by simp) ?_
    refine AllReadyH.cons rfl (fun K hK => ?_) AllReadyH.nil
    go_simp
    refine hK.out _ _ (by assumption) (fun hHeld => ?_)
    clear hK K
    try simp only [Act.put, List.getElem_toArray, List.getElem_cons_succ, List.getElem_cons_zero, List.setIfInBounds_toArray, List.set_cons_zero, List.set_cons_succ]
    (refine wpAnyH_take (i := 13) (v := ?_) rfl (by kernel_rfl) (by kernel_rfl) (by kernel_rfl) (fun _ _ _ h => h) (Or.inl ⟨by rfl, ?_⟩) (by assumption) ?_; rotate_left; (intro w hSw; (try dsimp only at hSw); go_split_ands; go_simp; first | done | with_reducible rfl); rotate_left; simp only [Act.put, List.getElem_toArray, List.getElem_cons_succ, List.getElem_cons_zero, List.setIfInBounds_toArray, List.set_cons_succ, List.set_cons_zero])
    (refine wpAnyH_take (i := 14) (v := ?_) rfl (by kernel_rfl) (by kernel_rfl) (by kernel_rfl) (fun _ _ _ h => h) (Or.inl ⟨by rfl, ?_⟩) (by assumption) ?_; rotate_left; (intro w hSw; (try dsimp only at hSw); go_split_ands; go_simp; first | done | with_reducible rfl); rotate_left; simp only [Act.put, List.getElem_toArray, List.getElem_cons_succ, List.getElem_cons_zero, List.setIfInBounds_toArray, List.set_cons_succ, List.set_cons_zero])
    (refine wpAnyH_take (i := 15) (v := ?_) rfl (by kernel_rfl) (by kernel_rfl) (by kernel_rfl) (fun _ _ _ h => h) (Or.inl ⟨by rfl, ?_⟩) (by assumption) ?_; rotate_left; (intro w hSw; (try dsimp only at hSw); go_split_ands; go_simp; first | done | with_reducible rfl); rotate_left; simp only [Act.put, List.getElem_toArray, List.getElem_cons_succ, List.getElem_cons_zero, List.setIfInBounds_toArray, List.set_cons_succ, List.set_cons_zero])
    refine wpAnyH_done (by kernel_rfl) ?_ _
    try dsimp only at hHeld
    go_split_ands
    have hbx := (by assumption : Below W.heap.size W _)
    have SX : Seal _ := ⟨SW.out.later hbx⟩
    clear hbx
    go_wp2
    go_ret2
    exact ⟨_, congrArg (fun b => Ending.returned (Value.tuple #[_, Value.bool b])) hm.out.symm, SX.out.below⟩
  · by_cases i0 : n.id = 0
    · have e2 : ((n.id : Int) == 0) = true := by rw [beq_iff_eq]; exact i0
      have hm : Seal (noteB n = vs) := ⟨by rw [HQ.out, decide_eq_true i0]; simp⟩
      clear i0
      go_enter Tryd.func130, Tryd.ntmps130
      go_wp2_with fail
      obtain ⟨W, hW⟩ : ∃ W, W = (w.alloc (.cells (noteV n a1 c1 a2 c2) 99)).alloc (.cells #[.string n.m.fu, .string n.m.fd, .slice a1 n.m.rc.length c1, .slice a2 n.m.body.length c2, .int .i64 n.now] 220) := ⟨_, rfl⟩
      rw [← hW] at S1 ⊢
      have SW : Seal _ := ⟨S1.out⟩
      clear S1 hW
      have KN := SW.out.two.head
      have KO := SW.out.head
      have g1 := KN.c 1 _ rfl
      have g2 := KN.c 2 _ rfl
      have g3 := KN.c 3 _ rfl
      have g4 := KN.c 4 _ rfl
      have g5 := KN.c 5 _ rfl
      have g6 := KN.c 6 _ rfl
      have g7 := KN.c 7 _ rfl
      have g8 := KN.c 8 _ rfl
      have o0 := KO.c 0 _ rfl
      have o1 := KO.c 1 _ rfl
      have o2 := KO.c 2 _ rfl
      have o3 := KO.c 3 _ rfl
      have o4 := KO.c 4 _ rfl
      clear KN KO
      refine wp_region_held_drew (S := (fun w' => w'.cell? ⟨w.heap.size, 1, none⟩ = some (.int .i64 n.id) ∧ w'.cell? ⟨w.heap.size, 2, none⟩ = some (.string n.u) ∧ w'.cell? ⟨w.heap.size, 3, none⟩ = some (.string n.d) ∧ w'.cell? ⟨w.heap.size, 4, none⟩ = some (.int .i64 n.now) ∧ w'.cell? ⟨w.heap.size, 5, none⟩ = some (.string n.m.fu) ∧ w'.cell? ⟨w.heap.size, 6, none⟩ = some (.string n.m.fd) ∧ w'.cell? ⟨w.heap.size, 7, none⟩ = some (.slice a1 n.m.rc.length c1) ∧ w'.cell? ⟨w.heap.size, 8, none⟩ = some (.slice a2 n.m.body.length c2) ∧ w'.cell? ⟨w.heap.size + 1, 0, none⟩ = some (.string n.m.fu) ∧ w'.cell? ⟨w.heap.size + 1, 1, none⟩ = some (.string n.m.fd) ∧ w'.cell? ⟨w.heap.size + 1, 2, none⟩ = some (.slice a1 n.m.rc.length c1) ∧ w'.cell? ⟨w.heap.size + 1, 3, none⟩ = some (.slice a2 n.m.body.length c2) ∧ w'.cell? ⟨w.heap.size + 1, 4, none⟩ = some (.int .i64 n.now) ∧ Below W.heap.size W w')) (by kernel_rfl) ⟨g1, g2, g3, g4, g5, g6, g7, g8, o0, o1, o2, o3, o4, (Below.refl _ _).drew⟩ (fun hHeld => ?_)
      (refine wpAnyH_take (i := 0) (v := ?_) rfl (by kernel_rfl) (by kernel_rfl) (by kernel_rfl) (fun _ _ _ h => h) (Or.inl ⟨by rfl, ?_⟩) (by assumption) ?_; rotate_left; (intro w hSw; (try dsimp only at hSw); go_split_ands; go_simp; first | done | with_reducible rfl); rotate_left; simp only [Act.put, List.getElem_toArray, List.getElem_cons_zero, List.setIfInBounds_toArray, List.set_cons_succ, List.set_cons_zero])
      (refine wpAnyH_take (i := 1) (v := ?_) rfl (by kernel_rfl) (by kernel_rfl) (by kernel_rfl) (fun _ _ _ h => h) (Or.inl ⟨by rfl, ?_⟩) (by assumption) ?_; rotate_left; (intro w hSw; (try dsimp only at hSw); go_split_ands; go_simp; first | done | with_reducible rfl); rotate_left; simp only [Act.put, List.getElem_toArray, List.getElem_cons_succ, List.getElem_cons_zero, List.setIfInBounds_toArray, List.set_cons_succ, List.set_cons_zero])
      (refine wpAnyH_take (i := 2) (v := ?_) rfl (by kernel_rfl) (by kernel_rfl) (by kernel_rfl) (fun _ _ _ h => h) (Or.inl ⟨by rfl, ?_⟩) (by assumption) ?_; rotate_left; (intro w hSw; (try dsimp only at hSw); go_split_ands; go_simp; first | done | with_reducible rfl); rotate_left; simp only [Act.put, List.getElem_toArray, List.getElem_cons_succ, List.getElem_cons_zero, List.setIfInBounds_toArray, List.set_cons_succ, List.set_cons_zero])
      refine wpAnyH_ready (rs := [3]) (by kernel_rfl) (by simp) ?_
      refine AllReadyH.cons rfl (fun K hK => ?_) AllReadyH.nil
      try dsimp only at hHeld
      go_split_ands
      go_simp
      refine (addValid_any n.m a1 c1 a2 c2 n.now _ (HM.out.below (SW.out.below.trans ((by assumption : Below W.heap.size W _).mono SW.out.size)) (Nat.le_refl _)) (HA.out.below (SW.out.below.trans ((by assumption : Below W.heap.size W _).mono SW.out.size)) (Nat.le_refl _)) HZ.out.m HC.out).mono ?_
      rintro e w1 ⟨rfl, hb1⟩
      rw [HF.out]
      refine hK.out _ _ ⟨heldc (by assumption) hb1, heldc (by assumption) hb1, heldc (by assumption) hb1, heldc (by assumption) hb1, heldc (by assumption) hb1, heldc (by assumption) hb1, heldc (by assumption) hb1, heldc (by assumption) hb1, heldc (by assumption) hb1, heldc (by assumption) hb1, heldc (by assumption) hb1, heldc (by assumption) hb1, heldc (by assumption) hb1, (by assumption : Below W.heap.size W _).trans (hb1.mono (by assumption : Below W.heap.size W _).size)⟩ (fun hHeld => ?_)
      clear hK K
      try simp only [Act.put, List.setIfInBounds_toArray, List.set_cons_zero, List.set_cons_succ]
      (refine wpAnyH_take (i := 4) (v := ?_) rfl (by kernel_rfl) (by kernel_rfl) (by kernel_rfl) (fun _ _ _ h => h) (Or.inl ⟨by rfl, ?_⟩) (by assumption) ?_; rotate_left; (intro w hSw; (try dsimp only at hSw); go_split_ands; go_simp; first | done | with_reducible rfl); rotate_left; simp only [Act.put, List.getElem_toArray, List.getElem_cons_succ, List.getElem_cons_zero, List.setIfInBounds_toArray, List.set_cons_succ, List.set_cons_zero])
      (refine wpAnyH_take (i := 5) (v := ?_) rfl (by kernel_rfl) (by kernel_rfl) (by kernel_rfl) (fun _ _ _ h => h) (Or.inl ⟨by rfl, ?_⟩) (by assumption) ?_; rotate_left; (intro w hSw; (try dsimp only at hSw); go_split_ands; go_simp; first | done | with_reducible rfl); rotate_left; simp only [Act.put, List.getElem_toArray, List.getElem_cons_succ, List.getElem_cons_zero, List.setIfInBounds_toArray, List.set_cons_succ, List.set_cons_zero])
      (refine wpAnyH_take (i := 6) (v := ?_) rfl (by kernel_rfl) (by kernel_rfl) (by kernel_rfl) (fun _ _ _ h => h) (Or.inl ⟨by rfl, ?_⟩) (by assumption) ?_; rotate_left; (intro w hSw; (try dsimp only at hSw); go_split_ands; go_simp; first | done | with_reducible rfl); rotate_left; simp only [Act.put, List.getElem_toArray, List.getElem_cons_succ, List.getElem_cons_zero, List.setIfInBounds_toArray, List.set_cons_succ, List.set_cons_zero])
      (refine wpAnyH_take (i := 7) (v := ?_) rfl (by kernel_rfl) (by kernel_rfl) (by kernel_rfl) (fun _ _ _ h => h) (Or.inl ⟨by rfl, ?_⟩) (by assumption) ?_; rotate_left; (intro w hSw; (try dsimp only at hSw); go_split_ands; go_simp; first | done | with_reducible rfl); rotate_left; simp only [Act.put, List.getElem_toArray, List.getElem_cons_succ, List.getElem_cons_zero, List.setIfInBounds_toArray, List.set_cons_succ, List.set_cons_zero])
      (refine wpAnyH_take (i := 8) (v := ?_) rfl (by kernel_rfl) (by kernel_rfl) (by kernel_rfl) (fun _ _ _ h => h) (Or.inl ⟨by rfl, ?_⟩) (by assumption) ?_; rotate_left; (intro w hSw; (try dsimp only at hSw); go_split_ands; go_simp; first | done | with_reducible rfl); rotate_left; simp only [Act.put, List.getElem_toArray, List.getElem_cons_succ, List.getElem_cons_zero, List.setIfInBounds_toArray, List.set_cons_succ, List.set_cons_zero])
      (refine wpAnyH_take (i := 9) (v := ?_) rfl (by kernel_rfl) (by kernel_rfl) (by kernel_rfl) (fun _ _ _ h => h) (Or.inl ⟨by rfl, ?_⟩) (by assumption) ?_; rotate_left; (intro w hSw; (try dsimp only at hSw); go_split_ands; go_simp; first | done | with_reducible rfl); rotate_left; simp only [Act.put, List.getElem_toArray, List.getElem_cons_succ, List.getElem_cons_zero, List.setIfInBounds_toArray, List.set_cons_succ, List.set_cons_zero])
      (refine wpAnyH_take (i := 10) (v := ?_) rfl (by kernel_rfl) (by kernel_rfl) (by kernel_rfl) (fun _ _ _ h => h) (Or.inl ⟨by rfl, ?_⟩) (by assumption) ?_; rotate_left; (intro w hSw; (try dsimp only at hSw); go_split_ands; go_simp; first | done | with_reducible rfl); rotate_left; simp only [Act.put, List.getElem_toArray, List.getElem_cons_succ, List.getElem_cons_zero, List.setIfInBounds_toArray, List.set_cons_succ, List.set_cons_zero])
      (refine wpAnyH_take (i := 11) (v := ?_) rfl (by kernel_rfl) (by kernel_rfl) (by kernel_rfl) (fun _ _ _ h => h) (Or.inl ⟨by rfl, ?_⟩) (by assumption) ?_; rotate_left; (intro w hSw; (try dsimp only at hSw); go_split_ands; go_simp; first | done | with_reducible rfl); rotate_left; simp only [Act.put, List.getElem_toArray, List.getElem_cons_succ, List.getElem_cons_zero, List.setIfInBounds_toArray, List.set_cons_succ, List.set_cons_zero])
      refine wpAnyH_ready (rs := [12]) (by kernel_rfl) (by simp) ?_
      refine AllReadyH.cons rfl (fun K hK => ?_) AllReadyH.nil
      try dsimp only at hHeld
      go_split_ands
      go_simp
      refine (isNull_is n.u n.d vs HS.out _).mono ?_
      rintro e w2 ⟨rfl, hb2⟩
      refine hK.out _ _ ⟨heldc (by assumption) hb2, heldc (by assumption) hb2, heldc (by assumption) hb2, heldc (by assumption) hb2, heldc (by assumption) hb2, heldc (by assumption) hb2, heldc (by assumption) hb2, heldc (by assumption) hb2, heldc (by assumption) hb2, heldc (by assumption) hb2, heldc (by assumption) hb2, heldc (by assumption) hb2, heldc (by assumption) hb2, (by assumption : Below W.heap.size W _).trans (hb2.mono (by assumption : Below W.heap.size W _).size)⟩ (fun hHeld => ?_)
      clear hK K
      try simp only [Act.put, List.setIfInBounds_toArray, List.set_cons_zero, List.set_cons_succ]
      (refine wpAnyH_take (i := 13) (v := ?_) rfl (by kernel_rfl) (by kernel_rfl) (by kernel_rfl) (fun _ _ _ h => h) (Or.inl ⟨by rfl, ?_⟩) (by assumption) ?_; rotate_left; (intro w hSw; (try dsimp only at hSw); go_split_ands; go_simp; first | done | with_reducible rfl); rotate_left; simp only [Act.put, List.getElem_toArray, List.getElem_cons_succ, List.getElem_cons_zero, List.setIfInBounds_toArray, List.set_cons_succ, List.set_cons_zero])
      (refine wpAnyH_take (i := 14) (v := ?_) rfl (by kernel_rfl) (by kernel_rfl) (by kernel_rfl) (fun _ _ _ h => h) (Or.inl ⟨by rfl, ?_⟩) (by assumption) ?_; rotate_left; (intro w hSw; (try dsimp only at hSw); go_split_ands; go_simp; first | done | with_reducible rfl); rotate_left; simp only [Act.put, List.getElem_toArray, List.getElem_cons_succ, List.getElem_cons_zero, List.setIfInBounds_toArray, List.set_cons_succ, List.set_cons_zero])
      (refine wpAnyH_take (i := 15) (v := ?_) rfl (by kernel_rfl) (by kernel_rfl) (by kernel_rfl) (fun _ _ _ h => h) (Or.inl ⟨by rfl, ?_⟩) (by assumption) ?_; rotate_left; (intro w hSw; (try dsimp only at hSw); go_split_ands; go_simp; first | done | with_reducible rfl); rotate_left; simp only [Act.put, List.getElem_toArray, List.getElem_cons_succ, List.getElem_cons_zero, List.setIfInBounds_toArray, List.set_cons_succ, List.set_cons_zero])
      refine wpAnyH_done (by kernel_rfl) ?_ _
      try dsimp only at hHeld
      go_split_ands
      have hbx := (by assumption : Below W.heap.size W _)
      have SX : Seal _ := ⟨SW.out.later hbx⟩
      clear hbx
      go_wp2
      go_ret2
      exact ⟨_, congrArg (fun b => Ending.returned (Value.tuple #[_, Value.bool b])) hm.out.symm, SX.out.below⟩
    · have e2 : ((n.id : Int) == 0) = false := by rw [beq_eq_false_iff_ne]; exact i0
      have hm : Seal (noteB n = false) := ⟨by rw [HQ.out, decide_eq_false i0]; simp⟩
      clear i0
      go_enter Tryd.func130, Tryd.ntmps130
      go_wp2_with fail
      obtain ⟨W, hW⟩ : ∃ W, W = (w.alloc (.cells (noteV n a1 c1 a2 c2) 99)).alloc (.cells #[.string n.m.fu, .string n.m.fd, .slice a1 n.m.rc.length c1, .slice a2 n.m.body.length c2, .int .i64 n.now] 220) := ⟨_, rfl⟩
      rw [← hW] at S1 ⊢
      have SW : Seal _ := ⟨S1.out⟩
      clear S1 hW
      have KN := SW.out.two.head
      have KO := SW.out.head
      have g1 := KN.c 1 _ rfl
      have g2 := KN.c 2 _ rfl
      have g3 := KN.c 3 _ rfl
      have g4 := KN.c 4 _ rfl
      have g5 := KN.c 5 _ rfl
      have g6 := KN.c 6 _ rfl
      have g7 := KN.c 7 _ rfl
      have g8 := KN.c 8 _ rfl
      have o0 := KO.c 0 _ rfl
      have o1 := KO.c 1 _ rfl
      have o2 := KO.c 2 _ rfl
      have o3 := KO.c 3 _ rfl
      have o4 := KO.c 4 _ rfl
      clear KN KO
      refine wp_region_held_drew (S := (fun w' => w'.cell? ⟨w.heap.size, 1, none⟩ = some (.int .i64 n.id) ∧ w'.cell? ⟨w.heap.size, 2, none⟩ = some (.string n.u) ∧ w'.cell? ⟨w.heap.size, 3, none⟩ = some (.string n.d) ∧ w'.cell? ⟨w.heap.size, 4, none⟩ = some (.int .i64 n.now) ∧ w'.cell? ⟨w.heap.size, 5, none⟩ = some (.string n.m.fu) ∧ w'.cell? ⟨w.heap.size, 6, none⟩ = some (.string n.m.fd) ∧ w'.cell? ⟨w.heap.size, 7, none⟩ = some (.slice a1 n.m.rc.length c1) ∧ w'.cell? ⟨w.heap.size, 8, none⟩ = some (.slice a2 n.m.body.length c2) ∧ w'.cell? ⟨w.heap.size + 1, 0, none⟩ = some (.string n.m.fu) ∧ w'.cell? ⟨w.heap.size + 1, 1, none⟩ = some (.string n.m.fd) ∧ w'.cell? ⟨w.heap.size + 1, 2, none⟩ = some (.slice a1 n.m.rc.length c1) ∧ w'.cell? ⟨w.heap.size + 1, 3, none⟩ = some (.slice a2 n.m.body.length c2) ∧ w'.cell? ⟨w.heap.size + 1, 4, none⟩ = some (.int .i64 n.now) ∧ Below W.heap.size W w')) (by kernel_rfl) ⟨g1, g2, g3, g4, g5, g6, g7, g8, o0, o1, o2, o3, o4, (Below.refl _ _).drew⟩ (fun hHeld => ?_)
      (refine wpAnyH_take (i := 0) (v := ?_) rfl (by kernel_rfl) (by kernel_rfl) (by kernel_rfl) (fun _ _ _ h => h) (Or.inl ⟨by rfl, ?_⟩) (by assumption) ?_; rotate_left; (intro w hSw; (try dsimp only at hSw); go_split_ands; go_simp; first | done | with_reducible rfl); rotate_left; simp only [Act.put, List.getElem_toArray, List.getElem_cons_zero, List.setIfInBounds_toArray, List.set_cons_succ, List.set_cons_zero])
      (refine wpAnyH_take (i := 1) (v := ?_) rfl (by kernel_rfl) (by kernel_rfl) (by kernel_rfl) (fun _ _ _ h => h) (Or.inl ⟨by rfl, ?_⟩) (by assumption) ?_; rotate_left; (intro w hSw; (try dsimp only at hSw); go_split_ands; go_simp; first | done | with_reducible rfl); rotate_left; simp only [Act.put, List.getElem_toArray, List.getElem_cons_succ, List.getElem_cons_zero, List.setIfInBounds_toArray, List.set_cons_succ, List.set_cons_zero])
      (refine wpAnyH_take (i := 2) (v := ?_) rfl (by kernel_rfl) (by kernel_rfl) (by kernel_rfl) (fun _ _ _ h => h) (Or.inl ⟨by rfl, ?_⟩) (by assumption) ?_; rotate_left; (intro w hSw; (try dsimp only at hSw); go_split_ands; go_simp; first | done | with_reducible rfl); rotate_left; simp only [Act.put, List.getElem_toArray, List.getElem_cons_succ, List.getElem_cons_zero, List.setIfInBounds_toArray, List.set_cons_succ, List.set_cons_zero])
      refine wpAnyH_ready (rs := [3]) (by kernel_rfl) (by simp) ?_
      refine AllReadyH.cons rfl (fun K hK => ?_) AllReadyH.nil
      try dsimp only at hHeld
      go_split_ands
      go_simp
      refine (addValid_any n.m a1 c1 a2 c2 n.now _ (HM.out.below (SW.out.below.trans ((by assumption : Below W.heap.size W _).mono SW.out.size)) (Nat.le_refl _)) (HA.out.below (SW.out.below.trans ((by assumption : Below W.heap.size W _).mono SW.out.size)) (Nat.le_refl _)) HZ.out.m HC.out).mono ?_
      rintro e w1 ⟨rfl, hb1⟩
      rw [HF.out]
      refine hK.out _ _ ⟨heldc (by assumption) hb1, heldc (by assumption) hb1, heldc (by assumption) hb1, heldc (by assumption) hb1, heldc (by assumption) hb1, heldc (by assumption) hb1, heldc (by assumption) hb1, heldc (by assumption) hb1, heldc (by assumption) hb1, heldc (by assumption) hb1, heldc (by assumption) hb1, heldc (by assumption) hb1, heldc (by assumption) hb1, (by assumption : Below W.heap.size W _).trans (hb1.mono (by assumption : Below W.heap.size W _).size)⟩ (fun hHeld => ?_)
      clear hK K
      try simp only [Act.put, List.setIfInBounds_toArray, List.set_cons_zero, List.set_cons_succ]
      (refine wpAnyH_take (i := 4) (v := ?_) rfl (by kernel_rfl) (by kernel_rfl) (by kernel_rfl) (fun _ _ _ h => h) (Or.inl ⟨by rfl, ?_⟩) (by assumption) ?_; rotate_left; (intro w hSw; (try dsimp only at hSw); go_split_ands; go_simp; first | done | with_reducible rfl); rotate_left; simp only [Act.put, List.getElem_toArray, List.getElem_cons_succ, List.getElem_cons_zero, List.setIfInBounds_toArray, List.set_cons_succ, List.set_cons_zero])
      (refine wpAnyH_take (i := 5) (v := ?_) rfl (by kernel_rfl) (by kernel_rfl) (by kernel_rfl) (fun _ _ _ h => h) (Or.inl ⟨by rfl, ?_⟩) (by assumption) ?_; rotate_left; (intro w hSw; (try dsimp only at hSw); go_split_ands; go_simp; first | done | with_reducible rfl); rotate_left; simp only [Act.put, List.getElem_toArray, List.getElem_cons_succ, List.getElem_cons_zero, List.setIfInBounds_toArray, List.set_cons_succ, List.set_cons_zero])
      (refine wpAnyH_take (i := 6) (v := ?_) rfl (by kernel_rfl) (by kernel_rfl) (by kernel_rfl) (fun _ _ _ h => h) (Or.inl ⟨by rfl, ?_⟩) (by assumption) ?_; rotate_left; (intro w hSw; (try dsimp only at hSw); go_split_ands; go_simp; first | done | with_reducible rfl); rotate_left; simp only [Act.put, List.getElem_toArray, List.getElem_cons_succ, List.getElem_cons_zero, List.setIfInBounds_toArray, List.set_cons_succ, List.set_cons_zero])
      (refine wpAnyH_take (i := 7) (v := ?_) rfl (by kernel_rfl) (by kernel_rfl) (by kernel_rfl) (fun _ _ _ h => h) (Or.inl ⟨by rfl, ?_⟩) (by assumption) ?_; rotate_left; (intro w hSw; (try dsimp only at hSw); go_split_ands; go_simp; first | done | with_reducible rfl); rotate_left; simp only [Act.put, List.getElem_toArray, List.getElem_cons_succ, List.getElem_cons_zero, List.setIfInBounds_toArray, List.set_cons_succ, List.set_cons_zero])
      (refine wpAnyH_take (i := 8) (v := ?_) rfl (by kernel_rfl) (by kernel_rfl) (by kernel_rfl) (fun _ _ _ h => h) (Or.inl ⟨by rfl, ?_⟩) (by assumption) ?_; rotate_left; (intro w hSw; (try dsimp only at hSw); go_split_ands; go_simp; first | done | with_reducible rfl); rotate_left; simp only [Act.put, List.getElem_toArray, List.getElem_cons_succ, List.getElem_cons_zero, List.setIfInBounds_toArray, List.set_cons_succ, List.set_cons_zero])
      (refine wpAnyH_take (i := 9) (v := ?_) rfl (by kernel_rfl) (by kernel_rfl) (by kernel_rfl) (fun _ _ _ h => h) (Or.inl ⟨by rfl, ?_⟩) (by assumption) ?_; rotate_left; (intro w hSw; (try dsimp only at hSw); go_split_ands; go_simp; first | done | with_reducible rfl); rotate_left; simp only [Act.put, List.getElem_toArray, List.getElem_cons_succ, List.getElem_cons_zero, List.setIfInBounds_toArray, List.set_cons_succ, List.set_cons_zero])
      (refine wpAnyH_take (i := 10) (v := undef) rfl (by kernel_rfl) (by kernel_rfl) (by kernel_rfl) (fun _ _ _ h => h) (Or.inr ⟨by rfl, rfl⟩) (by assumption) ?_; simp only [Act.put, List.getElem_toArray, List.getElem_cons_succ, List.getElem_cons_zero, List.setIfInBounds_toArray, List.set_cons_succ, List.set_cons_zero])
      (refine wpAnyH_take (i := 11) (v := undef) rfl (by kernel_rfl) (by kernel_rfl) (by kernel_rfl) (fun _ _ _ h => h) (Or.inr ⟨by rfl, rfl⟩) (by assumption) ?_; simp only [Act.put, List.getElem_toArray, List.getElem_cons_succ, List.getElem_cons_zero, List.setIfInBounds_toArray, List.set_cons_succ, List.set_cons_zero])
      refine wpAnyH_ready (rs := [12]) (by kernel_rfl) (by simp) ?_
      refine AllReadyH.cons rfl (fun K hK => ?_) AllReadyH.nil
      go_simp
      refine hK.out _ _ (by assumption) (fun hHeld => ?_)
      clear hK K
      try simp only [Act.put, List.getElem_toArray, List.getElem_cons_succ, List.getElem_cons_zero, List.setIfInBounds_toArray, List.set_cons_zero, List.set_cons_succ]
      (refine wpAnyH_take (i := 13) (v := ?_) rfl (by kernel_rfl) (by kernel_rfl) (by kernel_rfl) (fun _ _ _ h => h) (Or.inl ⟨by rfl, ?_⟩) (by assumption) ?_; rotate_left; (intro w hSw; (try dsimp only at hSw); go_split_ands; go_simp; first | done | with_reducible rfl); rotate_left; simp only [Act.put, List.getElem_toArray, List.getElem_cons_succ, List.getElem_cons_zero, List.setIfInBounds_toArray, List.set_cons_succ, List.set_cons_zero])
      (refine wpAnyH_take (i := 14) (v := ?_) rfl (by kernel_rfl) (by kernel_rfl) (by kernel_rfl) (fun _ _ _ h => h) (Or.inl ⟨by rfl, ?_⟩) (by assumption) ?_; rotate_left; (intro w hSw; (try dsimp only at hSw); go_split_ands; go_simp; first | done | with_reducible rfl); rotate_left; simp only [Act.put, List.getElem_toArray, List.getElem_cons_succ, List.getElem_cons_zero, List.setIfInBounds_toArray, List.set_cons_succ, List.set_cons_zero])
      (refine wpAnyH_take (i := 15) (v := ?_) rfl (by kernel_rfl) (by kernel_rfl) (by kernel_rfl) (fun _ _ _ h => h) (Or.inl ⟨by rfl, ?_⟩) (by assumption) ?_; rotate_left; (intro w hSw; (try dsimp only at hSw); go_split_ands; go_simp; first | done | with_reducible rfl); rotate_left; simp only [Act.put, List.getElem_toArray, List.getElem_cons_succ, List.getElem_cons_zero, List.setIfInBounds_toArray, List.set_cons_succ, List.set_cons_zero])
      refine wpAnyH_done (by kernel_rfl) ?_ _
      try dsimp only at hHeld
      go_split_ands
      have hbx := (by assumption : Below W.heap.size W _)
      have SX : Seal _ := ⟨SW.out.later hbx⟩
      clear hbx
      go_wp2
      go_ret2
      exact ⟨_, congrArg (fun b => Ending.returned (Value.tuple #[_, Value.bool b])) hm.out.symm, SX.out.below⟩

set_option maxHeartbeats 16000000 in
set_option maxRecDepth 100000 in
theorem operationOf_done (n : NoteD) (a1 : Option Addr) (c1 : Nat) (a2 : Option Addr) (c2 : Nat) (w : World) (hm : HasMax w) (hat : MailAt w n.m a1 a2) (hsz : NoteSz 1048576 n) (hcap : n.m.rc.length ≤ c1) (hk : n.kind = 2) :
    Calls Tryd.prog 130 #[.agg (noteV n a1 c1 a2 c2)] w (OpPost n w) := by
  have HM : Seal _ := ⟨hm⟩
  have HA : Seal _ := ⟨hat⟩
  have HZ : Seal _ := ⟨hsz⟩
  have HC : Seal _ := ⟨hcap⟩
  have zu := hsz.u
  have zd := hsz.d
  have s0 := (St.start w).alloc (noteV n a1 c1 a2 c2) 99
  obtain ⟨vf, hvf⟩ : ∃ v, (inB n.id 1 999 && addrB n.u n.d) = v := ⟨_, rfl⟩
  obtain ⟨vs, hvs⟩ : ∃ v, bareB n.m = v := ⟨_, rfl⟩
  have HQ : Seal (noteB n = (decide (n.now = 0) && (vs && vf))) := ⟨by rw [noteB_two hk, hvs, ← hvf]; cases vs <;> cases inB n.id 1 999 <;> cases addrB n.u n.d <;> cases decide (n.now = 0) <;> rfl⟩
  have HF : Seal _ := ⟨hvf⟩
  have HS : Seal _ := ⟨hvs⟩
  have e1 : ((n.kind : Int) == 1) = false := by rw [beq_eq_false_iff_ne]; omega
  have e5 : ((n.kind : Int) == 2) = true := by rw [beq_iff_eq]; exact hk
  clear hm hat hsz hcap hvf hvs hk
  have s1 := s0.alloc #[.int .i64 n.id, .string n.u, .string n.d] 224
  simp only [World.size_alloc] at s1
  have S1 : Seal _ := ⟨s1⟩
  clear s0 s1
  cases vf
  · have hm : Seal (noteB n = false) := ⟨by rw [HQ.out]; simp⟩
    go_enter Tryd.func130, Tryd.ntmps130
    go_wp2_with fail
    obtain ⟨W, hW⟩ : ∃ W, W = (w.alloc (.cells (noteV n a1 c1 a2 c2) 99)).alloc (.cells #[.int .i64 n.id, .string n.u, .string n.d] 224) := ⟨_, rfl⟩
    rw [← hW] at S1 ⊢
    have SW : Seal _ := ⟨S1.out⟩
    clear S1 hW
    have KN := SW.out.two.head
    have KO := SW.out.head
    have g1 := KN.c 1 _ rfl
    have g2 := KN.c 2 _ rfl
    have g3 := KN.c 3 _ rfl
    have g4 := KN.c 4 _ rfl
    have g5 := KN.c 5 _ rfl
    have g6 := KN.c 6 _ rfl
    have g7 := KN.c 7 _ rfl
    have g8 := KN.c 8 _ rfl
    have o0 := KO.c 0 _ rfl
    have o1 := KO.c 1 _ rfl
    have o2 := KO.c 2 _ rfl
    clear KN KO
    refine wp_region_held_drew (S := (fun w' => w'.cell? ⟨w.heap.size, 1, none⟩ = some (.int .i64 n.id) ∧ w'.cell? ⟨w.heap.size, 2, none⟩ = some (.string n.u) ∧ w'.cell? ⟨w.heap.size, 3, none⟩ = some (.string n.d) ∧ w'.cell? ⟨w.heap.size, 4, none⟩ = some (.int .i64 n.now) ∧ w'.cell? ⟨w.heap.size, 5, none⟩ = some (.string n.m.fu) ∧ w'.cell? ⟨w.heap.size, 6, none⟩ = some (.string n.m.fd) ∧ w'.cell? ⟨w.heap.size, 7, none⟩ = some (.slice a1 n.m.rc.length c1) ∧ w'.cell? ⟨w.heap.size, 8, none⟩ = some (.slice a2 n.m.body.length c2) ∧ w'.cell? ⟨w.heap.size + 1, 0, none⟩ = some (.int .i64 n.id) ∧ w'.cell? ⟨w.heap.size + 1, 1, none⟩ = some (.string n.u) ∧ w'.cell? ⟨w.heap.size + 1, 2, none⟩ = some (.string n.d) ∧ Below W.heap.size W w')) (by kernel_rfl) ⟨g1, g2, g3, g4, g5, g6, g7, g8, o0, o1, o2, (Below.refl _ _).drew⟩ (fun hHeld => ?_)
    (refine wpAnyH_take (i := 0) (v := ?_) rfl (by kernel_rfl) (by kernel_rfl) (by kernel_rfl) (fun _ _ _ h => h) (Or.inl ⟨by rfl, ?_⟩) (by assumption) ?_; rotate_left; (intro w hSw; (try dsimp only at hSw); go_split_ands; go_simp; first | done | with_reducible rfl); rotate_left; simp only [Act.put, List.getElem_toArray, List.getElem_cons_zero, List.setIfInBounds_toArray, List.set_cons_succ, List.set_cons_zero])
    (refine wpAnyH_take (i := 1) (v := ?_) rfl (by kernel_rfl) (by kernel_rfl) (by kernel_rfl) (fun _ _ _ h => h) (Or.inl ⟨by rfl, ?_⟩) (by assumption) ?_; rotate_left; (intro w hSw; (try dsimp only at hSw); go_split_ands; go_simp; first | done | with_reducible rfl); rotate_left; simp only [Act.put, List.getElem_toArray, List.getElem_cons_succ, List.getElem_cons_zero, List.setIfInBounds_toArray, List.set_cons_succ, List.set_cons_zero])
    (refine wpAnyH_take (i := 2) (v := ?_) rfl (by kernel_rfl) (by kernel_rfl) (by kernel_rfl) (fun _ _ _ h => h) (Or.inl ⟨by rfl, ?_⟩) (by assumption) ?_; rotate_left; (intro w hSw; (try dsimp only at hSw); go_split_ands; go_simp; first | done | with_reducible rfl); rotate_left; simp only [Act.put, List.getElem_toArray, List.getElem_cons_succ, List.getElem_cons_zero, List.setIfInBounds_toArray, List.set_cons_succ, List.set_cons_zero])
    (refine wpAnyH_take (i := 3) (v := ?_) rfl (by kernel_rfl) (by kernel_rfl) (by kernel_rfl) (fun _ _ _ h => h) (Or.inl ⟨by rfl, ?_⟩) (by assumption) ?_; rotate_left; (intro w hSw; (try dsimp only at hSw); go_split_ands; go_simp; first | done | with_reducible rfl); rotate_left; simp only [Act.put, List.getElem_toArray, List.getElem_cons_succ, List.getElem_cons_zero, List.setIfInBounds_toArray, List.set_cons_succ, List.set_cons_zero])
    refine wpAnyH_ready (rs := [4]) (by kernel_rfl) (by simp) ?_
    refine AllReadyH.cons rfl (fun K hK => ?_) AllReadyH.nil
    try dsimp only at hHeld
    go_split_ands
    go_simp
    refine (targetValid_any n.id n.u n.d _ (HM.out.below (SW.out.below.trans ((by assumption : Below W.heap.size W _).mono SW.out.size)) (Nat.le_refl _)) zu zd).mono ?_
    rintro e w1 ⟨rfl, hb1⟩
    rw [HF.out]
    refine hK.out _ _ ⟨heldc (by assumption) hb1, heldc (by assumption) hb1, heldc (by assumption) hb1, heldc (by assumption) hb1, heldc (by assumption) hb1, heldc (by assumption) hb1, heldc (by assumption) hb1, heldc (by assumption) hb1, heldc (by assumption) hb1, heldc (by assumption) hb1, heldc (by assumption) hb1, (by assumption : Below W.heap.size W _).trans (hb1.mono (by assumption : Below W.heap.size W _).size)⟩ (fun hHeld => ?_)
    clear hK K
    try simp only [Act.put, List.setIfInBounds_toArray, List.set_cons_zero, List.set_cons_succ]
    (refine wpAnyH_take (i := 5) (v := ?_) rfl (by kernel_rfl) (by kernel_rfl) (by kernel_rfl) (fun _ _ _ h => h) (Or.inl ⟨by rfl, ?_⟩) (by assumption) ?_; rotate_left; (intro w hSw; (try dsimp only at hSw); go_split_ands; go_simp; first | done | with_reducible rfl); rotate_left; simp only [Act.put, List.getElem_toArray, List.getElem_cons_succ, List.getElem_cons_zero, List.setIfInBounds_toArray, List.set_cons_succ, List.set_cons_zero])
    (refine wpAnyH_take (i := 6) (v := undef) rfl (by kernel_rfl) (by kernel_rfl) (by kernel_rfl) (fun _ _ _ h => h) (Or.inr ⟨by rfl, rfl⟩) (by assumption) ?_; simp only [Act.put, List.getElem_toArray, List.getElem_cons_succ, List.getElem_cons_zero, List.setIfInBounds_toArray, List.set_cons_succ, List.set_cons_zero])
    (refine wpAnyH_take (i := 7) (v := undef) rfl (by kernel_rfl) (by kernel_rfl) (by kernel_rfl) (fun _ _ _ h => h) (Or.inr ⟨by rfl, rfl⟩) (by assumption) ?_; simp only [Act.put, List.getElem_toArray, List.getElem_cons_succ, List.getElem_cons_zero, List.setIfInBounds_toArray, List.set_cons_succ, List.set_cons_zero])
    (refine wpAnyH_take (i := 8) (v := undef) rfl (by kernel_rfl) (by kernel_rfl) (by kernel_rfl) (fun _ _ _ h => h) (Or.inr ⟨by rfl, rfl⟩) (by assumption) ?_; simp only [Act.put, List.getElem_toArray, List.getElem_cons_succ, List.getElem_cons_zero, List.setIfInBounds_toArray, List.set_cons_succ, List.set_cons_zero])
    (refine wpAnyH_take (i := 9) (v := ?_) rfl (by kernel_rfl) (by kernel_rfl) (by kernel_rfl) (fun _ _ _ h => h) (Or.inl ⟨by rfl, ?_⟩) (by assumption) ?_; rotate_left; (intro w hSw; (try dsimp only at hSw); go_split_ands; go_simp; first | done | with_reducible rfl); rotate_left; simp only [Act.put, List.getElem_toArray, List.getElem_cons_succ, List.getElem_cons_zero, List.setIfInBounds_toArray, List.set_cons_succ, List.set_cons_zero])
    (refine wpAnyH_take (i := 10) (v := ?_) rfl (by kernel_rfl) (by kernel_rfl) (by kernel_rfl) (fun _ _ _ h => h) (Or.inl ⟨by rfl, ?_⟩) (by assumption) ?_; rotate_left; (intro w hSw; (try dsimp only at hSw); go_split_ands; go_simp; first | done | with_reducible rfl); rotate_left; simp only [Act.put, List.getElem_toArray, List.getElem_cons_succ, List.getElem_cons_zero, List.setIfInBounds_toArray, List.set_cons_succ, List.set_cons_zero])
    (refine wpAnyH_take (i := 11) (v := undef) rfl (by kernel_rfl) (by kernel_rfl) (by kernel_rfl) (fun _ _ _ h => h) (Or.inr ⟨by rfl, rfl⟩) (by assumption) ?_; simp only [Act.put, List.getElem_toArray, List.getElem_cons_succ, List.getElem_cons_zero, List.setIfInBounds_toArray, List.set_cons_succ, List.set_cons_zero])
    (refine wpAnyH_take (i := 12) (v := undef) rfl (by kernel_rfl) (by kernel_rfl) (by kernel_rfl) (fun _ _ _ h => h) (Or.inr ⟨by rfl, rfl⟩) (by assumption) ?_; simp only [Act.put, List.getElem_toArray, List.getElem_cons_succ, List.getElem_cons_zero, List.setIfInBounds_toArray, List.set_cons_succ, List.set_cons_zero])
    refine wpAnyH_ready (rs := [13]) (by kernel_rfl) (by simp) ?_
    refine AllReadyH.cons rfl (fun K hK => ?_) AllReadyH.nil
    go_simp
    refine hK.out _ _ (by assumption) (fun hHeld => ?_)
    clear hK K
    try simp only [Act.put, List.getElem_toArray, List.getElem_cons_succ, List.getElem_cons_zero, List.setIfInBounds_toArray, List.set_cons_zero, List.set_cons_succ]
    (refine wpAnyH_take (i := 14) (v := ?_) rfl (by kernel_rfl) (by kernel_rfl) (by kernel_rfl) (fun _ _ _ h => h) (Or.inl ⟨by rfl, ?_⟩) (by assumption) ?_; rotate_left; (intro w hSw; (try dsimp only at hSw); go_split_ands; go_simp; first | done | with_reducible rfl); rotate_left; simp only [Act.put, List.getElem_toArray, List.getElem_cons_succ, List.getElem_cons_zero, List.setIfInBounds_toArray, List.set_cons_succ, List.set_cons_zero])
    (refine wpAnyH_take (i := 15) (v := ?_) rfl (by kernel_rfl) (by kernel_rfl) (by kernel_rfl) (fun _ _ _ h => h) (Or.inl ⟨by rfl, ?_⟩) (by assumption) ?_; rotate_left; (intro w hSw; (try dsimp only at hSw); go_split_ands; go_simp; first | done | with_reducible rfl); rotate_left; simp only [Act.put, List.getElem_toArray, List.getElem_cons_succ, List.getElem_cons_zero, List.setIfInBounds_toArray, List.set_cons_succ, List.set_cons_zero])
    (refine wpAnyH_take (i := 16) (v := ?_) rfl (by kernel_rfl) (by kernel_rfl) (by kernel_rfl) (fun _ _ _ h => h) (Or.inl ⟨by rfl, ?_⟩) (by assumption) ?_; rotate_left; (intro w hSw; (try dsimp only at hSw); go_split_ands; go_simp; first | done | with_reducible rfl); rotate_left; simp only [Act.put, List.getElem_toArray, List.getElem_cons_succ, List.getElem_cons_zero, List.setIfInBounds_toArray, List.set_cons_succ, List.set_cons_zero])
    refine wpAnyH_done (by kernel_rfl) ?_ _
    try dsimp only at hHeld
    go_split_ands
    have hbx := (by assumption : Below W.heap.size W _)
    have SX : Seal _ := ⟨SW.out.later hbx⟩
    clear hbx
    go_wp2
    go_ret2
    exact ⟨_, congrArg (fun b => Ending.returned (Value.tuple #[_, Value.bool b])) hm.out.symm, SX.out.below⟩
  · by_cases i0 : n.now = 0
    · have e2 : ((n.now : Int) == 0) = true := by rw [beq_iff_eq]; exact i0
      have hm : Seal (noteB n = vs) := ⟨by rw [HQ.out, decide_eq_true i0]; simp⟩
      clear i0
      go_enter Tryd.func130, Tryd.ntmps130
      go_wp2_with fail
      obtain ⟨W, hW⟩ : ∃ W, W = (w.alloc (.cells (noteV n a1 c1 a2 c2) 99)).alloc (.cells #[.int .i64 n.id, .string n.u, .string n.d] 224) := ⟨_, rfl⟩
      rw [← hW] at S1 ⊢
      have SW : Seal _ := ⟨S1.out⟩
      clear S1 hW
      have KN := SW.out.two.head
      have KO := SW.out.head
      have g1 := KN.c 1 _ rfl
      have g2 := KN.c 2 _ rfl
      have g3 := KN.c 3 _ rfl
      have g4 := KN.c 4 _ rfl
      have g5 := KN.c 5 _ rfl
      have g6 := KN.c 6 _ rfl
      have g7 := KN.c 7 _ rfl
      have g8 := KN.c 8 _ rfl
      have o0 := KO.c 0 _ rfl
      have o1 := KO.c 1 _ rfl
      have o2 := KO.c 2 _ rfl
      clear KN KO
      refine wp_region_held_drew (S := (fun w' => w'.cell? ⟨w.heap.size, 1, none⟩ = some (.int .i64 n.id) ∧ w'.cell? ⟨w.heap.size, 2, none⟩ = some (.string n.u) ∧ w'.cell? ⟨w.heap.size, 3, none⟩ = some (.string n.d) ∧ w'.cell? ⟨w.heap.size, 4, none⟩ = some (.int .i64 n.now) ∧ w'.cell? ⟨w.heap.size, 5, none⟩ = some (.string n.m.fu) ∧ w'.cell? ⟨w.heap.size, 6, none⟩ = some (.string n.m.fd) ∧ w'.cell? ⟨w.heap.size, 7, none⟩ = some (.slice a1 n.m.rc.length c1) ∧ w'.cell? ⟨w.heap.size, 8, none⟩ = some (.slice a2 n.m.body.length c2) ∧ w'.cell? ⟨w.heap.size + 1, 0, none⟩ = some (.int .i64 n.id) ∧ w'.cell? ⟨w.heap.size + 1, 1, none⟩ = some (.string n.u) ∧ w'.cell? ⟨w.heap.size + 1, 2, none⟩ = some (.string n.d) ∧ Below W.heap.size W w')) (by kernel_rfl) ⟨g1, g2, g3, g4, g5, g6, g7, g8, o0, o1, o2, (Below.refl _ _).drew⟩ (fun hHeld => ?_)
      (refine wpAnyH_take (i := 0) (v := ?_) rfl (by kernel_rfl) (by kernel_rfl) (by kernel_rfl) (fun _ _ _ h => h) (Or.inl ⟨by rfl, ?_⟩) (by assumption) ?_; rotate_left; (intro w hSw; (try dsimp only at hSw); go_split_ands; go_simp; first | done | with_reducible rfl); rotate_left; simp only [Act.put, List.getElem_toArray, List.getElem_cons_zero, List.setIfInBounds_toArray, List.set_cons_succ, List.set_cons_zero])
      (refine wpAnyH_take (i := 1) (v := ?_) rfl (by kernel_rfl) (by kernel_rfl) (by kernel_rfl) (fun _ _ _ h => h) (Or.inl ⟨by rfl, ?_⟩) (by assumption) ?_; rotate_left; (intro w hSw; (try dsimp only at hSw); go_split_ands; go_simp; first | done | with_reducible rfl); rotate_left; simp only [Act.put, List.getElem_toArray, List.getElem_cons_succ, List.getElem_cons_zero, List.setIfInBounds_toArray, List.set_cons_succ, List.set_cons_zero])
      (refine wpAnyH_take (i := 2) (v := ?_) rfl (by kernel_rfl) (by kernel_rfl) (by kernel_rfl) (fun _ _ _ h => h) (Or.inl ⟨by rfl, ?_⟩) (by assumption) ?_; rotate_left; (intro w hSw; (try dsimp only at hSw); go_split_ands; go_simp; first | done | with_reducible rfl); rotate_left; simp only [Act.put, List.getElem_toArray, List.getElem_cons_succ, List.getElem_cons_zero, List.setIfInBounds_toArray, List.set_cons_succ, List.set_cons_zero])
      (refine wpAnyH_take (i := 3) (v := ?_) rfl (by kernel_rfl) (by kernel_rfl) (by kernel_rfl) (fun _ _ _ h => h) (Or.inl ⟨by rfl, ?_⟩) (by assumption) ?_; rotate_left; (intro w hSw; (try dsimp only at hSw); go_split_ands; go_simp; first | done | with_reducible rfl); rotate_left; simp only [Act.put, List.getElem_toArray, List.getElem_cons_succ, List.getElem_cons_zero, List.setIfInBounds_toArray, List.set_cons_succ, List.set_cons_zero])
      refine wpAnyH_ready (rs := [4]) (by kernel_rfl) (by simp) ?_
      refine AllReadyH.cons rfl (fun K hK => ?_) AllReadyH.nil
      try dsimp only at hHeld
      go_split_ands
      go_simp
      refine (targetValid_any n.id n.u n.d _ (HM.out.below (SW.out.below.trans ((by assumption : Below W.heap.size W _).mono SW.out.size)) (Nat.le_refl _)) zu zd).mono ?_
      rintro e w1 ⟨rfl, hb1⟩
      rw [HF.out]
      refine hK.out _ _ ⟨heldc (by assumption) hb1, heldc (by assumption) hb1, heldc (by assumption) hb1, heldc (by assumption) hb1, heldc (by assumption) hb1, heldc (by assumption) hb1, heldc (by assumption) hb1, heldc (by assumption) hb1, heldc (by assumption) hb1, heldc (by assumption) hb1, heldc (by assumption) hb1, (by assumption : Below W.heap.size W _).trans (hb1.mono (by assumption : Below W.heap.size W _).size)⟩ (fun hHeld => ?_)
      clear hK K
      try simp only [Act.put, List.setIfInBounds_toArray, List.set_cons_zero, List.set_cons_succ]
      (refine wpAnyH_take (i := 5) (v := ?_) rfl (by kernel_rfl) (by kernel_rfl) (by kernel_rfl) (fun _ _ _ h => h) (Or.inl ⟨by rfl, ?_⟩) (by assumption) ?_; rotate_left; (intro w hSw; (try dsimp only at hSw); go_split_ands; go_simp; first | done | with_reducible rfl); rotate_left; simp only [Act.put, List.getElem_toArray, List.getElem_cons_succ, List.getElem_cons_zero, List.setIfInBounds_toArray, List.set_cons_succ, List.set_cons_zero])
      (refine wpAnyH_take (i := 6) (v := ?_) rfl (by kernel_rfl) (by kernel_rfl) (by kernel_rfl) (fun _ _ _ h => h) (Or.inl ⟨by rfl, ?_⟩) (by assumption) ?_; rotate_left; (intro w hSw; (try dsimp only at hSw); go_split_ands; go_simp; first | done | with_reducible rfl); rotate_left; simp only [Act.put, List.getElem_toArray, List.getElem_cons_succ, List.getElem_cons_zero, List.setIfInBounds_toArray, List.set_cons_succ, List.set_cons_zero])
      (refine wpAnyH_take (i := 7) (v := ?_) rfl (by kernel_rfl) (by kernel_rfl) (by kernel_rfl) (fun _ _ _ h => h) (Or.inl ⟨by rfl, ?_⟩) (by assumption) ?_; rotate_left; (intro w hSw; (try dsimp only at hSw); go_split_ands; go_simp; first | done | with_reducible rfl); rotate_left; simp only [Act.put, List.getElem_toArray, List.getElem_cons_succ, List.getElem_cons_zero, List.setIfInBounds_toArray, List.set_cons_succ, List.set_cons_zero])
      (refine wpAnyH_take (i := 8) (v := ?_) rfl (by kernel_rfl) (by kernel_rfl) (by kernel_rfl) (fun _ _ _ h => h) (Or.inl ⟨by rfl, ?_⟩) (by assumption) ?_; rotate_left; (intro w hSw; (try dsimp only at hSw); go_split_ands; go_simp; first | done | with_reducible rfl); rotate_left; simp only [Act.put, List.getElem_toArray, List.getElem_cons_succ, List.getElem_cons_zero, List.setIfInBounds_toArray, List.set_cons_succ, List.set_cons_zero])
      (refine wpAnyH_take (i := 9) (v := ?_) rfl (by kernel_rfl) (by kernel_rfl) (by kernel_rfl) (fun _ _ _ h => h) (Or.inl ⟨by rfl, ?_⟩) (by assumption) ?_; rotate_left; (intro w hSw; (try dsimp only at hSw); go_split_ands; go_simp; first | done | with_reducible rfl); rotate_left; simp only [Act.put, List.getElem_toArray, List.getElem_cons_succ, List.getElem_cons_zero, List.setIfInBounds_toArray, List.set_cons_succ, List.set_cons_zero])
      (refine wpAnyH_take (i := 10) (v := ?_) rfl (by kernel_rfl) (by kernel_rfl) (by kernel_rfl) (fun _ _ _ h => h) (Or.inl ⟨by rfl, ?_⟩) (by assumption) ?_; rotate_left; (intro w hSw; (try dsimp only at hSw); go_split_ands; go_simp; first | done | with_reducible rfl); rotate_left; simp only [Act.put, List.getElem_toArray, List.getElem_cons_succ, List.getElem_cons_zero, List.setIfInBounds_toArray, List.set_cons_succ, List.set_cons_zero])
      (refine wpAnyH_take (i := 11) (v := ?_) rfl (by kernel_rfl) (by kernel_rfl) (by kernel_rfl) (fun _ _ _ h => h) (Or.inl ⟨by rfl, ?_⟩) (by assumption) ?_; rotate_left; (intro w hSw; (try dsimp only at hSw); go_split_ands; go_simp; first | done | with_reducible rfl); rotate_left; simp only [Act.put, List.getElem_toArray, List.getElem_cons_succ, List.getElem_cons_zero, List.setIfInBounds_toArray, List.set_cons_succ, List.set_cons_zero])
      (refine wpAnyH_take (i := 12) (v := ?_) rfl (by kernel_rfl) (by kernel_rfl) (by kernel_rfl) (fun _ _ _ h => h) (Or.inl ⟨by rfl, ?_⟩) (by assumption) ?_; rotate_left; (intro w hSw; (try dsimp only at hSw); go_split_ands; go_simp; first | done | with_reducible rfl); rotate_left; simp only [Act.put, List.getElem_toArray, List.getElem_cons_succ, List.getElem_cons_zero, List.setIfInBounds_toArray, List.set_cons_succ, List.set_cons_zero])
      refine wpAnyH_ready (rs := [13]) (by kernel_rfl) (by simp) ?_
      refine AllReadyH.cons rfl (fun K hK => ?_) AllReadyH.nil
      try dsimp only at hHeld
      go_split_ands
      go_simp
      refine (isZero_any n.m a1 c1 a2 c2 _).mono ?_
      rintro e w2 ⟨rfl, hb2⟩
      rw [HS.out]
      refine hK.out _ _ ⟨heldc (by assumption) hb2, heldc (by assumption) hb2, heldc (by assumption) hb2, heldc (by assumption) hb2, heldc (by assumption) hb2, heldc (by assumption) hb2, heldc (by assumption) hb2, heldc (by assumption) hb2, heldc (by assumption) hb2, heldc (by assumption) hb2, heldc (by assumption) hb2, (by assumption : Below W.heap.size W _).trans (hb2.mono (by assumption : Below W.heap.size W _).size)⟩ (fun hHeld => ?_)
      clear hK K
      try simp only [Act.put, List.setIfInBounds_toArray, List.set_cons_zero, List.set_cons_succ]
      (refine wpAnyH_take (i := 14) (v := ?_) rfl (by kernel_rfl) (by kernel_rfl) (by kernel_rfl) (fun _ _ _ h => h) (Or.inl ⟨by rfl, ?_⟩) (by assumption) ?_; rotate_left; (intro w hSw; (try dsimp only at hSw); go_split_ands; go_simp; first | done | with_reducible rfl); rotate_left; simp only [Act.put, List.getElem_toArray, List.getElem_cons_succ, List.getElem_cons_zero, List.setIfInBounds_toArray, List.set_cons_succ, List.set_cons_zero])
      (refine wpAnyH_take (i := 15) (v := ?_) rfl (by kernel_rfl) (by kernel_rfl) (by kernel_rfl) (fun _ _ _ h => h) (Or.inl ⟨by rfl, ?_⟩) (by assumption) ?_; rotate_left; (intro w hSw; (try dsimp only at hSw); go_split_ands; go_simp; first | done | with_reducible rfl); rotate_left; simp only [Act.put, List.getElem_toArray, List.getElem_cons_succ, List.getElem_cons_zero, List.setIfInBounds_toArray, List.set_cons_succ, List.set_cons_zero])
      (refine wpAnyH_take (i := 16) (v := ?_) rfl (by kernel_rfl) (by kernel_rfl) (by kernel_rfl) (fun _ _ _ h => h) (Or.inl ⟨by rfl, ?_⟩) (by assumption) ?_; rotate_left; (intro w hSw; (try dsimp only at hSw); go_split_ands; go_simp; first | done | with_reducible rfl); rotate_left; simp only [Act.put, List.getElem_toArray, List.getElem_cons_succ, List.getElem_cons_zero, List.setIfInBounds_toArray, List.set_cons_succ, List.set_cons_zero])
      refine wpAnyH_done (by kernel_rfl) ?_ _
      try dsimp only at hHeld
      go_split_ands
      have hbx := (by assumption : Below W.heap.size W _)
      have SX : Seal _ := ⟨SW.out.later hbx⟩
      clear hbx
      go_wp2
      go_ret2
      exact ⟨_, congrArg (fun b => Ending.returned (Value.tuple #[_, Value.bool b])) hm.out.symm, SX.out.below⟩
    · have e2 : ((n.now : Int) == 0) = false := by rw [beq_eq_false_iff_ne]; exact i0
      have hm : Seal (noteB n = false) := ⟨by rw [HQ.out, decide_eq_false i0]; simp⟩
      clear i0
      go_enter Tryd.func130, Tryd.ntmps130
      go_wp2_with fail
      obtain ⟨W, hW⟩ : ∃ W, W = (w.alloc (.cells (noteV n a1 c1 a2 c2) 99)).alloc (.cells #[.int .i64 n.id, .string n.u, .string n.d] 224) := ⟨_, rfl⟩
      rw [← hW] at S1 ⊢
      have SW : Seal _ := ⟨S1.out⟩
      clear S1 hW
      have KN := SW.out.two.head
      have KO := SW.out.head
      have g1 := KN.c 1 _ rfl
      have g2 := KN.c 2 _ rfl
      have g3 := KN.c 3 _ rfl
      have g4 := KN.c 4 _ rfl
      have g5 := KN.c 5 _ rfl
      have g6 := KN.c 6 _ rfl
      have g7 := KN.c 7 _ rfl
      have g8 := KN.c 8 _ rfl
      have o0 := KO.c 0 _ rfl
      have o1 := KO.c 1 _ rfl
      have o2 := KO.c 2 _ rfl
      clear KN KO
      refine wp_region_held_drew (S := (fun w' => w'.cell? ⟨w.heap.size, 1, none⟩ = some (.int .i64 n.id) ∧ w'.cell? ⟨w.heap.size, 2, none⟩ = some (.string n.u) ∧ w'.cell? ⟨w.heap.size, 3, none⟩ = some (.string n.d) ∧ w'.cell? ⟨w.heap.size, 4, none⟩ = some (.int .i64 n.now) ∧ w'.cell? ⟨w.heap.size, 5, none⟩ = some (.string n.m.fu) ∧ w'.cell? ⟨w.heap.size, 6, none⟩ = some (.string n.m.fd) ∧ w'.cell? ⟨w.heap.size, 7, none⟩ = some (.slice a1 n.m.rc.length c1) ∧ w'.cell? ⟨w.heap.size, 8, none⟩ = some (.slice a2 n.m.body.length c2) ∧ w'.cell? ⟨w.heap.size + 1, 0, none⟩ = some (.int .i64 n.id) ∧ w'.cell? ⟨w.heap.size + 1, 1, none⟩ = some (.string n.u) ∧ w'.cell? ⟨w.heap.size + 1, 2, none⟩ = some (.string n.d) ∧ Below W.heap.size W w')) (by kernel_rfl) ⟨g1, g2, g3, g4, g5, g6, g7, g8, o0, o1, o2, (Below.refl _ _).drew⟩ (fun hHeld => ?_)
      (refine wpAnyH_take (i := 0) (v := ?_) rfl (by kernel_rfl) (by kernel_rfl) (by kernel_rfl) (fun _ _ _ h => h) (Or.inl ⟨by rfl, ?_⟩) (by assumption) ?_; rotate_left; (intro w hSw; (try dsimp only at hSw); go_split_ands; go_simp; first | done | with_reducible rfl); rotate_left; simp only [Act.put, List.getElem_toArray, List.getElem_cons_zero, List.setIfInBounds_toArray, List.set_cons_succ, List.set_cons_zero])
      (refine wpAnyH_take (i := 1) (v := ?_) rfl (by kernel_rfl) (by kernel_rfl) (by kernel_rfl) (fun _ _ _ h => h) (Or.inl ⟨by rfl, ?_⟩) (by assumption) ?_; rotate_left; (intro w hSw; (try dsimp only at hSw); go_split_ands; go_simp; first | done | with_reducible rfl); rotate_left; simp only [Act.put, List.getElem_toArray, List.getElem_cons_succ, List.getElem_cons_zero, List.setIfInBounds_toArray, List.set_cons_succ, List.set_cons_zero])
      (refine wpAnyH_take (i := 2) (v := ?_) rfl (by kernel_rfl) (by kernel_rfl) (by kernel_rfl) (fun _ _ _ h => h) (Or.inl ⟨by rfl, ?_⟩) (by assumption) ?_; rotate_left; (intro w hSw; (try dsimp only at hSw); go_split_ands; go_simp; first | done | with_reducible rfl); rotate_left; simp only [Act.put, List.getElem_toArray, List.getElem_cons_succ, List.getElem_cons_zero, List.setIfInBounds_toArray, List.set_cons_succ, List.set_cons_zero])
      (refine wpAnyH_take (i := 3) (v := ?_) rfl (by kernel_rfl) (by kernel_rfl) (by kernel_rfl) (fun _ _ _ h => h) (Or.inl ⟨by rfl, ?_⟩) (by assumption) ?_; rotate_left; (intro w hSw; (try dsimp only at hSw); go_split_ands; go_simp; first | done | with_reducible rfl); rotate_left; simp only [Act.put, List.getElem_toArray, List.getElem_cons_succ, List.getElem_cons_zero, List.setIfInBounds_toArray, List.set_cons_succ, List.set_cons_zero])
      refine wpAnyH_ready (rs := [4]) (by kernel_rfl) (by simp) ?_
      refine AllReadyH.cons rfl (fun K hK => ?_) AllReadyH.nil
      try dsimp only at hHeld
      go_split_ands
      go_simp
      refine (targetValid_any n.id n.u n.d _ (HM.out.below (SW.out.below.trans ((by assumption : Below W.heap.size W _).mono SW.out.size)) (Nat.le_refl _)) zu zd).mono ?_
      rintro e w1 ⟨rfl, hb1⟩
      rw [HF.out]
      refine hK.out _ _ ⟨heldc (by assumption) hb1, heldc (by assumption) hb1, heldc (by assumption) hb1, heldc (by assumption) hb1, heldc (by assumption) hb1, heldc (by assumption) hb1, heldc (by assumption) hb1, heldc (by assumption) hb1, heldc (by assumption) hb1, heldc (by assumption) hb1, heldc (by assumption) hb1, (by assumption : Below W.heap.size W _).trans (hb1.mono (by assumption : Below W.heap.size W _).size)⟩ (fun hHeld => ?_)
      clear hK K
      try simp only [Act.put, List.setIfInBounds_toArray, List.set_cons_zero, List.set_cons_succ]
      (refine wpAnyH_take (i := 5) (v := ?_) rfl (by kernel_rfl) (by kernel_rfl) (by kernel_rfl) (fun _ _ _ h => h) (Or.inl ⟨by rfl, ?_⟩) (by assumption) ?_; rotate_left; (intro w hSw; (try dsimp only at hSw); go_split_ands; go_simp; first | done | with_reducible rfl); rotate_left; simp only [Act.put, List.getElem_toArray, List.getElem_cons_succ, List.getElem_cons_zero, List.setIfInBounds_toArray, List.set_cons_succ, List.set_cons_zero])
      (refine wpAnyH_take (i := 6) (v := ?_) rfl (by kernel_rfl) (by kernel_rfl) (by kernel_rfl) (fun _ _ _ h => h) (Or.inl ⟨by rfl, ?_⟩) (by assumption) ?_; rotate_left; (intro w hSw; (try dsimp only at hSw); go_split_ands; go_simp; first | done | with_reducible rfl); rotate_left; simp only [Act.put, List.getElem_toArray, List.getElem_cons_succ, List.getElem_cons_zero, List.setIfInBounds_toArray, List.set_cons_succ, List.set_cons_zero])
      (refine wpAnyH_take (i := 7) (v := ?_) rfl (by kernel_rfl) (by kernel_rfl) (by kernel_rfl) (fun _ _ _ h => h) (Or.inl ⟨by rfl, ?_⟩) (by assumption) ?_; rotate_left; (intro w hSw; (try dsimp only at hSw); go_split_ands; go_simp; first | done | with_reducible rfl); rotate_left; simp only [Act.put, List.getElem_toArray, List.getElem_cons_succ, List.getElem_cons_zero, List.setIfInBounds_toArray, List.set_cons_succ, List.set_cons_zero])
      (refine wpAnyH_take (i := 8) (v := ?_) rfl (by kernel_rfl) (by kernel_rfl) (by kernel_rfl) (fun _ _ _ h => h) (Or.inl ⟨by rfl, ?_⟩) (by assumption) ?_; rotate_left; (intro w hSw; (try dsimp only at hSw); go_split_ands; go_simp; first | done | with_reducible rfl); rotate_left; simp only [Act.put, List.getElem_toArray, List.getElem_cons_succ, List.getElem_cons_zero, List.setIfInBounds_toArray, List.set_cons_succ, List.set_cons_zero])
      (refine wpAnyH_take (i := 9) (v := ?_) rfl (by kernel_rfl) (by kernel_rfl) (by kernel_rfl) (fun _ _ _ h => h) (Or.inl ⟨by rfl, ?_⟩) (by assumption) ?_; rotate_left; (intro w hSw; (try dsimp only at hSw); go_split_ands; go_simp; first | done | with_reducible rfl); rotate_left; simp only [Act.put, List.getElem_toArray, List.getElem_cons_succ, List.getElem_cons_zero, List.setIfInBounds_toArray, List.set_cons_succ, List.set_cons_zero])
      (refine wpAnyH_take (i := 10) (v := ?_) rfl (by kernel_rfl) (by kernel_rfl) (by kernel_rfl) (fun _ _ _ h => h) (Or.inl ⟨by rfl, ?_⟩) (by assumption) ?_; rotate_left; (intro w hSw; (try dsimp only at hSw); go_split_ands; go_simp; first | done | with_reducible rfl); rotate_left; simp only [Act.put, List.getElem_toArray, List.getElem_cons_succ, List.getElem_cons_zero, List.setIfInBounds_toArray, List.set_cons_succ, List.set_cons_zero])
      (refine wpAnyH_take (i := 11) (v := undef) rfl (by kernel_rfl) (by kernel_rfl) (by kernel_rfl) (fun _ _ _ h => h) (Or.inr ⟨by rfl, rfl⟩) (by assumption) ?_; simp only [Act.put, List.getElem_toArray, List.getElem_cons_succ, List.getElem_cons_zero, List.setIfInBounds_toArray, List.set_cons_succ, List.set_cons_zero])
      (refine wpAnyH_take (i := 12) (v := undef) rfl (by kernel_rfl) (by kernel_rfl) (by kernel_rfl) (fun _ _ _ h => h) (Or.inr ⟨by rfl, rfl⟩) (by assumption) ?_; simp only [Act.put, List.getElem_toArray, List.getElem_cons_succ, List.getElem_cons_zero, List.setIfInBounds_toArray, List.set_cons_succ, List.set_cons_zero])
      refine wpAnyH_ready (rs := [13]) (by kernel_rfl) (by simp) ?_
      refine AllReadyH.cons rfl (fun K hK => ?_) AllReadyH.nil
      go_simp
      refine hK.out _ _ (by assumption) (fun hHeld => ?_)
      clear hK K
      try simp only [Act.put, List.getElem_toArray, List.getElem_cons_succ, List.getElem_cons_zero, List.setIfInBounds_toArray, List.set_cons_zero, List.set_cons_succ]
      (refine wpAnyH_take (i := 14) (v := ?_) rfl (by kernel_rfl) (by kernel_rfl) (by kernel_rfl) (fun _ _ _ h => h) (Or.inl ⟨by rfl, ?_⟩) (by assumption) ?_; rotate_left; (intro w hSw; (try dsimp only at hSw); go_split_ands; go_simp; first | done | with_reducible rfl); rotate_left; simp only [Act.put, List.getElem_toArray, List.getElem_cons_succ, List.getElem_cons_zero, List.setIfInBounds_toArray, List.set_cons_succ, List.set_cons_zero])
      (refine wpAnyH_take (i := 15) (v := ?_) rfl (by kernel_rfl) (by kernel_rfl) (by kernel_rfl) (fun _ _ _ h => h) (Or.inl ⟨by rfl, ?_⟩) (by assumption) ?_; rotate_left; (intro w hSw; (try dsimp only at hSw); go_split_ands; go_simp; first | done | with_reducible rfl); rotate_left; simp only [Act.put, List.getElem_toArray, List.getElem_cons_succ, List.getElem_cons_zero, List.setIfInBounds_toArray, List.set_cons_succ, List.set_cons_zero])
      (refine wpAnyH_take (i := 16) (v := ?_) rfl (by kernel_rfl) (by kernel_rfl) (by kernel_rfl) (fun _ _ _ h => h) (Or.inl ⟨by rfl, ?_⟩) (by assumption) ?_; rotate_left; (intro w hSw; (try dsimp only at hSw); go_split_ands; go_simp; first | done | with_reducible rfl); rotate_left; simp only [Act.put, List.getElem_toArray, List.getElem_cons_succ, List.getElem_cons_zero, List.setIfInBounds_toArray, List.set_cons_succ, List.set_cons_zero])
      refine wpAnyH_done (by kernel_rfl) ?_ _
      try dsimp only at hHeld
      go_split_ands
      have hbx := (by assumption : Below W.heap.size W _)
      have SX : Seal _ := ⟨SW.out.later hbx⟩
      clear hbx
      go_wp2
      go_ret2
      exact ⟨_, congrArg (fun b => Ending.returned (Value.tuple #[_, Value.bool b])) hm.out.symm, SX.out.below⟩

set_option maxHeartbeats 16000000 in
set_option maxRecDepth 100000 in
theorem operationOf_later (n : NoteD) (a1 : Option Addr) (c1 : Nat) (a2 : Option Addr) (c2 : Nat) (w : World) (hm : HasMax w) (hat : MailAt w n.m a1 a2) (hsz : NoteSz 1048576 n) (hcap : n.m.rc.length ≤ c1) (hk : n.kind = 3) :
    Calls Tryd.prog 130 #[.agg (noteV n a1 c1 a2 c2)] w (OpPost n w) := by
  have HM : Seal _ := ⟨hm⟩
  have HA : Seal _ := ⟨hat⟩
  have HZ : Seal _ := ⟨hsz⟩
  have HC : Seal _ := ⟨hcap⟩
  have zu := hsz.u
  have zd := hsz.d
  have s0 := (St.start w).alloc (noteV n a1 c1 a2 c2) 99
  obtain ⟨vf, hvf⟩ : ∃ v, ((inB n.id 1 999 && addrB n.u n.d) && inB n.now 0 9999) = v := ⟨_, rfl⟩
  obtain ⟨vs, hvs⟩ : ∃ v, bareB n.m = v := ⟨_, rfl⟩
  have HQ : Seal (noteB n = (vs && vf)) := ⟨by rw [noteB_three hk, hvs, ← hvf]; cases vs <;> cases inB n.id 1 999 <;> cases addrB n.u n.d <;> cases inB n.now 0 9999 <;> rfl⟩
  have HF : Seal _ := ⟨hvf⟩
  have HS : Seal _ := ⟨hvs⟩
  have e1 : ((n.kind : Int) == 1) = false := by rw [beq_eq_false_iff_ne]; omega
  have e5 : ((n.kind : Int) == 2) = false := by rw [beq_eq_false_iff_ne]; omega
  have e6 : ((n.kind : Int) == 3) = true := by rw [beq_iff_eq]; exact hk
  clear hm hat hsz hcap hvf hvs hk
  have s1 := s0.alloc #[.int .i64 n.id, .string n.u, .string n.d, .int .i64 n.now] 226
  simp only [World.size_alloc] at s1
  have S1 : Seal _ := ⟨s1⟩
  clear s0 s1
  cases vf
  · have hm : Seal (noteB n = false) := ⟨by rw [HQ.out]; simp⟩
    go_enter Tryd.func130, Tryd.ntmps130
    go_wp2_with fail
    obtain ⟨W, hW⟩ : ∃ W, W = (w.alloc (.cells (noteV n a1 c1 a2 c2) 99)).alloc (.cells #[.int .i64 n.id, .string n.u, .string n.d, .int .i64 n.now] 226) := ⟨_, rfl⟩
    rw [← hW] at S1 ⊢
    have SW : Seal _ := ⟨S1.out⟩
    clear S1 hW
    have KN := SW.out.two.head
    have KO := SW.out.head
    have g1 := KN.c 1 _ rfl
    have g2 := KN.c 2 _ rfl
    have g3 := KN.c 3 _ rfl
    have g4 := KN.c 4 _ rfl
    have g5 := KN.c 5 _ rfl
    have g6 := KN.c 6 _ rfl
    have g7 := KN.c 7 _ rfl
    have g8 := KN.c 8 _ rfl
    have o0 := KO.c 0 _ rfl
    have o1 := KO.c 1 _ rfl
    have o2 := KO.c 2 _ rfl
    have o3 := KO.c 3 _ rfl
    clear KN KO
    refine wp_region_held_drew (S := (fun w' => w'.cell? ⟨w.heap.size, 1, none⟩ = some (.int .i64 n.id) ∧ w'.cell? ⟨w.heap.size, 2, none⟩ = some (.string n.u) ∧ w'.cell? ⟨w.heap.size, 3, none⟩ = some (.string n.d) ∧ w'.cell? ⟨w.heap.size, 4, none⟩ = some (.int .i64 n.now) ∧ w'.cell? ⟨w.heap.size, 5, none⟩ = some (.string n.m.fu) ∧ w'.cell? ⟨w.heap.size, 6, none⟩ = some (.string n.m.fd) ∧ w'.cell? ⟨w.heap.size, 7, none⟩ = some (.slice a1 n.m.rc.length c1) ∧ w'.cell? ⟨w.heap.size, 8, none⟩ = some (.slice a2 n.m.body.length c2) ∧ w'.cell? ⟨w.heap.size + 1, 0, none⟩ = some (.int .i64 n.id) ∧ w'.cell? ⟨w.heap.size + 1, 1, none⟩ = some (.string n.u) ∧ w'.cell? ⟨w.heap.size + 1, 2, none⟩ = some (.string n.d) ∧ w'.cell? ⟨w.heap.size + 1, 3, none⟩ = some (.int .i64 n.now) ∧ Below W.heap.size W w')) (by kernel_rfl) ⟨g1, g2, g3, g4, g5, g6, g7, g8, o0, o1, o2, o3, (Below.refl _ _).drew⟩ (fun hHeld => ?_)
    (refine wpAnyH_take (i := 0) (v := ?_) rfl (by kernel_rfl) (by kernel_rfl) (by kernel_rfl) (fun _ _ _ h => h) (Or.inl ⟨by rfl, ?_⟩) (by assumption) ?_; rotate_left; (intro w hSw; (try dsimp only at hSw); go_split_ands; go_simp; first | done | with_reducible rfl); rotate_left; simp only [Act.put, List.getElem_toArray, List.getElem_cons_zero, List.setIfInBounds_toArray, List.set_cons_succ, List.set_cons_zero])
    (refine wpAnyH_take (i := 1) (v := ?_) rfl (by kernel_rfl) (by kernel_rfl) (by kernel_rfl) (fun _ _ _ h => h) (Or.inl ⟨by rfl, ?_⟩) (by assumption) ?_; rotate_left; (intro w hSw; (try dsimp only at hSw); go_split_ands; go_simp; first | done | with_reducible rfl); rotate_left; simp only [Act.put, List.getElem_toArray, List.getElem_cons_succ, List.getElem_cons_zero, List.setIfInBounds_toArray, List.set_cons_succ, List.set_cons_zero])
    (refine wpAnyH_take (i := 2) (v := ?_) rfl (by kernel_rfl) (by kernel_rfl) (by kernel_rfl) (fun _ _ _ h => h) (Or.inl ⟨by rfl, ?_⟩) (by assumption) ?_; rotate_left; (intro w hSw; (try dsimp only at hSw); go_split_ands; go_simp; first | done | with_reducible rfl); rotate_left; simp only [Act.put, List.getElem_toArray, List.getElem_cons_succ, List.getElem_cons_zero, List.setIfInBounds_toArray, List.set_cons_succ, List.set_cons_zero])
    refine wpAnyH_ready (rs := [3]) (by kernel_rfl) (by simp) ?_
    refine AllReadyH.cons rfl (fun K hK => ?_) AllReadyH.nil
    try dsimp only at hHeld
    go_split_ands
    go_simp
    refine (laterValid_any n.id n.u n.d n.now _ (HM.out.below (SW.out.below.trans ((by assumption : Below W.heap.size W _).mono SW.out.size)) (Nat.le_refl _)) zu zd).mono ?_
    rintro e w1 ⟨rfl, hb1⟩
    rw [HF.out]
    refine hK.out _ _ ⟨heldc (by assumption) hb1, heldc (by assumption) hb1, heldc (by assumption) hb1, heldc (by assumption) hb1, heldc (by assumption) hb1, heldc (by assumption) hb1, heldc (by assumption) hb1, heldc (by assumption) hb1, heldc (by assumption) hb1, heldc (by assumption) hb1, heldc (by assumption) hb1, heldc (by assumption) hb1, (by assumption : Below W.heap.size W _).trans (hb1.mono (by assumption : Below W.heap.size W _).size)⟩ (fun hHeld => ?_)
    clear hK K
    try simp only [Act.put, List.setIfInBounds_toArray, List.set_cons_zero, List.set_cons_succ]
    (refine wpAnyH_take (i := 4) (v := ?_) rfl (by kernel_rfl) (by kernel_rfl) (by kernel_rfl) (fun _ _ _ h => h) (Or.inl ⟨by rfl, ?_⟩) (by assumption) ?_; rotate_left; (intro w hSw; (try dsimp only at hSw); go_split_ands; go_simp; first | done | with_reducible rfl); rotate_left; simp only [Act.put, List.getElem_toArray, List.getElem_cons_succ, List.getElem_cons_zero, List.setIfInBounds_toArray, List.set_cons_succ, List.set_cons_zero])
    (refine wpAnyH_take (i := 5) (v := undef) rfl (by kernel_rfl) (by kernel_rfl) (by kernel_rfl) (fun _ _ _ h => h) (Or.inr ⟨by rfl, rfl⟩) (by assumption) ?_; simp only [Act.put, List.getElem_toArray, List.getElem_cons_succ, List.getElem_cons_zero, List.setIfInBounds_toArray, List.set_cons_succ, List.set_cons_zero])
    (refine wpAnyH_take (i := 6) (v := undef) rfl (by kernel_rfl) (by kernel_rfl) (by kernel_rfl) (fun _ _ _ h => h) (Or.inr ⟨by rfl, rfl⟩) (by assumption) ?_; simp only [Act.put, List.getElem_toArray, List.getElem_cons_succ, List.getElem_cons_zero, List.setIfInBounds_toArray, List.set_cons_succ, List.set_cons_zero])
    refine wpAnyH_ready (rs := [7]) (by kernel_rfl) (by simp) ?_
    refine AllReadyH.cons rfl (fun K hK => ?_) AllReadyH.nil
    go_simp
    refine hK.out _ _ (by assumption) (fun hHeld => ?_)
    clear hK K
    try simp only [Act.put, List.getElem_toArray, List.getElem_cons_succ, List.getElem_cons_zero, List.setIfInBounds_toArray, List.set_cons_zero, List.set_cons_succ]
    (refine wpAnyH_take (i := 8) (v := ?_) rfl (by kernel_rfl) (by kernel_rfl) (by kernel_rfl) (fun _ _ _ h => h) (Or.inl ⟨by rfl, ?_⟩) (by assumption) ?_; rotate_left; (intro w hSw; (try dsimp only at hSw); go_split_ands; go_simp; first | done | with_reducible rfl); rotate_left; simp only [Act.put, List.getElem_toArray, List.getElem_cons_succ, List.getElem_cons_zero, List.setIfInBounds_toArray, List.set_cons_succ, List.set_cons_zero])
    (refine wpAnyH_take (i := 9) (v := ?_) rfl (by kernel_rfl) (by kernel_rfl) (by kernel_rfl) (fun _ _ _ h => h) (Or.inl ⟨by rfl, ?_⟩) (by assumption) ?_; rotate_left; (intro w hSw; (try dsimp only at hSw); go_split_ands; go_simp; first | done | with_reducible rfl); rotate_left; simp only [Act.put, List.getElem_toArray, List.getElem_cons_succ, List.getElem_cons_zero, List.setIfInBounds_toArray, List.set_cons_succ, List.set_cons_zero])
    (refine wpAnyH_take (i := 10) (v := ?_) rfl (by kernel_rfl) (by kernel_rfl) (by kernel_rfl) (fun _ _ _ h => h) (Or.inl ⟨by rfl, ?_⟩) (by assumption) ?_; rotate_left; (intro w hSw; (try dsimp only at hSw); go_split_ands; go_simp; first | done | with_reducible rfl); rotate_left; simp only [Act.put, List.getElem_toArray, List.getElem_cons_succ, List.getElem_cons_zero, List.setIfInBounds_toArray, List.set_cons_succ, List.set_cons_zero])
    refine wpAnyH_done (by kernel_rfl) ?_ _
    try dsimp only at hHeld
    go_split_ands
    have hbx := (by assumption : Below W.heap.size W _)
    have SX : Seal _ := ⟨SW.out.later hbx⟩
    clear hbx
    go_wp2
    go_ret2
    exact ⟨_, congrArg (fun b => Ending.returned (Value.tuple #[_, Value.bool b])) hm.out.symm, SX.out.below⟩
  · have hm : Seal (noteB n = vs) := ⟨by rw [HQ.out]; simp⟩
    go_enter Tryd.func130, Tryd.ntmps130
    go_wp2_with fail
    obtain ⟨W, hW⟩ : ∃ W, W = (w.alloc (.cells (noteV n a1 c1 a2 c2) 99)).alloc (.cells #[.int .i64 n.id, .string n.u, .string n.d, .int .i64 n.now] 226) := ⟨_, rfl⟩
    rw [← hW] at S1 ⊢
    have SW : Seal _ := ⟨S1.out⟩
    clear S1 hW
    have KN := SW.out.two.head
    have KO := SW.out.head
    have g1 := KN.c 1 _ rfl
    have g2 := KN.c 2 _ rfl
    have g3 := KN.c 3 _ rfl
    have g4 := KN.c 4 _ rfl
    have g5 := KN.c 5 _ rfl
    have g6 := KN.c 6 _ rfl
    have g7 := KN.c 7 _ rfl
    have g8 := KN.c 8 _ rfl
    have o0 := KO.c 0 _ rfl
    have o1 := KO.c 1 _ rfl
    have o2 := KO.c 2 _ rfl
    have o3 := KO.c 3 _ rfl
    clear KN KO
    refine wp_region_held_drew (S := (fun w' => w'.cell? ⟨w.heap.size, 1, none⟩ = some (.int .i64 n.id) ∧ w'.cell? ⟨w.heap.size, 2, none⟩ = some (.string n.u) ∧ w'.cell? ⟨w.heap.size, 3, none⟩ = some (.string n.d) ∧ w'.cell? ⟨w.heap.size, 4, none⟩ = some (.int .i64 n.now) ∧ w'.cell? ⟨w.heap.size, 5, none⟩ = some (.string n.m.fu) ∧ w'.cell? ⟨w.heap.size, 6, none⟩ = some (.string n.m.fd) ∧ w'.cell? ⟨w.heap.size, 7, none⟩ = some (.slice a1 n.m.rc.length c1) ∧ w'.cell? ⟨w.heap.size, 8, none⟩ = some (.slice a2 n.m.body.length c2) ∧ w'.cell? ⟨w.heap.size + 1, 0, none⟩ = some (.int .i64 n.id) ∧ w'.cell? ⟨w.heap.size + 1, 1, none⟩ = some (.string n.u) ∧ w'.cell? ⟨w.heap.size + 1, 2, none⟩ = some (.string n.d) ∧ w'.cell? ⟨w.heap.size + 1, 3, none⟩ = some (.int .i64 n.now) ∧ Below W.heap.size W w')) (by kernel_rfl) ⟨g1, g2, g3, g4, g5, g6, g7, g8, o0, o1, o2, o3, (Below.refl _ _).drew⟩ (fun hHeld => ?_)
    (refine wpAnyH_take (i := 0) (v := ?_) rfl (by kernel_rfl) (by kernel_rfl) (by kernel_rfl) (fun _ _ _ h => h) (Or.inl ⟨by rfl, ?_⟩) (by assumption) ?_; rotate_left; (intro w hSw; (try dsimp only at hSw); go_split_ands; go_simp; first | done | with_reducible rfl); rotate_left; simp only [Act.put, List.getElem_toArray, List.getElem_cons_zero, List.setIfInBounds_toArray, List.set_cons_succ, List.set_cons_zero])
    (refine wpAnyH_take (i := 1) (v := ?_) rfl (by kernel_rfl) (by kernel_rfl) (by kernel_rfl) (fun _ _ _ h => h) (Or.inl ⟨by rfl, ?_⟩) (by assumption) ?_; rotate_left; (intro w hSw; (try dsimp only at hSw); go_split_ands; go_simp; first | done | with_reducible rfl); rotate_left; simp only [Act.put, List.getElem_toArray, List.getElem_cons_succ, List.getElem_cons_zero, List.setIfInBounds_toArray, List.set_cons_succ, List.set_cons_zero])
    (refine wpAnyH_take (i := 2) (v := ?_) rfl (by kernel_rfl) (by kernel_rfl) (by kernel_rfl) (fun _ _ _ h => h) (Or.inl ⟨by rfl, ?_⟩) (by assumption) ?_; rotate_left; (intro w hSw; (try dsimp only at hSw); go_split_ands; go_simp; first | done | with_reducible rfl); rotate_left; simp only [Act.put, List.getElem_toArray, List.getElem_cons_succ, List.getElem_cons_zero, List.setIfInBounds_toArray, List.set_cons_succ, List.set_cons_zero])
    refine wpAnyH_ready (rs := [3]) (by kernel_rfl) (by simp) ?_
    refine AllReadyH.cons rfl (fun K hK => ?_) AllReadyH.nil
    try dsimp only at hHeld
    go_split_ands
    go_simp
    refine (laterValid_any n.id n.u n.d n.now _ (HM.out.below (SW.out.below.trans ((by assumption : Below W.heap.size W _).mono SW.out.size)) (Nat.le_refl _)) zu zd).mono ?_
    rintro e w1 ⟨rfl, hb1⟩
    rw [HF.out]
    refine hK.out _ _ ⟨heldc (by assumption) hb1, heldc (by assumption) hb1, heldc (by assumption) hb1, heldc (by assumption) hb1, heldc (by assumption) hb1, heldc (by assumption) hb1, heldc (by assumption) hb1, heldc (by assumption) hb1, heldc (by assumption) hb1, heldc (by assumption) hb1, heldc (by assumption) hb1, heldc (by assumption) hb1, (by assumption : Below W.heap.size W _).trans (hb1.mono (by assumption : Below W.heap.size W _).size)⟩ (fun hHeld => ?_)
    clear hK K
    try simp only [Act.put, List.setIfInBounds_toArray, List.set_cons_zero, List.set_cons_succ]
    (refine wpAnyH_take (i := 4) (v := ?_) rfl (by kernel_rfl) (by kernel_rfl) (by kernel_rfl) (fun _ _ _ h => h) (Or.inl ⟨by rfl, ?_⟩) (by assumption) ?_; rotate_left; (intro w hSw; (try dsimp only at hSw); go_split_ands; go_simp; first | done | with_reducible rfl); rotate_left; simp only [Act.put, List.getElem_toArray, List.getElem_cons_succ, List.getElem_cons_zero, List.setIfInBounds_toArray, List.set_cons_succ, List.set_cons_zero])
    (refine wpAnyH_take (i := 5) (v := ?_) rfl (by kernel_rfl) (by kernel_rfl) (by kernel_rfl) (fun _ _ _ h => h) (Or.inl ⟨by rfl, ?_⟩) (by assumption) ?_; rotate_left; (intro w hSw; (try dsimp only at hSw); go_split_ands; go_simp; first | done | with_reducible rfl); rotate_left; simp only [Act.put, List.getElem_toArray, List.getElem_cons_succ, List.getElem_cons_zero, List.setIfInBounds_toArray, List.set_cons_succ, List.set_cons_zero])
    (refine wpAnyH_take (i := 6) (v := ?_) rfl (by kernel_rfl) (by kernel_rfl) (by kernel_rfl) (fun _ _ _ h => h) (Or.inl ⟨by rfl, ?_⟩) (by assumption) ?_; rotate_left; (intro w hSw; (try dsimp only at hSw); go_split_ands; go_simp; first | done | with_reducible rfl); rotate_left; simp only [Act.put, List.getElem_toArray, List.getElem_cons_succ, List.getElem_cons_zero, List.setIfInBounds_toArray, List.set_cons_succ, List.set_cons_zero])
    refine wpAnyH_ready (rs := [7]) (by kernel_rfl) (by simp) ?_
    refine AllReadyH.cons rfl (fun K hK => ?_) AllReadyH.nil
    try dsimp only at hHeld
    go_split_ands
    go_simp
    refine (isZero_any n.m a1 c1 a2 c2 _).mono ?_
    rintro e w2 ⟨rfl, hb2⟩
    rw [HS.out]
    refine hK.out _ _ ⟨heldc (by assumption) hb2, heldc (by assumption) hb2, heldc (by assumption) hb2, heldc (by assumption) hb2, heldc (by assumption) hb2, heldc (by assumption) hb2, heldc (by assumption) hb2, heldc (by assumption) hb2, heldc (by assumption) hb2, heldc (by assumption) hb2, heldc (by assumption) hb2, heldc (by assumption) hb2, (by assumption : Below W.heap.size W _).trans (hb2.mono (by assumption : Below W.heap.size W _).size)⟩ (fun hHeld => ?_)
    clear hK K
    try simp only [Act.put, List.setIfInBounds_toArray, List.set_cons_zero, List.set_cons_succ]
    (refine wpAnyH_take (i := 8) (v := ?_) rfl (by kernel_rfl) (by kernel_rfl) (by kernel_rfl) (fun _ _ _ h => h) (Or.inl ⟨by rfl, ?_⟩) (by assumption) ?_; rotate_left; (intro w hSw; (try dsimp only at hSw); go_split_ands; go_simp; first | done | with_reducible rfl); rotate_left; simp only [Act.put, List.getElem_toArray, List.getElem_cons_succ, List.getElem_cons_zero, List.setIfInBounds_toArray, List.set_cons_succ, List.set_cons_zero])
    (refine wpAnyH_take (i := 9) (v := ?_) rfl (by kernel_rfl) (by kernel_rfl) (by kernel_rfl) (fun _ _ _ h => h) (Or.inl ⟨by rfl, ?_⟩) (by assumption) ?_; rotate_left; (intro w hSw; (try dsimp only at hSw); go_split_ands; go_simp; first | done | with_reducible rfl); rotate_left; simp only [Act.put, List.getElem_toArray, List.getElem_cons_succ, List.getElem_cons_zero, List.setIfInBounds_toArray, List.set_cons_succ, List.set_cons_zero])
    (refine wpAnyH_take (i := 10) (v := ?_) rfl (by kernel_rfl) (by kernel_rfl) (by kernel_rfl) (fun _ _ _ h => h) (Or.inl ⟨by rfl, ?_⟩) (by assumption) ?_; rotate_left; (intro w hSw; (try dsimp only at hSw); go_split_ands; go_simp; first | done | with_reducible rfl); rotate_left; simp only [Act.put, List.getElem_toArray, List.getElem_cons_succ, List.getElem_cons_zero, List.setIfInBounds_toArray, List.set_cons_succ, List.set_cons_zero])
    refine wpAnyH_done (by kernel_rfl) ?_ _
    try dsimp only at hHeld
    go_split_ands
    have hbx := (by assumption : Below W.heap.size W _)
    have SX : Seal _ := ⟨SW.out.later hbx⟩
    clear hbx
    go_wp2
    go_ret2
    exact ⟨_, congrArg (fun b => Ending.returned (Value.tuple #[_, Value.bool b])) hm.out.symm, SX.out.below⟩

set_option maxRecDepth 100000 in
theorem operationOf_any (n : NoteD) (a1 : Option Addr) (c1 : Nat) (a2 : Option Addr) (c2 : Nat) (w : World) (hm : HasMax w) (hat : MailAt w n.m a1 a2) (hsz : NoteSz 1048576 n) (hcap : n.m.rc.length ≤ c1) :
    Calls Tryd.prog 130 #[.agg (noteV n a1 c1 a2 c2)] w (OpPost n w) := by
  by_cases k1 : n.kind = 1
  · exact operationOf_add n a1 c1 a2 c2 w hm hat hsz hcap k1
  by_cases k2 : n.kind = 2
  · exact operationOf_done n a1 c1 a2 c2 w hm hat hsz hcap k2
  by_cases k3 : n.kind = 3
  · exact operationOf_later n a1 c1 a2 c2 w hm hat hsz hcap k3
  have e1 : ((n.kind : Int) == 1) = false := by rw [beq_eq_false_iff_ne]; exact k1
  have e2 : ((n.kind : Int) == 2) = false := by rw [beq_eq_false_iff_ne]; exact k2
  have e3 : ((n.kind : Int) == 3) = false := by rw [beq_eq_false_iff_ne]; exact k3
  have hq : Seal (noteB n = false) := ⟨noteB_none k1 k2 k3⟩
  have S0 : Seal _ := ⟨(St.start w).alloc (noteV n a1 c1 a2 c2) 99⟩
  clear hm hat hsz hcap k1 k2 k3
  go_enter Tryd.func130, Tryd.ntmps130
  go_wp2
  go_ret2
  exact ⟨_, congrArg (fun b => Ending.returned (Value.tuple #[_, Value.bool b])) hq.out.symm, S0.out.below⟩

set_option maxRecDepth 100000 in
theorem implNoteOk_any (n : NoteD) (a1 : Option Addr) (c1 : Nat) (a2 : Option Addr) (c2 : Nat) (w : World) (hm : HasMax w) (hat : MailAt w n.m a1 a2) (hsz : NoteSz 1048576 n) (hcap : n.m.rc.length ≤ c1) :
    Calls Tryd.prog 60 #[.agg (noteV n a1 c1 a2 c2)] w fun e w' => e = .returned (.bool (noteB n)) ∧ Below w.heap.size w w' := by
  have S0 : Seal _ := ⟨(St.start w).alloc (noteV n a1 c1 a2 c2) 99⟩
  have C : Seal _ := ⟨operationOf_any n a1 c1 a2 c2 _ (hm.below S0.out.below (Nat.le_refl _)) (hat.below S0.out.below (Nat.le_refl _)) hsz hcap⟩
  clear hm hat hsz hcap
  go_enter Tryd.func60, Tryd.ntmps60
  go_wp2_with fail
  refine C.out.mono ?_
  rintro e w1 ⟨v, rfl, hb1⟩
  have S1 : Seal _ := ⟨S0.out.later hb1⟩
  clear hb1 S0 C
  go_wp2
  go_ret
  exact ⟨rfl, S1.out.below⟩
end Go.Proofs.YtgjkoegpdfcadaaDoor
