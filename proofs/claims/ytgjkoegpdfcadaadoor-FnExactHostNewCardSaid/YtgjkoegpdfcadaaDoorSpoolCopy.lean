/- Contracts: an item of a spool copied by the model: a region that draws its order, two appends. -/
import Derived.Test.YtgjkoegpdfcadaaDoorSpoolClone
import Derived.Deep.RegionHeld3
namespace Go.Proofs.YtgjkoegpdfcadaaDoor
open Go Go.RowKit

section
variable {w : World} {ops : Array Oper} {o : Oper} {a : Act} {K : Act → World → Prop} {Q : Exit → Act → World → Prop} {E : Prop}
/-- 'append' of a row that the call owns, or of none, to one that it owns. -/
theorem step_append_any (hgd : o.guard = none) (s x : Operand) (t : TypeId)
    (ho : o.op = .call { callee := .builtin .append, args := #[s, x], argTypes := #[t, t] })
    (base : Nat) (e : TypeId) (i : TypeInfo) (z : Value) (size bytes : Nat) (ht : Tryd.prog.underlying t = some (.slice e)) (hi : Tryd.prog.info? e = some i) (hz : i.zero = some z)
    (hsize : i.size = size) (hby : i.bytes = bytes) (hzs : z.cells.size = size) (hsz : 0 < size)
    (v : Value) (n : Nat) (xs : List Value) (hs : a.eval s = v) (hown : w.ownsRow base e size v n xs)
    (ao : Option Addr) (m c : Nat) (news : List Value) (hx : a.eval x = .slice ao m c) (hsrc : w.ownsRow 0 e size (.slice ao m c) m news) (h1 : ∀ u ∈ news, u.oneCell' = true)
    (h63 : n + m ≤ maxLen) (hbytes : (n + m) * bytes ≤ 140737488355328) (hbase : base ≤ w.heap.size)
    (h : ∀ v' w', w'.ownsRow base e size v' (n + m) (xs ++ news) → w.grownBy w' v.ownBlock → (v'.ownBlock = v.ownBlock ∨ v'.ownBlock = some w.heap.size) → K (a.put o.dst v') w') :
    if Region.wanted o (yielded ops a.tmps) = true then Oper.wp Tryd.prog o a w K Q else E := by
  have hw : Region.wanted o (yielded ops a.tmps) = true := by simp [Region.wanted, hgd]
  rw [if_pos hw]
  rcases hsrc.2 with ⟨hv, h0⟩ | ⟨g, c', cur, hv, rest⟩
  · simp only [Value.slice.injEq] at hv
    obtain ⟨rfl, rfl, rfl⟩ := hv
    have hn : news = [] := List.eq_nil_of_length_eq_zero (by have := hsrc.1; omega)
    subst hn
    have hrun := run_append_owned_none (P := Tryd.prog) (w := w) base t o.type e i size ht hi v n xs hown
    unfold Oper.wp execOp
    simp only [ho, resolve, invoke, builtin, Sem.run_bind, Sem.run_pure, Result.andThen_ok, List.map_toArray, List.map_cons, List.map_nil, hs, hx, hrun]
    exact h v w (by rw [Nat.add_zero, List.append_nil]; exact hown) ⟨rfl, rfl, rfl, Nat.le_refl _, fun _ _ _ => rfl⟩ (.inl rfl)
  · simp only [Value.slice.injEq, true_and] at hv
    obtain ⟨rfl, rfl⟩ := hv
    obtain ⟨v', w', hr, h2, h3, _, h5⟩ := run_append_own_at (P := Tryd.prog) w base t o.type e i z size bytes ht hi hz hsize hby hzs hsz v n xs hown ⟨g, 0, none⟩ m c news hsrc.1 (own_news hsrc) h1 h63 hbytes hbase
    unfold Oper.wp execOp
    simp only [ho, resolve, invoke, builtin, Sem.run_bind, Sem.run_pure, Result.andThen_ok, List.map_toArray, List.map_cons, List.map_nil, hs, hx, hr]
    exact h v' w' h2 h3 h5
end
theorem World.size_drew' (w : World) : w.drew.heap.size = w.heap.size := rfl

set_option maxHeartbeats 16000000 in
set_option maxRecDepth 100000 in
theorem l5CopyItem_any {X : Nat → Prop} (L : List Res) (x : ItemD) (p : ItemV) (w0 w : World) (h : StX X w0 w L) (hr : ∀ r ∈ itemE.res x p, r ∈ L) (hz : itemN x ≤ 1048576) :
    Calls Tryd.prog 183 #[.agg (itemV x p)] w fun e w' => ∃ q, e = .returned (.agg (itemV x q)) ∧ St w w' (itemE.res x q) := by
  obtain ⟨iA, iAi, iA0, iA1, iA2⟩ := info_parts infoRcpt
  obtain ⟨iB, iBi, iB0, iB1, iB2⟩ := info_parts infoS
  obtain ⟨_, _, z3, _, z5, _⟩ := itemN_parts hz
  have s0 := ((St.start w).alloc (itemV x p) 64).alloc noItem 64
  simp only [World.size_alloc] at s0
  have S0 : Seal _ := ⟨s0⟩
  have HS : Seal _ := ⟨h⟩
  have HRA : Seal (rcptsR p.a1 p.c1 x.rc ∈ L) := ⟨hr _ List.mem_cons_self⟩
  have HRB : Seal (strsR p.a2 p.c2 x.body ∈ L) := ⟨hr _ (List.mem_cons_of_mem _ List.mem_cons_self)⟩
  clear s0 h hr hz
  go_enter Tryd.func183, Tryd.ntmps183
  go_wp2_with fail
  obtain ⟨W, hW⟩ : ∃ W, W = (w.alloc (.cells (itemV x p) 64)).alloc (.cells noItem 64) := ⟨_, rfl⟩
  rw [← hW] at S0 ⊢
  have SN0 : Seal (St w W.drew [Res.cells (w.heap.size + 1) [.int .i64 0, .string { data := #[] }, .string { data := #[] }, .slice none 0 0, .slice none 0 0], Res.cells w.heap.size (itemL x p)]) := ⟨S0.out.drew⟩
  clear S0 hW
  refine wp_region_held_drew (S := (fun w' => w'.cell? ⟨w.heap.size, 0, none⟩ = some (.int .i64 x.id) ∧ w'.cell? ⟨w.heap.size, 1, none⟩ = some (.string x.fu) ∧ w'.cell? ⟨w.heap.size, 2, none⟩ = some (.string x.fd) ∧ w'.cell? ⟨w.heap.size, 3, none⟩ = some (.slice p.a1 x.rc.length p.c1) ∧ w'.cell? ⟨w.heap.size, 4, none⟩ = some (.slice p.a2 x.body.length p.c2) ∧ Below w.heap.size w w')) (by kernel_rfl) ⟨(SN0.out.two.head).c 0 _ rfl, (SN0.out.two.head).c 1 _ rfl, (SN0.out.two.head).c 2 _ rfl, (SN0.out.two.head).c 3 _ rfl, (SN0.out.two.head).c 4 _ rfl, SN0.out.below⟩ (fun hHeld => ?_)
  (refine wpAnyH_take (i := 0) (v := ?_) rfl (by kernel_rfl) (by kernel_rfl) (by kernel_rfl) (fun _ _ _ h => h) (Or.inl ⟨by rfl, ?_⟩) (by assumption) ?_; rotate_left; (intro w hSw; (try dsimp only at hSw); go_split_ands; go_simp; first | done | with_reducible rfl); rotate_left; simp only [Act.put, List.getElem_toArray, List.getElem_cons_zero, List.setIfInBounds_toArray, List.set_cons_succ, List.set_cons_zero])
  (refine wpAnyH_take (i := 1) (v := ?_) rfl (by kernel_rfl) (by kernel_rfl) (by kernel_rfl) (fun _ _ _ h => h) (Or.inl ⟨by rfl, ?_⟩) (by assumption) ?_; rotate_left; (intro w hSw; (try dsimp only at hSw); go_split_ands; go_simp; first | done | with_reducible rfl); rotate_left; simp only [Act.put, List.getElem_toArray, List.getElem_cons_succ, List.getElem_cons_zero, List.setIfInBounds_toArray, List.set_cons_succ, List.set_cons_zero])
  (refine wpAnyH_take (i := 2) (v := ?_) rfl (by kernel_rfl) (by kernel_rfl) (by kernel_rfl) (fun _ _ _ h => h) (Or.inl ⟨by rfl, ?_⟩) (by assumption) ?_; rotate_left; (intro w hSw; (try dsimp only at hSw); go_split_ands; go_simp; first | done | with_reducible rfl); rotate_left; simp only [Act.put, List.getElem_toArray, List.getElem_cons_succ, List.getElem_cons_zero, List.setIfInBounds_toArray, List.set_cons_succ, List.set_cons_zero])
  (refine wpAnyH_take (i := 3) (v := ?_) rfl (by kernel_rfl) (by kernel_rfl) (by kernel_rfl) (fun _ _ _ h => h) (Or.inl ⟨by rfl, ?_⟩) (by assumption) ?_; rotate_left; (intro w hSw; (try dsimp only at hSw); go_split_ands; go_simp; first | done | with_reducible rfl); rotate_left; simp only [Act.put, List.getElem_toArray, List.getElem_cons_succ, List.getElem_cons_zero, List.setIfInBounds_toArray, List.set_cons_succ, List.set_cons_zero])
  (refine wpAnyH_take (i := 5) (v := ?_) rfl (by kernel_rfl) (by kernel_rfl) (by kernel_rfl) (fun _ _ _ h => h) (Or.inl ⟨by rfl, ?_⟩) (by assumption) ?_; rotate_left; (intro w hSw; (try dsimp only at hSw); go_split_ands; go_simp; first | done | with_reducible rfl); rotate_left; simp only [Act.put, List.getElem_toArray, List.getElem_cons_succ, List.getElem_cons_zero, List.setIfInBounds_toArray, List.set_cons_succ, List.set_cons_zero])
  (refine wpAnyH_take (i := 6) (v := ?_) rfl (by kernel_rfl) (by kernel_rfl) (by kernel_rfl) (fun _ _ _ h => h) (Or.inl ⟨by rfl, ?_⟩) (by assumption) ?_; rotate_left; (intro w hSw; (try dsimp only at hSw); go_split_ands; go_simp; first | done | with_reducible rfl); rotate_left; simp only [Act.put, List.getElem_toArray, List.getElem_cons_succ, List.getElem_cons_zero, List.setIfInBounds_toArray, List.set_cons_succ, List.set_cons_zero])
  (refine wpAnyH_take (i := 9) (v := ?_) rfl (by kernel_rfl) (by kernel_rfl) (by kernel_rfl) (fun _ _ _ h => h) (Or.inl ⟨by rfl, ?_⟩) (by assumption) ?_; rotate_left; (intro w hSw; (try dsimp only at hSw); go_split_ands; go_simp; first | done | with_reducible rfl); rotate_left; simp only [Act.put, List.getElem_toArray, List.getElem_cons_succ, List.getElem_cons_zero, List.setIfInBounds_toArray, List.set_cons_succ, List.set_cons_zero])
  (refine wpAnyH_take (i := 10) (v := ?_) rfl (by kernel_rfl) (by kernel_rfl) (by kernel_rfl) (fun _ _ _ h => h) (Or.inl ⟨by rfl, ?_⟩) (by assumption) ?_; rotate_left; (intro w hSw; (try dsimp only at hSw); go_split_ands; go_simp; first | done | with_reducible rfl); rotate_left; simp only [Act.put, List.getElem_toArray, List.getElem_cons_succ, List.getElem_cons_zero, List.setIfInBounds_toArray, List.set_cons_succ, List.set_cons_zero])
  refine wpAnyH_ready (rs := [4, 8]) (by kernel_rfl) (by simp) ?_
  refine AllReadyH.cons rfl (fun K hK => ?_) (AllReadyH.cons rfl (fun K hK => ?_) AllReadyH.nil)
  · go_simp
    have sn := SN0.out.made 66 4 #[] 0 (Nat.zero_le _) rfl
    try simp only [World.size_drew'] at sn
    have SN1 : Seal _ := ⟨sn⟩
    clear sn
    refine hK.out _ _ ⟨(SN1.out.three.head).c 0 _ rfl, (SN1.out.three.head).c 1 _ rfl, (SN1.out.three.head).c 2 _ rfl, (SN1.out.three.head).c 3 _ rfl, (SN1.out.three.head).c 4 _ rfl, SN1.out.below⟩ (fun hHeld => ?_)
    clear hK K SN0
    try simp only [Act.put, List.getElem_toArray, List.getElem_cons_succ, List.getElem_cons_zero, List.setIfInBounds_toArray, List.set_cons_zero, List.set_cons_succ]
    refine wpAnyH_ready (rs := [7, 8]) (by kernel_rfl) (by simp) ?_
    refine AllReadyH.cons rfl (fun K hK => ?_) (AllReadyH.cons rfl (fun K hK => ?_) AllReadyH.nil)
    · have SH := SN1.out
      have OW : Seal _ := ⟨SH.head⟩
      have SRC : Seal _ := ⟨(HS.out.later SN1.out.below).get HRA.out⟩
      refine step_append_any rfl _ _ 62 rfl 0 66 iA (.agg #[.string ByteArray.empty, .string ByteArray.empty, .int .i64 0, .int .i64 0]) 4 48 Tryd.underlying62 iAi iA0 iA1 iA2 rfl (by decide) _ 0 [] (by rfl) OW.out p.a1 x.rc.length p.c1 (rcptE.all x.rc (ones x.rc)) (by rfl) SRC.out (rcpts_one _ _) (by unfold maxLen; omega) (by omega) (Nat.zero_le _) ?_
      intro v' w' hown hg hat
      rw [Nat.zero_add, List.nil_append] at hown
      obtain ⟨eA, dA, rfl, _⟩ := row_value hown
      have SN2 : Seal _ := ⟨SH.app hown hg hat⟩
      clear hown hg hat OW SRC SH
      refine hK.out _ _ ⟨(SN2.out.three.head).c 0 _ rfl, (SN2.out.three.head).c 1 _ rfl, (SN2.out.three.head).c 2 _ rfl, (SN2.out.three.head).c 3 _ rfl, (SN2.out.three.head).c 4 _ rfl, SN2.out.below⟩ (fun hHeld => ?_)
      clear hK K SN1
      try simp only [Act.put, List.getElem_toArray, List.getElem_cons_succ, List.getElem_cons_zero, List.setIfInBounds_toArray, List.set_cons_zero, List.set_cons_succ]
      refine wpAnyH_ready (rs := [8]) (by kernel_rfl) (by simp) ?_
      refine AllReadyH.cons rfl (fun K hK => ?_) AllReadyH.nil
      · go_simp
        have sn := SN2.out.made 9 1 #[] 0 (Nat.zero_le _) rfl
        try simp only [World.size_alloc, World.size_drew'] at sn
        have SN3 : Seal _ := ⟨sn⟩
        clear sn
        refine hK.out _ _ ⟨(SN3.out.four.head).c 0 _ rfl, (SN3.out.four.head).c 1 _ rfl, (SN3.out.four.head).c 2 _ rfl, (SN3.out.four.head).c 3 _ rfl, (SN3.out.four.head).c 4 _ rfl, SN3.out.below⟩ (fun hHeld => ?_)
        clear hK K SN2
        try simp only [Act.put, List.getElem_toArray, List.getElem_cons_succ, List.getElem_cons_zero, List.setIfInBounds_toArray, List.set_cons_zero, List.set_cons_succ]
        refine wpAnyH_ready (rs := [11]) (by kernel_rfl) (by simp) ?_
        refine AllReadyH.cons rfl (fun K hK => ?_) AllReadyH.nil
        · have SH := SN3.out
          have OW : Seal _ := ⟨SH.head⟩
          have SRC : Seal _ := ⟨(HS.out.later SN3.out.below).get HRB.out⟩
          refine step_append_any rfl _ _ 23 rfl 0 9 iB (.string ByteArray.empty) 1 16 Tryd.underlying23 iBi iB0 iB1 iB2 rfl (by decide) _ 0 [] (by rfl) OW.out p.a2 x.body.length p.c2 (x.body.map Value.string) (by rfl) SRC.out (strs_one _) (by unfold maxLen; omega) (by omega) (Nat.zero_le _) ?_
          intro v' w' hown hg hat
          rw [Nat.zero_add, List.nil_append] at hown
          obtain ⟨eB, dB, rfl, _⟩ := row_value hown
          have SN4 : Seal _ := ⟨SH.app hown hg hat⟩
          clear hown hg hat OW SRC SH
          refine hK.out _ _ ⟨(SN4.out.four.head).c 0 _ rfl, (SN4.out.four.head).c 1 _ rfl, (SN4.out.four.head).c 2 _ rfl, (SN4.out.four.head).c 3 _ rfl, (SN4.out.four.head).c 4 _ rfl, SN4.out.below⟩ (fun hHeld => ?_)
          clear hK K SN3
          try simp only [Act.put, List.getElem_toArray, List.getElem_cons_succ, List.getElem_cons_zero, List.setIfInBounds_toArray, List.set_cons_zero, List.set_cons_succ]
          (refine wpAnyH_take (i := 12) (v := ?_) rfl (by kernel_rfl) (by kernel_rfl) (by kernel_rfl) (fun _ _ _ h => h) (Or.inl ⟨by rfl, ?_⟩) (by assumption) ?_; rotate_left; (intro w hSw; (try dsimp only at hSw); go_split_ands; go_simp; first | done | with_reducible rfl); rotate_left; simp only [Act.put, List.getElem_toArray, List.getElem_cons_succ, List.getElem_cons_zero, List.setIfInBounds_toArray, List.set_cons_succ, List.set_cons_zero])
          have SR4 := SN4.out.three
          have r0 := SR4.head.c 0 _ rfl
          have fr0 := SR4.head.f 0 (by simp)
          have r1 := SR4.head.c 1 _ rfl
          have fr1 := SR4.head.f 1 (by simp)
          have r2 := SR4.head.c 2 _ rfl
          have fr2 := SR4.head.f 2 (by simp)
          have r3 := SR4.head.c 3 _ rfl
          have fr3 := SR4.head.f 3 (by simp)
          have r4 := SR4.head.c 4 _ rfl
          have fr4 := SR4.head.f 4 (by simp)
          refine wpAnyH_ready (rs := [13]) (by kernel_rfl) (by simp) ?_
          refine AllReadyH.cons rfl (fun K hK => ?_) AllReadyH.nil
          go_simp
          have SF : Seal _ := ⟨(((((SR4.set 0 (.int .i64 x.id) (by simp)).set 1 (.string x.fu) (by simp)).set 2 (.string x.fd) (by simp)).set 3 (.slice eA x.rc.length dA) (by simp)).set 4 (.slice eB x.body.length dB) (by simp))⟩
          refine hK.out _ _ ⟨(SF.out.four.head).c 0 _ rfl, (SF.out.four.head).c 1 _ rfl, (SF.out.four.head).c 2 _ rfl, (SF.out.four.head).c 3 _ rfl, (SF.out.four.head).c 4 _ rfl, SF.out.below⟩ (fun _ => ?_)
          clear hK K
          refine wpAnyH_done (by kernel_rfl) ?_ _
          have t0 := SF.out.head.c 0 _ rfl
          have t1 := SF.out.head.c 1 _ rfl
          have t2 := SF.out.head.c 2 _ rfl
          have t3 := SF.out.head.c 3 _ rfl
          have t4 := SF.out.head.c 4 _ rfl
          clear SR4 SN4 r0 fr0 r1 fr1 r2 fr2 r3 fr3 r4 fr4
          go_wp2
          exact bodyPost_ret (v := .agg (itemV x ⟨eA, dA, eB, dB⟩)) (by simp [results, Tryd.results183, go_sem, t0, t1, t2, t3, t4]) rfl ⟨⟨eA, dA, eB, dB⟩, rfl, (SF.out.tail.two).first (l := itemE.res x ⟨eA, dA, eB, dB⟩)⟩
    · go_simp
      have sn := SN1.out.made 9 1 #[] 0 (Nat.zero_le _) rfl
      try simp only [World.size_alloc, World.size_drew'] at sn
      have SN2 : Seal _ := ⟨sn⟩
      clear sn
      refine hK.out _ _ ⟨(SN2.out.four.head).c 0 _ rfl, (SN2.out.four.head).c 1 _ rfl, (SN2.out.four.head).c 2 _ rfl, (SN2.out.four.head).c 3 _ rfl, (SN2.out.four.head).c 4 _ rfl, SN2.out.below⟩ (fun hHeld => ?_)
      clear hK K SN1
      try simp only [Act.put, List.getElem_toArray, List.getElem_cons_succ, List.getElem_cons_zero, List.setIfInBounds_toArray, List.set_cons_zero, List.set_cons_succ]
      refine wpAnyH_ready (rs := [7]) (by kernel_rfl) (by simp) ?_
      refine AllReadyH.cons rfl (fun K hK => ?_) AllReadyH.nil
      · have SH := SN2.out.two
        have OW : Seal _ := ⟨SH.head⟩
        have SRC : Seal _ := ⟨(HS.out.later SN2.out.below).get HRA.out⟩
        refine step_append_any rfl _ _ 62 rfl 0 66 iA (.agg #[.string ByteArray.empty, .string ByteArray.empty, .int .i64 0, .int .i64 0]) 4 48 Tryd.underlying62 iAi iA0 iA1 iA2 rfl (by decide) _ 0 [] (by rfl) OW.out p.a1 x.rc.length p.c1 (rcptE.all x.rc (ones x.rc)) (by rfl) SRC.out (rcpts_one _ _) (by unfold maxLen; omega) (by omega) (Nat.zero_le _) ?_
        intro v' w' hown hg hat
        rw [Nat.zero_add, List.nil_append] at hown
        obtain ⟨eA, dA, rfl, _⟩ := row_value hown
        have SN3 : Seal _ := ⟨SH.app hown hg hat⟩
        clear hown hg hat OW SRC SH
        refine hK.out _ _ ⟨(SN3.out.four.head).c 0 _ rfl, (SN3.out.four.head).c 1 _ rfl, (SN3.out.four.head).c 2 _ rfl, (SN3.out.four.head).c 3 _ rfl, (SN3.out.four.head).c 4 _ rfl, SN3.out.below⟩ (fun hHeld => ?_)
        clear hK K SN2
        try simp only [Act.put, List.getElem_toArray, List.getElem_cons_succ, List.getElem_cons_zero, List.setIfInBounds_toArray, List.set_cons_zero, List.set_cons_succ]
        refine wpAnyH_ready (rs := [11]) (by kernel_rfl) (by simp) ?_
        refine AllReadyH.cons rfl (fun K hK => ?_) AllReadyH.nil
        · have SH := SN3.out.two
          have OW : Seal _ := ⟨SH.head⟩
          have SRC : Seal _ := ⟨(HS.out.later SN3.out.below).get HRB.out⟩
          refine step_append_any rfl _ _ 23 rfl 0 9 iB (.string ByteArray.empty) 1 16 Tryd.underlying23 iBi iB0 iB1 iB2 rfl (by decide) _ 0 [] (by rfl) OW.out p.a2 x.body.length p.c2 (x.body.map Value.string) (by rfl) SRC.out (strs_one _) (by unfold maxLen; omega) (by omega) (Nat.zero_le _) ?_
          intro v' w' hown hg hat
          rw [Nat.zero_add, List.nil_append] at hown
          obtain ⟨eB, dB, rfl, _⟩ := row_value hown
          have SN4 : Seal _ := ⟨SH.app hown hg hat⟩
          clear hown hg hat OW SRC SH
          refine hK.out _ _ ⟨(SN4.out.four.head).c 0 _ rfl, (SN4.out.four.head).c 1 _ rfl, (SN4.out.four.head).c 2 _ rfl, (SN4.out.four.head).c 3 _ rfl, (SN4.out.four.head).c 4 _ rfl, SN4.out.below⟩ (fun hHeld => ?_)
          clear hK K SN3
          try simp only [Act.put, List.getElem_toArray, List.getElem_cons_succ, List.getElem_cons_zero, List.setIfInBounds_toArray, List.set_cons_zero, List.set_cons_succ]
          (refine wpAnyH_take (i := 12) (v := ?_) rfl (by kernel_rfl) (by kernel_rfl) (by kernel_rfl) (fun _ _ _ h => h) (Or.inl ⟨by rfl, ?_⟩) (by assumption) ?_; rotate_left; (intro w hSw; (try dsimp only at hSw); go_split_ands; go_simp; first | done | with_reducible rfl); rotate_left; simp only [Act.put, List.getElem_toArray, List.getElem_cons_succ, List.getElem_cons_zero, List.setIfInBounds_toArray, List.set_cons_succ, List.set_cons_zero])
          have SR4 := SN4.out.three
          have r0 := SR4.head.c 0 _ rfl
          have fr0 := SR4.head.f 0 (by simp)
          have r1 := SR4.head.c 1 _ rfl
          have fr1 := SR4.head.f 1 (by simp)
          have r2 := SR4.head.c 2 _ rfl
          have fr2 := SR4.head.f 2 (by simp)
          have r3 := SR4.head.c 3 _ rfl
          have fr3 := SR4.head.f 3 (by simp)
          have r4 := SR4.head.c 4 _ rfl
          have fr4 := SR4.head.f 4 (by simp)
          refine wpAnyH_ready (rs := [13]) (by kernel_rfl) (by simp) ?_
          refine AllReadyH.cons rfl (fun K hK => ?_) AllReadyH.nil
          go_simp
          have SF : Seal _ := ⟨(((((SR4.set 0 (.int .i64 x.id) (by simp)).set 1 (.string x.fu) (by simp)).set 2 (.string x.fd) (by simp)).set 3 (.slice eA x.rc.length dA) (by simp)).set 4 (.slice eB x.body.length dB) (by simp))⟩
          refine hK.out _ _ ⟨(SF.out.four.head).c 0 _ rfl, (SF.out.four.head).c 1 _ rfl, (SF.out.four.head).c 2 _ rfl, (SF.out.four.head).c 3 _ rfl, (SF.out.four.head).c 4 _ rfl, SF.out.below⟩ (fun _ => ?_)
          clear hK K
          refine wpAnyH_done (by kernel_rfl) ?_ _
          have t0 := SF.out.head.c 0 _ rfl
          have t1 := SF.out.head.c 1 _ rfl
          have t2 := SF.out.head.c 2 _ rfl
          have t3 := SF.out.head.c 3 _ rfl
          have t4 := SF.out.head.c 4 _ rfl
          clear SR4 SN4 r0 fr0 r1 fr1 r2 fr2 r3 fr3 r4 fr4
          go_wp2
          exact bodyPost_ret (v := .agg (itemV x ⟨eA, dA, eB, dB⟩)) (by simp [results, Tryd.results183, go_sem, t0, t1, t2, t3, t4]) rfl ⟨⟨eA, dA, eB, dB⟩, rfl, (SF.out.tail.two).first (l := itemE.res x ⟨eA, dA, eB, dB⟩)⟩
  · go_simp
    have sn := SN0.out.made 9 1 #[] 0 (Nat.zero_le _) rfl
    try simp only [World.size_drew'] at sn
    have SN1 : Seal _ := ⟨sn⟩
    clear sn
    refine hK.out _ _ ⟨(SN1.out.three.head).c 0 _ rfl, (SN1.out.three.head).c 1 _ rfl, (SN1.out.three.head).c 2 _ rfl, (SN1.out.three.head).c 3 _ rfl, (SN1.out.three.head).c 4 _ rfl, SN1.out.below⟩ (fun hHeld => ?_)
    clear hK K SN0
    try simp only [Act.put, List.getElem_toArray, List.getElem_cons_succ, List.getElem_cons_zero, List.setIfInBounds_toArray, List.set_cons_zero, List.set_cons_succ]
    refine wpAnyH_ready (rs := [4]) (by kernel_rfl) (by simp) ?_
    refine AllReadyH.cons rfl (fun K hK => ?_) AllReadyH.nil
    · go_simp
      have sn := SN1.out.made 66 4 #[] 0 (Nat.zero_le _) rfl
      try simp only [World.size_alloc, World.size_drew'] at sn
      have SN2 : Seal _ := ⟨sn⟩
      clear sn
      refine hK.out _ _ ⟨(SN2.out.four.head).c 0 _ rfl, (SN2.out.four.head).c 1 _ rfl, (SN2.out.four.head).c 2 _ rfl, (SN2.out.four.head).c 3 _ rfl, (SN2.out.four.head).c 4 _ rfl, SN2.out.below⟩ (fun hHeld => ?_)
      clear hK K SN1
      try simp only [Act.put, List.getElem_toArray, List.getElem_cons_succ, List.getElem_cons_zero, List.setIfInBounds_toArray, List.set_cons_zero, List.set_cons_succ]
      refine wpAnyH_ready (rs := [7]) (by kernel_rfl) (by simp) ?_
      refine AllReadyH.cons rfl (fun K hK => ?_) AllReadyH.nil
      · have SH := SN2.out
        have OW : Seal _ := ⟨SH.head⟩
        have SRC : Seal _ := ⟨(HS.out.later SN2.out.below).get HRA.out⟩
        refine step_append_any rfl _ _ 62 rfl 0 66 iA (.agg #[.string ByteArray.empty, .string ByteArray.empty, .int .i64 0, .int .i64 0]) 4 48 Tryd.underlying62 iAi iA0 iA1 iA2 rfl (by decide) _ 0 [] (by rfl) OW.out p.a1 x.rc.length p.c1 (rcptE.all x.rc (ones x.rc)) (by rfl) SRC.out (rcpts_one _ _) (by unfold maxLen; omega) (by omega) (Nat.zero_le _) ?_
        intro v' w' hown hg hat
        rw [Nat.zero_add, List.nil_append] at hown
        obtain ⟨eA, dA, rfl, _⟩ := row_value hown
        have SN3 : Seal _ := ⟨SH.app hown hg hat⟩
        clear hown hg hat OW SRC SH
        refine hK.out _ _ ⟨(SN3.out.four.head).c 0 _ rfl, (SN3.out.four.head).c 1 _ rfl, (SN3.out.four.head).c 2 _ rfl, (SN3.out.four.head).c 3 _ rfl, (SN3.out.four.head).c 4 _ rfl, SN3.out.below⟩ (fun hHeld => ?_)
        clear hK K SN2
        try simp only [Act.put, List.getElem_toArray, List.getElem_cons_succ, List.getElem_cons_zero, List.setIfInBounds_toArray, List.set_cons_zero, List.set_cons_succ]
        refine wpAnyH_ready (rs := [11]) (by kernel_rfl) (by simp) ?_
        refine AllReadyH.cons rfl (fun K hK => ?_) AllReadyH.nil
        · have SH := SN3.out.two
          have OW : Seal _ := ⟨SH.head⟩
          have SRC : Seal _ := ⟨(HS.out.later SN3.out.below).get HRB.out⟩
          refine step_append_any rfl _ _ 23 rfl 0 9 iB (.string ByteArray.empty) 1 16 Tryd.underlying23 iBi iB0 iB1 iB2 rfl (by decide) _ 0 [] (by rfl) OW.out p.a2 x.body.length p.c2 (x.body.map Value.string) (by rfl) SRC.out (strs_one _) (by unfold maxLen; omega) (by omega) (Nat.zero_le _) ?_
          intro v' w' hown hg hat
          rw [Nat.zero_add, List.nil_append] at hown
          obtain ⟨eB, dB, rfl, _⟩ := row_value hown
          have SN4 : Seal _ := ⟨SH.app hown hg hat⟩
          clear hown hg hat OW SRC SH
          refine hK.out _ _ ⟨(SN4.out.four.head).c 0 _ rfl, (SN4.out.four.head).c 1 _ rfl, (SN4.out.four.head).c 2 _ rfl, (SN4.out.four.head).c 3 _ rfl, (SN4.out.four.head).c 4 _ rfl, SN4.out.below⟩ (fun hHeld => ?_)
          clear hK K SN3
          try simp only [Act.put, List.getElem_toArray, List.getElem_cons_succ, List.getElem_cons_zero, List.setIfInBounds_toArray, List.set_cons_zero, List.set_cons_succ]
          (refine wpAnyH_take (i := 12) (v := ?_) rfl (by kernel_rfl) (by kernel_rfl) (by kernel_rfl) (fun _ _ _ h => h) (Or.inl ⟨by rfl, ?_⟩) (by assumption) ?_; rotate_left; (intro w hSw; (try dsimp only at hSw); go_split_ands; go_simp; first | done | with_reducible rfl); rotate_left; simp only [Act.put, List.getElem_toArray, List.getElem_cons_succ, List.getElem_cons_zero, List.setIfInBounds_toArray, List.set_cons_succ, List.set_cons_zero])
          have SR4 := SN4.out.three
          have r0 := SR4.head.c 0 _ rfl
          have fr0 := SR4.head.f 0 (by simp)
          have r1 := SR4.head.c 1 _ rfl
          have fr1 := SR4.head.f 1 (by simp)
          have r2 := SR4.head.c 2 _ rfl
          have fr2 := SR4.head.f 2 (by simp)
          have r3 := SR4.head.c 3 _ rfl
          have fr3 := SR4.head.f 3 (by simp)
          have r4 := SR4.head.c 4 _ rfl
          have fr4 := SR4.head.f 4 (by simp)
          refine wpAnyH_ready (rs := [13]) (by kernel_rfl) (by simp) ?_
          refine AllReadyH.cons rfl (fun K hK => ?_) AllReadyH.nil
          go_simp
          have SF : Seal _ := ⟨(((((SR4.set 0 (.int .i64 x.id) (by simp)).set 1 (.string x.fu) (by simp)).set 2 (.string x.fd) (by simp)).set 3 (.slice eA x.rc.length dA) (by simp)).set 4 (.slice eB x.body.length dB) (by simp))⟩
          refine hK.out _ _ ⟨(SF.out.four.head).c 0 _ rfl, (SF.out.four.head).c 1 _ rfl, (SF.out.four.head).c 2 _ rfl, (SF.out.four.head).c 3 _ rfl, (SF.out.four.head).c 4 _ rfl, SF.out.below⟩ (fun _ => ?_)
          clear hK K
          refine wpAnyH_done (by kernel_rfl) ?_ _
          have t0 := SF.out.head.c 0 _ rfl
          have t1 := SF.out.head.c 1 _ rfl
          have t2 := SF.out.head.c 2 _ rfl
          have t3 := SF.out.head.c 3 _ rfl
          have t4 := SF.out.head.c 4 _ rfl
          clear SR4 SN4 r0 fr0 r1 fr1 r2 fr2 r3 fr3 r4 fr4
          go_wp2
          exact bodyPost_ret (v := .agg (itemV x ⟨eA, dA, eB, dB⟩)) (by simp [results, Tryd.results183, go_sem, t0, t1, t2, t3, t4]) rfl ⟨⟨eA, dA, eB, dB⟩, rfl, (SF.out.tail.two).first (l := itemE.res x ⟨eA, dA, eB, dB⟩)⟩
end Go.Proofs.YtgjkoegpdfcadaaDoor
