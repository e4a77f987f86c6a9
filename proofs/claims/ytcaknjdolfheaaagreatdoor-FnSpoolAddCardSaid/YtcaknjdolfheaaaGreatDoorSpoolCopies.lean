/- SpoolClone, SpoolCopy, SpoolCopyS. -/
import Derived.Test.YtcaknjdolfheaaaGreatDoorTk
import Derived.Test.YtcaknjdolfheaaaGreatDoorSpools
import Derived.Test.YtcaknjdolfheaaaGreatDoorSpoolOks
import Derived.Test.YtcaknjdolfheaaaGreatDoorClone
import Derived.Test.YtcaknjdolfheaaaGreatDoorRowMark
import Derived.Deep.RegionHeld3
namespace Go.Proofs.YtcaknjdolfheaaaGreatDoor
open Go Go.RowKit

theorem rcpts_one (xs : List RcptD) (us : List Unit) : ∀ u ∈ rcptE.all xs us, u.oneCell' = true := by
  unfold Elem.all
  intro u hu
  obtain ⟨l, hl, hul⟩ := List.mem_flatten.1 hu
  obtain ⟨k, hk⟩ := List.getElem?_of_mem hl
  rw [List.getElem?_zipWith] at hk
  cases hx : xs[k]? with
  | none => rw [hx] at hk; cases hk
  | some x =>
    cases hp : us[k]? with
    | none => rw [hx, hp] at hk; cases hk
    | some p =>
      rw [hx, hp] at hk
      have e : rcptL x = l := Option.some.inj hk
      subst e
      simp only [rcptL, List.mem_cons, List.not_mem_nil, or_false] at hul
      rcases hul with rfl | rfl | rfl | rfl <;> rfl

set_option maxHeartbeats 800000 in
set_option maxRecDepth 100000 in
theorem cloneRcpts_any (ao : Option Addr) (cap : Nat) (xs : List RcptD) (w : World) (ho : (rcptsR ao cap xs).P w) (hl : xs.length ≤ 1048576) :
    Calls Tryz.prog 182 #[.slice ao xs.length cap] w fun e w' => ∃ bo c, e = .returned (.slice bo xs.length c) ∧ St w w' [rcptsR bo c xs] := by
  obtain ⟨i0, hi, hz0, hz1, hz2⟩ := info_parts infoRcpt
  have qT : ∀ (w : World) (a : Option Addr) (n c n' c' : Nat), (binOp .eql 41 (.slice a n c) (.slice none n' c')).run Tryz.prog w = .ok (.bool a.isNone) w := fun w a n c n' c' => Lib.run_eql_slice_nil w _ _ a n c n' c' Tryz.underlying41
  have hal : (rcptE.all xs (ones xs)).length = xs.length * 4 := rcptE.all_length (by simp)
  rcases own_split (B := 0) ho with ⟨rfl, h0, rfl⟩ | ⟨g, rfl⟩
  · obtain rfl : xs = [] := List.eq_nil_of_length_eq_zero h0
    clear ho
    have S0 : Seal _ := ⟨(St.start w).nothing 105 4⟩
    go_enter Tryz.func182, Tryz.ntmps182
    go_wp2
    go_ret
    exact ⟨none, 0, rfl, S0.out⟩
  · have HN : Seal _ := ⟨own_news (World.ownsRow.alloc ho (.cells #[] 105))⟩
    have S0 : Seal _ := ⟨(St.start w).made 105 4 #[] 0 (Nat.zero_le _) rfl⟩
    have OW : Seal _ := ⟨S0.out.head⟩
    have HAL : Seal _ := ⟨hal⟩
    clear ho hal
    go_enter Tryz.func182, Tryz.ntmps182
    go_wp2_with (at_builtin; refine wpList_append_own_at _ rfl _ _ 41 rfl 0 105 i0 (.agg #[.string ByteArray.empty, .string ByteArray.empty, .int .i64 0, .int .i64 0]) 4 48 Tryz.underlying41 hi hz0 hz1 hz2 rfl (by decide) _ 0 [] rfl OW.out ⟨g, 0, none⟩ xs.length cap (rcptE.all xs (ones xs)) rfl HAL.out ?c1 ?c2 ?c3 ?c4 ?c5 ?_)
    case c1 => exact HN.out
    case c2 => exact rcpts_one _ _
    case c3 => unfold maxLen; omega
    case c4 => omega
    case c5 => exact Nat.zero_le _
    intro v' w2 hown hg _ hat
    have s1 := S0.out.app hown hg (by first | exact hat | (rw [World.size_alloc]; exact hat))
    obtain ⟨bo, c, rfl, _⟩ := row_value s1.head
    have S1 : Seal _ := ⟨s1⟩
    clear hown hg hat s1 S0 OW HN
    go_wp2
    go_ret
    exact ⟨bo, c, by simp, S1.out⟩

set_option maxHeartbeats 1600000 in
set_option maxRecDepth 100000 in
theorem itemClone_any {X : Nat → Prop} (L : List Res) (x : ItemD) (p : ItemV) (w0 w : World) (h : StX X w0 w L) (hr : ∀ r ∈ itemE.res x p, r ∈ L) (hz : itemN x ≤ 1048576) :
    Calls Tryz.prog 113 #[.agg (itemV x p)] w fun e w' => ∃ q, e = .returned (.agg (itemV x q)) ∧ St w w' (itemE.res x q) := by
  obtain ⟨_, _, z3, _, z5, _⟩ := itemN_parts hz
  have s0 := ((St.start w).alloc (itemV x p) 43).alloc noItem 43
  simp only [World.size_alloc] at s0
  have S0 : Seal _ := ⟨s0⟩
  have HS : Seal _ := ⟨h⟩
  have HR1 : Seal (rcptsR p.a1 p.c1 x.rc ∈ L) := ⟨hr _ List.mem_cons_self⟩
  have HR2 : Seal (strsR p.a2 p.c2 x.body ∈ L) := ⟨hr _ (List.mem_cons_of_mem _ List.mem_cons_self)⟩
  have K0 := s0.two.head
  have g3 := K0.c 3 _ rfl
  clear s0 h hr hz K0
  go_enter Tryz.func113, Tryz.ntmps113
  go_wp2_with fail
  refine (cloneRcpts_any p.a1 p.c1 x.rc _ ((HS.out.later S0.out.below).get HR1.out) z3).mono ?_
  rintro e w1 ⟨q1, d1, rfl, k1⟩
  have s1 := (S0.out.join k1).three
  have P1 := s1.head
  have o3 := P1.c 3 _ rfl
  have f3 := P1.f 3 (by simp)
  have o4 := P1.c 4 _ rfl
  have S1 : Seal _ := ⟨s1.set 3 (.slice q1 x.rc.length d1) (by simp)⟩
  clear k1 S0 s1 P1 g3
  go_wp2_with fail
  refine (cloneStrs_any 0 p.a2 p.c2 x.body _ ((HS.out.later S1.out.below).get HR2.out) z5).mono ?_
  rintro e w2 ⟨q2, d2, rfl, k2, hb2⟩
  have s2 := (S1.out.row hb2 k2).two
  have P2 := s2.head
  have u0 := P2.c 0 _ rfl
  have u1 := P2.c 1 _ rfl
  have u2 := P2.c 2 _ rfl
  have u3 := P2.c 3 _ rfl
  have u4 := P2.c 4 _ rfl
  have f4 := P2.f 4 (by simp)
  have S2 : Seal _ := ⟨s2.set 4 (.slice q2 x.body.length d2) (by simp)⟩
  have R2 := s2.four.head
  have r0 := R2.c 0 _ rfl
  have r1 := R2.c 1 _ rfl
  have r2 := R2.c 2 _ rfl
  have r3 := R2.c 3 _ rfl
  have r4 := R2.c 4 _ rfl
  have h0 := R2.f 0 (by simp)
  have h1 := R2.f 1 (by simp)
  have h2 := R2.f 2 (by simp)
  have h3 := R2.f 3 (by simp)
  have h4 := R2.f 4 (by simp)
  have hn : w.heap.size ≠ w.heap.size + 1 := by omega
  clear k2 S1 s2 hb2 P2 R2 o3 f3 o4
  go_wp2
  refine bodyPost_ret (v := .agg (itemV x ⟨q1, d1, q2, d2⟩)) (by simp [results, Tryz.results113, go_sem, r0, r1, r2, r3, r4]) rfl ⟨⟨q1, d1, q2, d2⟩, rfl, ?_⟩
  have s4 := ((((S2.out.four.set 0 (.int .i64 x.id) (by simp)).set 1 (.string x.fu) (by simp)).set 2 (.string x.fd) (by simp)).set 3 (.slice q1 x.rc.length d1) (by simp)).set 4 (.slice q2 x.body.length d2) (by simp)
  exact s4.tail.tail.two

theorem itemCells {X : Nat → Prop} {w0 w : World} {ao : Option Addr} {cap : Nat} {xs : List ItemD} {ps : List ItemV} {l : List Res} (h : StX X w0 w (itemsR ao cap xs ps ++ l)) {k : Nat} {x : ItemD} {p : ItemV} (hx : xs[k]? = some x) (hp : ps[k]? = some p) :
    ∃ g, ao = some ⟨g, 0, none⟩ ∧ w.cell? ⟨g, k * 5, none⟩ = some (.int .i64 x.id) ∧ w.cell? ⟨g, k * 5 + 1, none⟩ = some (.string x.fu) ∧ w.cell? ⟨g, k * 5 + 2, none⟩ = some (.string x.fd) ∧ w.cell? ⟨g, k * 5 + 3, none⟩ = some (.slice p.a1 x.rc.length p.c1) ∧ w.cell? ⟨g, k * 5 + 4, none⟩ = some (.slice p.a2 x.body.length p.c2) := by
  have hk := (List.getElem?_eq_some_iff.1 hx).1
  have h0 : w.ownsRow 0 43 5 (.slice ao xs.length cap) xs.length (itemE.all xs ps) := h.head
  rcases slice_or h0 with he | ⟨g, rfl⟩
  · omega
  have at' : ∀ j, j < 5 → w.cell? ⟨g, k * 5 + j, none⟩ = (itemL x p)[j]? := fun j hj => by
    have hlt : k * 5 + j < xs.length * 5 := by omega
    rw [h0.cellAt _ hlt]
    exact itemE.all_get hx hp hj
  exact ⟨g, rfl, at' 0 (by decide), at' 1 (by decide), at' 2 (by decide), at' 3 (by decide), at' 4 (by decide)⟩
theorem items_one (x : ItemD) (p : ItemV) : ∀ u ∈ itemL x p, u.oneCell' = true := by
  intro u hu
  simp only [itemL, List.mem_cons, List.not_mem_nil, or_false] at hu
  rcases hu with rfl | rfl | rfl | rfl | rfl <;> rfl

set_option maxHeartbeats 3200000 in
set_option maxRecDepth 100000 in
theorem eachClone_any {X : Nat → Prop} (l : List Res) (ao : Option Addr) (cap : Nat) (xs : List ItemD) (ps : List ItemV) (hl : ps.length = xs.length) (w0 w : World) (h : StX X w0 w (itemsR ao cap xs ps ++ l)) (hn : xs.length ≤ 1048576) (hz : ∀ x ∈ xs, itemN x ≤ 1048576) :
    Calls Tryz.prog 112 #[.slice ao xs.length cap, .func (.func 113) #[] #[]] w fun e w' => ∃ bo c qs, e = .returned (.slice bo xs.length c) ∧ qs.length = xs.length ∧ St w w' (itemsR bo c xs qs) := by
  obtain ⟨i0, hi, hz0, hz1, hz2⟩ := info_parts infoItem
  have HS : Seal _ := ⟨h⟩
  have HL : Seal _ := ⟨hl⟩
  have HZ : Seal _ := ⟨hz⟩
  clear h hl hz
  go_enter Tryz.func112, Tryz.ntmps112
  go_wp2
  go_loopw [5, 10] (fun v i wr => ∃ (k : Nat) (qs : List ItemV), k ≤ xs.length ∧ i = .int .i64 k ∧ qs.length = k ∧ Seal (St w wr (Res.row 43 5 v k (itemE.all (xs.take k) qs) :: itemE.ress (xs.take k) qs))) (fun _ i _ => xs.length - (intOf i).toNat)
  case atStart => exact ⟨0, [], Nat.zero_le _, rfl, rfl, ⟨(St.start w).nothing _ _⟩⟩
  case round =>
    obtain ⟨k, qs, hk, rfl, hqs, S⟩ := hrel
    by_cases hlt : k < xs.length
    · obtain ⟨x, hx⟩ : ∃ x, xs[k]? = some x := ⟨_, List.getElem?_eq_getElem hlt⟩
      obtain ⟨p, hp⟩ : ∃ p, ps[k]? = some p := ⟨_, List.getElem?_eq_getElem (by rw [HL.out]; exact hlt)⟩
      obtain ⟨g, rfl, c0, c1, c2, c3, c4⟩ := itemCells (HS.out.later S.out.below) hx hp
      have HX : Seal _ := ⟨hx⟩
      have HQ : Seal _ := ⟨hqs⟩
      have S1 : Seal _ := ⟨S.out.more (.cells (itemV x p) 43)⟩
      have C : Seal _ := ⟨itemClone_any _ x p w0 _ (HS.out.later S1.out.below) (fun r hr => List.mem_append_left _ (List.mem_cons_of_mem _ (itemE.mem_ress hx hp hr))) (HZ.out x (List.mem_of_getElem? hx))⟩
      clear hx hp hqs S
      go_wp2_with fail
      refine C.out.mono ?_
      rintro e w2 ⟨q, rfl, k2⟩
      have s2 := ((S1.out.join k2).perm List.perm_middle).more (.cells (itemV x q) 43)
      have S2 : Seal _ := ⟨s2⟩
      have OW : Seal _ := ⟨s2.head⟩
      clear s2 k2 S1 C c0 c1 c2 c3 c4
      go_wp2_with (at_builtin; refine wpList_append_own_at _ rfl _ _ 23 rfl 0 43 i0 (.agg #[.int .i64 0, .string ByteArray.empty, .string ByteArray.empty, .slice none 0 0, .slice none 0 0]) 5 88 Tryz.underlying23 hi hz0 hz1 hz2 rfl (by decide) _ _ _ rfl OW.out ⟨w2.heap.size, 0, none⟩ 1 1 (itemL x q) rfl rfl ?c1 ?c2 ?c3 ?c4 ?c5 ?_)
      case c1 =>
        intro j u hj
        have := (CellsM.new w2 (itemV x q) 43).c j u hj
        by_cases h0 : j = 0
        · subst h0; simpa [Addr.add] using this
        · simpa [Addr.add, h0] using this
      case c2 => exact items_one _ _
      case c3 => unfold maxLen; omega
      case c4 => omega
      case c5 => exact Nat.zero_le _
      · intro v' w3 hown hg _ hat
        have s3 := S2.out.app hown hg (by rw [World.size_alloc]; exact hat)
        have s4 : St w w3 (Res.row 43 5 v' (k + 1) (itemE.all (xs.take (k + 1)) (qs ++ [q])) :: itemE.ress (xs.take (k + 1)) (qs ++ [q])) := by
          obtain ⟨hk', e1⟩ := List.getElem?_eq_some_iff.1 HX.out
          have ht : qs.length = (xs.take k).length := by rw [List.length_take, HQ.out]; omega
          rw [List.take_succ_eq_append_getElem hk', e1, itemE.all_snoc ht, itemE.ress_snoc ht]
          exact s3.perm (List.Perm.cons _ List.perm_append_comm)
        have S4 : Seal _ := ⟨s4⟩
        clear hown hg hat OW S2 s3 s4
        go_wp2
        go_roundw
        case rel => exact ⟨k + 1, qs ++ [q], by omega, by go_num, by simp [HQ.out], S4⟩
        case measure => simp [intOf]; omega
    · obtain rfl : k = xs.length := by omega
      have s1 := S.out
      rw [List.take_length] at s1
      obtain ⟨bo, c, rfl, _⟩ := row_value s1.head
      have S1 : Seal _ := ⟨s1⟩
      clear s1 S
      go_wp2
      go_ret
      first | exact ⟨bo, c, rfl, qs, hqs, S1.out⟩ | exact ⟨bo, c, qs, rfl, hqs, S1.out⟩

set_option maxHeartbeats 1600000 in
set_option maxRecDepth 100000 in
theorem spoolClone_any {X : Nat → Prop} (l : List Res) (s : SpoolD) (ao : Option Addr) (cap : Nat) (ps : List ItemV) (hl : ps.length = s.items.length) (w0 w : World) (h : StX X w0 w (itemsR ao cap s.items ps ++ l)) (hz : spoolN s ≤ 1048576) :
    Calls Tryz.prog 59 #[.agg (spoolV s ao cap)] w fun e w' => ∃ bo c qs, e = .returned (.agg (spoolV s bo c)) ∧ qs.length = s.items.length ∧ St w w' (itemsR bo c s.items qs) := by
  obtain ⟨z1, z2⟩ := spoolN_parts hz
  have s0 := ((St.start w).alloc (spoolV s ao cap) 25).alloc #[.int .i64 0, .slice none 0 0] 25
  simp only [World.size_alloc] at s0
  have S0 : Seal _ := ⟨s0⟩
  have HS : Seal _ := ⟨h⟩
  have HL : Seal _ := ⟨hl⟩
  have HZ : Seal _ := ⟨z2⟩
  have g0 := s0.two.head.c 0 _ rfl
  have g1 := s0.two.head.c 1 _ rfl
  clear s0 h hl hz z2
  go_enter Tryz.func59, Tryz.ntmps59
  go_wp2_with fail
  refine (items_any s ao cap _).mono ?_
  rintro e w1 ⟨rfl, hb1⟩
  have S1 : Seal _ := ⟨S0.out.later hb1⟩
  clear hb1 S0 g0 g1
  go_wp2_with fail
  refine (eachClone_any l ao cap s.items ps HL.out w0 _ (HS.out.later S1.out.below) z1 HZ.out).mono ?_
  rintro e w2 ⟨bo, c, qs, rfl, hqs, k2⟩
  have s2 := (S1.out.join k2).swap.two
  have P2 := s2.head
  have u0 := P2.c 0 _ rfl
  have u1 := P2.c 1 _ rfl
  have f1 := P2.f 1 (by simp)
  have R2 := s2.two.head
  have r0 := R2.c 0 _ rfl
  have r1 := R2.c 1 _ rfl
  have h0 := R2.f 0 (by simp)
  have h1 := R2.f 1 (by simp)
  have S2 : Seal _ := ⟨s2.set 1 (.slice bo s.items.length c) (by simp)⟩
  have hn : w.heap.size ≠ w.heap.size + 1 := by omega
  clear k2 S1 s2 P2 R2
  go_wp2
  refine bodyPost_ret (v := .agg (spoolV s bo c)) (by simp [results, Tryz.results59, go_sem, r0, r1]) rfl ⟨bo, c, qs, rfl, hqs, ?_⟩
  have s4 := (S2.out.two.set 0 (.int .i64 s.last) (by simp)).set 1 (.slice bo s.items.length c) (by simp)
  exact s4.tail.tail
end Go.Proofs.YtcaknjdolfheaaaGreatDoor
namespace Go.Proofs.YtcaknjdolfheaaaGreatDoor
open Go Go.RowKit

section
variable {w : World} {ops : Array Oper} {o : Oper} {a : Act} {K : Act → World → Prop} {Q : Exit → Act → World → Prop} {E : Prop}
/-- 'append' of a row that the call owns, or of none, to one that it owns. -/
theorem step_append_any (hgd : o.guard = none) (s x : Operand) (t : TypeId)
    (ho : o.op = .call { callee := .builtin .append, args := #[s, x], argTypes := #[t, t] })
    (base : Nat) (e : TypeId) (i : TypeInfo) (z : Value) (size bytes : Nat) (ht : Tryz.prog.underlying t = some (.slice e)) (hi : Tryz.prog.info? e = some i) (hz : i.zero = some z)
    (hsize : i.size = size) (hby : i.bytes = bytes) (hzs : z.cells.size = size) (hsz : 0 < size)
    (v : Value) (n : Nat) (xs : List Value) (hs : a.eval s = v) (hown : w.ownsRow base e size v n xs)
    (ao : Option Addr) (m c : Nat) (news : List Value) (hx : a.eval x = .slice ao m c) (hsrc : w.ownsRow 0 e size (.slice ao m c) m news) (h1 : ∀ u ∈ news, u.oneCell' = true)
    (h63 : n + m ≤ maxLen) (hbytes : (n + m) * bytes ≤ 140737488355328) (hbase : base ≤ w.heap.size)
    (h : ∀ v' w', w'.ownsRow base e size v' (n + m) (xs ++ news) → w.grownBy w' v.ownBlock → (v'.ownBlock = v.ownBlock ∨ v'.ownBlock = some w.heap.size) → K (a.put o.dst v') w') :
    if Region.wanted o (yielded ops a.tmps) = true then Oper.wp Tryz.prog o a w K Q else E := by
  have hw : Region.wanted o (yielded ops a.tmps) = true := by simp [Region.wanted, hgd]
  rw [if_pos hw]
  rcases hsrc.2 with ⟨hv, h0⟩ | ⟨g, c', cur, hv, rest⟩
  · simp only [Value.slice.injEq] at hv
    obtain ⟨rfl, rfl, rfl⟩ := hv
    have hn : news = [] := List.eq_nil_of_length_eq_zero (by have := hsrc.1; omega)
    subst hn
    have hrun := run_append_owned_none (P := Tryz.prog) (w := w) base t o.type e i size ht hi v n xs hown
    unfold Oper.wp execOp
    simp only [ho, resolve, invoke, builtin, Sem.run_bind, Sem.run_pure, Result.andThen_ok, List.map_toArray, List.map_cons, List.map_nil, hs, hx, hrun]
    exact h v w (by rw [Nat.add_zero, List.append_nil]; exact hown) ⟨rfl, rfl, rfl, Nat.le_refl _, fun _ _ _ => rfl⟩ (.inl rfl)
  · simp only [Value.slice.injEq, true_and] at hv
    obtain ⟨rfl, rfl⟩ := hv
    obtain ⟨v', w', hr, h2, h3, _, h5⟩ := run_append_own_at (P := Tryz.prog) w base t o.type e i z size bytes ht hi hz hsize hby hzs hsz v n xs hown ⟨g, 0, none⟩ m c news hsrc.1 (own_news hsrc) h1 h63 hbytes hbase
    unfold Oper.wp execOp
    simp only [ho, resolve, invoke, builtin, Sem.run_bind, Sem.run_pure, Result.andThen_ok, List.map_toArray, List.map_cons, List.map_nil, hs, hx, hr]
    exact h v' w' h2 h3 h5
end
theorem World.size_drew' (w : World) : w.drew.heap.size = w.heap.size := rfl

set_option maxHeartbeats 16000000 in
set_option maxRecDepth 100000 in
theorem l5CopyItem_any {X : Nat → Prop} (L : List Res) (x : ItemD) (p : ItemV) (w0 w : World) (h : StX X w0 w L) (hr : ∀ r ∈ itemE.res x p, r ∈ L) (hz : itemN x ≤ 1048576) :
    Calls Tryz.prog 121 #[.agg (itemV x p)] w fun e w' => ∃ q, e = .returned (.agg (itemV x q)) ∧ St w w' (itemE.res x q) := by
  obtain ⟨iA, iAi, iA0, iA1, iA2⟩ := info_parts infoRcpt
  obtain ⟨iB, iBi, iB0, iB1, iB2⟩ := info_parts infoS
  obtain ⟨_, _, z3, _, z5, _⟩ := itemN_parts hz
  have s0 := ((St.start w).alloc (itemV x p) 43).alloc noItem 43
  simp only [World.size_alloc] at s0
  have S0 : Seal _ := ⟨s0⟩
  have HS : Seal _ := ⟨h⟩
  have HRA : Seal (rcptsR p.a1 p.c1 x.rc ∈ L) := ⟨hr _ List.mem_cons_self⟩
  have HRB : Seal (strsR p.a2 p.c2 x.body ∈ L) := ⟨hr _ (List.mem_cons_of_mem _ List.mem_cons_self)⟩
  clear s0 h hr hz
  go_enter Tryz.func121, Tryz.ntmps121
  go_wp2_with fail
  obtain ⟨W, hW⟩ : ∃ W, W = (w.alloc (.cells (itemV x p) 43)).alloc (.cells noItem 43) := ⟨_, rfl⟩
  rw [← hW] at S0 ⊢
  have SN0 : Seal (St w W.drew [Res.cells (w.heap.size + 1) [.int .i64 0, .string { data := #[] }, .string { data := #[] }, .slice none 0 0, .slice none 0 0], Res.cells w.heap.size (itemL x p)]) := ⟨S0.out.drew⟩
  clear S0 hW
  refine wp_region_held_drew (S := (fun w' => w'.cell? ⟨w.heap.size, 0, none⟩ = some (.int .i64 x.id) ∧ w'.cell? ⟨w.heap.size, 1, none⟩ = some (.string x.fu) ∧ w'.cell? ⟨w.heap.size, 2, none⟩ = some (.string x.fd) ∧ w'.cell? ⟨w.heap.size, 3, none⟩ = some (.slice p.a1 x.rc.length p.c1) ∧ w'.cell? ⟨w.heap.size, 4, none⟩ = some (.slice p.a2 x.body.length p.c2) ∧ Below w.heap.size w w')) (by kernel_rfl) ⟨(SN0.out.two.head).c 0 _ rfl, (SN0.out.two.head).c 1 _ rfl, (SN0.out.two.head).c 2 _ rfl, (SN0.out.two.head).c 3 _ rfl, (SN0.out.two.head).c 4 _ rfl, SN0.out.below⟩ (fun hHeld => ?_)
  refine tkH 0 (by assumption) (h := ?_)
  refine tkH 1 (by assumption) (h := ?_)
  refine tkH 2 (by assumption) (h := ?_)
  refine tkH 3 (by assumption) (h := ?_)
  refine tkH 5 (by assumption) (h := ?_)
  refine tkH 6 (by assumption) (h := ?_)
  refine tkH 9 (by assumption) (h := ?_)
  refine tkH 10 (by assumption) (h := ?_)
  refine wpAnyH_ready (rs := [4, 8]) (by kernel_rfl) (by simp) ?_
  refine AllReadyH.cons rfl (fun K hK => ?_) (AllReadyH.cons rfl (fun K hK => ?_) AllReadyH.nil)
  · go_simp
    have sn := SN0.out.made 105 4 #[] 0 (Nat.zero_le _) rfl
    try simp only [World.size_drew'] at sn
    have SN1 : Seal _ := ⟨sn⟩
    clear sn
    refine hK.out _ _ ⟨(SN1.out.three.head).c 0 _ rfl, (SN1.out.three.head).c 1 _ rfl, (SN1.out.three.head).c 2 _ rfl, (SN1.out.three.head).c 3 _ rfl, (SN1.out.three.head).c 4 _ rfl, SN1.out.below⟩ (fun hHeld => ?_)
    clear hK K SN0
    try simp only [Act.put, List.getElem_toArray, List.getElem_cons_succ, List.getElem_cons_zero, List.setIfInBounds_toArray, List.set_cons_zero, List.set_cons_succ]
    refine wpAnyH_ready (rs := [7, 8]) (by kernel_rfl) (by simp) ?_
    refine AllReadyH.cons rfl (fun K hK => ?_) (AllReadyH.cons rfl (fun K hK => ?_) AllReadyH.nil)
    · have SH := SN1.out
      have OW : Seal _ := ⟨SH.head⟩
      have SRC : Seal _ := ⟨(HS.out.later SN1.out.below).get HRA.out⟩
      refine step_append_any rfl _ _ 41 rfl 0 105 iA (.agg #[.string ByteArray.empty, .string ByteArray.empty, .int .i64 0, .int .i64 0]) 4 48 Tryz.underlying41 iAi iA0 iA1 iA2 rfl (by decide) _ 0 [] (by rfl) OW.out p.a1 x.rc.length p.c1 (rcptE.all x.rc (ones x.rc)) (by rfl) SRC.out (rcpts_one _ _) (by unfold maxLen; omega) (by omega) (Nat.zero_le _) ?_
      intro v' w' hown hg hat
      rw [Nat.zero_add, List.nil_append] at hown
      obtain ⟨eA, dA, rfl, _⟩ := row_value hown
      have SN2 : Seal _ := ⟨SH.app hown hg hat⟩
      clear hown hg hat OW SRC SH
      refine hK.out _ _ ⟨(SN2.out.three.head).c 0 _ rfl, (SN2.out.three.head).c 1 _ rfl, (SN2.out.three.head).c 2 _ rfl, (SN2.out.three.head).c 3 _ rfl, (SN2.out.three.head).c 4 _ rfl, SN2.out.below⟩ (fun hHeld => ?_)
      clear hK K SN1
      try simp only [Act.put, List.getElem_toArray, List.getElem_cons_succ, List.getElem_cons_zero, List.setIfInBounds_toArray, List.set_cons_zero, List.set_cons_succ]
      refine wpAnyH_ready (rs := [8]) (by kernel_rfl) (by simp) ?_
      refine AllReadyH.cons rfl (fun K hK => ?_) AllReadyH.nil
      · go_simp
        have sn := SN2.out.made 9 1 #[] 0 (Nat.zero_le _) rfl
        try simp only [World.size_alloc, World.size_drew'] at sn
        have SN3 : Seal _ := ⟨sn⟩
        clear sn
        refine hK.out _ _ ⟨(SN3.out.four.head).c 0 _ rfl, (SN3.out.four.head).c 1 _ rfl, (SN3.out.four.head).c 2 _ rfl, (SN3.out.four.head).c 3 _ rfl, (SN3.out.four.head).c 4 _ rfl, SN3.out.below⟩ (fun hHeld => ?_)
        clear hK K SN2
        try simp only [Act.put, List.getElem_toArray, List.getElem_cons_succ, List.getElem_cons_zero, List.setIfInBounds_toArray, List.set_cons_zero, List.set_cons_succ]
        refine wpAnyH_ready (rs := [11]) (by kernel_rfl) (by simp) ?_
        refine AllReadyH.cons rfl (fun K hK => ?_) AllReadyH.nil
        · have SH := SN3.out
          have OW : Seal _ := ⟨SH.head⟩
          have SRC : Seal _ := ⟨(HS.out.later SN3.out.below).get HRB.out⟩
          refine step_append_any rfl _ _ 29 rfl 0 9 iB (.string ByteArray.empty) 1 16 Tryz.underlying29 iBi iB0 iB1 iB2 rfl (by decide) _ 0 [] (by rfl) OW.out p.a2 x.body.length p.c2 (x.body.map Value.string) (by rfl) SRC.out (strs_one _) (by unfold maxLen; omega) (by omega) (Nat.zero_le _) ?_
          intro v' w' hown hg hat
          rw [Nat.zero_add, List.nil_append] at hown
          obtain ⟨eB, dB, rfl, _⟩ := row_value hown
          have SN4 : Seal _ := ⟨SH.app hown hg hat⟩
          clear hown hg hat OW SRC SH
          refine hK.out _ _ ⟨(SN4.out.four.head).c 0 _ rfl, (SN4.out.four.head).c 1 _ rfl, (SN4.out.four.head).c 2 _ rfl, (SN4.out.four.head).c 3 _ rfl, (SN4.out.four.head).c 4 _ rfl, SN4.out.below⟩ (fun hHeld => ?_)
          clear hK K SN3
          try simp only [Act.put, List.getElem_toArray, List.getElem_cons_succ, List.getElem_cons_zero, List.setIfInBounds_toArray, List.set_cons_zero, List.set_cons_succ]
          refine tkH 12 (by assumption) (h := ?_)
          have SR4 := SN4.out.three
          have r0 := SR4.head.c 0 _ rfl
          have fr0 := SR4.head.f 0 (by simp)
          have r1 := SR4.head.c 1 _ rfl
          have fr1 := SR4.head.f 1 (by simp)
          have r2 := SR4.head.c 2 _ rfl
          have fr2 := SR4.head.f 2 (by simp)
          have r3 := SR4.head.c 3 _ rfl
          have fr3 := SR4.head.f 3 (by simp)
          have r4 := SR4.head.c 4 _ rfl
          have fr4 := SR4.head.f 4 (by simp)
          refine wpAnyH_ready (rs := [13]) (by kernel_rfl) (by simp) ?_
          refine AllReadyH.cons rfl (fun K hK => ?_) AllReadyH.nil
          go_simp
          have SF : Seal _ := ⟨(((((SR4.set 0 (.int .i64 x.id) (by simp)).set 1 (.string x.fu) (by simp)).set 2 (.string x.fd) (by simp)).set 3 (.slice eA x.rc.length dA) (by simp)).set 4 (.slice eB x.body.length dB) (by simp))⟩
          refine hK.out _ _ ⟨(SF.out.four.head).c 0 _ rfl, (SF.out.four.head).c 1 _ rfl, (SF.out.four.head).c 2 _ rfl, (SF.out.four.head).c 3 _ rfl, (SF.out.four.head).c 4 _ rfl, SF.out.below⟩ (fun _ => ?_)
          clear hK K
          refine wpAnyH_done (by kernel_rfl) ?_ _
          have t0 := SF.out.head.c 0 _ rfl
          have t1 := SF.out.head.c 1 _ rfl
          have t2 := SF.out.head.c 2 _ rfl
          have t3 := SF.out.head.c 3 _ rfl
          have t4 := SF.out.head.c 4 _ rfl
          clear SR4 SN4 r0 fr0 r1 fr1 r2 fr2 r3 fr3 r4 fr4
          go_wp2
          exact bodyPost_ret (v := .agg (itemV x ⟨eA, dA, eB, dB⟩)) (by simp [results, Tryz.results121, go_sem, t0, t1, t2, t3, t4]) rfl ⟨⟨eA, dA, eB, dB⟩, rfl, (SF.out.tail.two).first (l := itemE.res x ⟨eA, dA, eB, dB⟩)⟩
    · go_simp
      have sn := SN1.out.made 9 1 #[] 0 (Nat.zero_le _) rfl
      try simp only [World.size_alloc, World.size_drew'] at sn
      have SN2 : Seal _ := ⟨sn⟩
      clear sn
      refine hK.out _ _ ⟨(SN2.out.four.head).c 0 _ rfl, (SN2.out.four.head).c 1 _ rfl, (SN2.out.four.head).c 2 _ rfl, (SN2.out.four.head).c 3 _ rfl, (SN2.out.four.head).c 4 _ rfl, SN2.out.below⟩ (fun hHeld => ?_)
      clear hK K SN1
      try simp only [Act.put, List.getElem_toArray, List.getElem_cons_succ, List.getElem_cons_zero, List.setIfInBounds_toArray, List.set_cons_zero, List.set_cons_succ]
      refine wpAnyH_ready (rs := [7]) (by kernel_rfl) (by simp) ?_
      refine AllReadyH.cons rfl (fun K hK => ?_) AllReadyH.nil
      · have SH := SN2.out.two
        have OW : Seal _ := ⟨SH.head⟩
        have SRC : Seal _ := ⟨(HS.out.later SN2.out.below).get HRA.out⟩
        refine step_append_any rfl _ _ 41 rfl 0 105 iA (.agg #[.string ByteArray.empty, .string ByteArray.empty, .int .i64 0, .int .i64 0]) 4 48 Tryz.underlying41 iAi iA0 iA1 iA2 rfl (by decide) _ 0 [] (by rfl) OW.out p.a1 x.rc.length p.c1 (rcptE.all x.rc (ones x.rc)) (by rfl) SRC.out (rcpts_one _ _) (by unfold maxLen; omega) (by omega) (Nat.zero_le _) ?_
        intro v' w' hown hg hat
        rw [Nat.zero_add, List.nil_append] at hown
        obtain ⟨eA, dA, rfl, _⟩ := row_value hown
        have SN3 : Seal _ := ⟨SH.app hown hg hat⟩
        clear hown hg hat OW SRC SH
        refine hK.out _ _ ⟨(SN3.out.four.head).c 0 _ rfl, (SN3.out.four.head).c 1 _ rfl, (SN3.out.four.head).c 2 _ rfl, (SN3.out.four.head).c 3 _ rfl, (SN3.out.four.head).c 4 _ rfl, SN3.out.below⟩ (fun hHeld => ?_)
        clear hK K SN2
        try simp only [Act.put, List.getElem_toArray, List.getElem_cons_succ, List.getElem_cons_zero, List.setIfInBounds_toArray, List.set_cons_zero, List.set_cons_succ]
        refine wpAnyH_ready (rs := [11]) (by kernel_rfl) (by simp) ?_
        refine AllReadyH.cons rfl (fun K hK => ?_) AllReadyH.nil
        · have SH := SN3.out.two
          have OW : Seal _ := ⟨SH.head⟩
          have SRC : Seal _ := ⟨(HS.out.later SN3.out.below).get HRB.out⟩
          refine step_append_any rfl _ _ 29 rfl 0 9 iB (.string ByteArray.empty) 1 16 Tryz.underlying29 iBi iB0 iB1 iB2 rfl (by decide) _ 0 [] (by rfl) OW.out p.a2 x.body.length p.c2 (x.body.map Value.string) (by rfl) SRC.out (strs_one _) (by unfold maxLen; omega) (by omega) (Nat.zero_le _) ?_
          intro v' w' hown hg hat
          rw [Nat.zero_add, List.nil_append] at hown
          obtain ⟨eB, dB, rfl, _⟩ := row_value hown
          have SN4 : Seal _ := ⟨SH.app hown hg hat⟩
          clear hown hg hat OW SRC SH
          refine hK.out _ _ ⟨(SN4.out.four.head).c 0 _ rfl, (SN4.out.four.head).c 1 _ rfl, (SN4.out.four.head).c 2 _ rfl, (SN4.out.four.head).c 3 _ rfl, (SN4.out.four.head).c 4 _ rfl, SN4.out.below⟩ (fun hHeld => ?_)
          clear hK K SN3
          try simp only [Act.put, List.getElem_toArray, List.getElem_cons_succ, List.getElem_cons_zero, List.setIfInBounds_toArray, List.set_cons_zero, List.set_cons_succ]
          refine tkH 12 (by assumption) (h := ?_)
          have SR4 := SN4.out.three
          have r0 := SR4.head.c 0 _ rfl
          have fr0 := SR4.head.f 0 (by simp)
          have r1 := SR4.head.c 1 _ rfl
          have fr1 := SR4.head.f 1 (by simp)
          have r2 := SR4.head.c 2 _ rfl
          have fr2 := SR4.head.f 2 (by simp)
          have r3 := SR4.head.c 3 _ rfl
          have fr3 := SR4.head.f 3 (by simp)
          have r4 := SR4.head.c 4 _ rfl
          have fr4 := SR4.head.f 4 (by simp)
          refine wpAnyH_ready (rs := [13]) (by kernel_rfl) (by simp) ?_
          refine AllReadyH.cons rfl (fun K hK => ?_) AllReadyH.nil
          go_simp
          have SF : Seal _ := ⟨(((((SR4.set 0 (.int .i64 x.id) (by simp)).set 1 (.string x.fu) (by simp)).set 2 (.string x.fd) (by simp)).set 3 (.slice eA x.rc.length dA) (by simp)).set 4 (.slice eB x.body.length dB) (by simp))⟩
          refine hK.out _ _ ⟨(SF.out.four.head).c 0 _ rfl, (SF.out.four.head).c 1 _ rfl, (SF.out.four.head).c 2 _ rfl, (SF.out.four.head).c 3 _ rfl, (SF.out.four.head).c 4 _ rfl, SF.out.below⟩ (fun _ => ?_)
          clear hK K
          refine wpAnyH_done (by kernel_rfl) ?_ _
          have t0 := SF.out.head.c 0 _ rfl
          have t1 := SF.out.head.c 1 _ rfl
          have t2 := SF.out.head.c 2 _ rfl
          have t3 := SF.out.head.c 3 _ rfl
          have t4 := SF.out.head.c 4 _ rfl
          clear SR4 SN4 r0 fr0 r1 fr1 r2 fr2 r3 fr3 r4 fr4
          go_wp2
          exact bodyPost_ret (v := .agg (itemV x ⟨eA, dA, eB, dB⟩)) (by simp [results, Tryz.results121, go_sem, t0, t1, t2, t3, t4]) rfl ⟨⟨eA, dA, eB, dB⟩, rfl, (SF.out.tail.two).first (l := itemE.res x ⟨eA, dA, eB, dB⟩)⟩
  · go_simp
    have sn := SN0.out.made 9 1 #[] 0 (Nat.zero_le _) rfl
    try simp only [World.size_drew'] at sn
    have SN1 : Seal _ := ⟨sn⟩
    clear sn
    refine hK.out _ _ ⟨(SN1.out.three.head).c 0 _ rfl, (SN1.out.three.head).c 1 _ rfl, (SN1.out.three.head).c 2 _ rfl, (SN1.out.three.head).c 3 _ rfl, (SN1.out.three.head).c 4 _ rfl, SN1.out.below⟩ (fun hHeld => ?_)
    clear hK K SN0
    try simp only [Act.put, List.getElem_toArray, List.getElem_cons_succ, List.getElem_cons_zero, List.setIfInBounds_toArray, List.set_cons_zero, List.set_cons_succ]
    refine wpAnyH_ready (rs := [4]) (by kernel_rfl) (by simp) ?_
    refine AllReadyH.cons rfl (fun K hK => ?_) AllReadyH.nil
    · go_simp
      have sn := SN1.out.made 105 4 #[] 0 (Nat.zero_le _) rfl
      try simp only [World.size_alloc, World.size_drew'] at sn
      have SN2 : Seal _ := ⟨sn⟩
      clear sn
      refine hK.out _ _ ⟨(SN2.out.four.head).c 0 _ rfl, (SN2.out.four.head).c 1 _ rfl, (SN2.out.four.head).c 2 _ rfl, (SN2.out.four.head).c 3 _ rfl, (SN2.out.four.head).c 4 _ rfl, SN2.out.below⟩ (fun hHeld => ?_)
      clear hK K SN1
      try simp only [Act.put, List.getElem_toArray, List.getElem_cons_succ, List.getElem_cons_zero, List.setIfInBounds_toArray, List.set_cons_zero, List.set_cons_succ]
      refine wpAnyH_ready (rs := [7]) (by kernel_rfl) (by simp) ?_
      refine AllReadyH.cons rfl (fun K hK => ?_) AllReadyH.nil
      · have SH := SN2.out
        have OW : Seal _ := ⟨SH.head⟩
        have SRC : Seal _ := ⟨(HS.out.later SN2.out.below).get HRA.out⟩
        refine step_append_any rfl _ _ 41 rfl 0 105 iA (.agg #[.string ByteArray.empty, .string ByteArray.empty, .int .i64 0, .int .i64 0]) 4 48 Tryz.underlying41 iAi iA0 iA1 iA2 rfl (by decide) _ 0 [] (by rfl) OW.out p.a1 x.rc.length p.c1 (rcptE.all x.rc (ones x.rc)) (by rfl) SRC.out (rcpts_one _ _) (by unfold maxLen; omega) (by omega) (Nat.zero_le _) ?_
        intro v' w' hown hg hat
        rw [Nat.zero_add, List.nil_append] at hown
        obtain ⟨eA, dA, rfl, _⟩ := row_value hown
        have SN3 : Seal _ := ⟨SH.app hown hg hat⟩
        clear hown hg hat OW SRC SH
        refine hK.out _ _ ⟨(SN3.out.four.head).c 0 _ rfl, (SN3.out.four.head).c 1 _ rfl, (SN3.out.four.head).c 2 _ rfl, (SN3.out.four.head).c 3 _ rfl, (SN3.out.four.head).c 4 _ rfl, SN3.out.below⟩ (fun hHeld => ?_)
        clear hK K SN2
        try simp only [Act.put, List.getElem_toArray, List.getElem_cons_succ, List.getElem_cons_zero, List.setIfInBounds_toArray, List.set_cons_zero, List.set_cons_succ]
        refine wpAnyH_ready (rs := [11]) (by kernel_rfl) (by simp) ?_
        refine AllReadyH.cons rfl (fun K hK => ?_) AllReadyH.nil
        · have SH := SN3.out.two
          have OW : Seal _ := ⟨SH.head⟩
          have SRC : Seal _ := ⟨(HS.out.later SN3.out.below).get HRB.out⟩
          refine step_append_any rfl _ _ 29 rfl 0 9 iB (.string ByteArray.empty) 1 16 Tryz.underlying29 iBi iB0 iB1 iB2 rfl (by decide) _ 0 [] (by rfl) OW.out p.a2 x.body.length p.c2 (x.body.map Value.string) (by rfl) SRC.out (strs_one _) (by unfold maxLen; omega) (by omega) (Nat.zero_le _) ?_
          intro v' w' hown hg hat
          rw [Nat.zero_add, List.nil_append] at hown
          obtain ⟨eB, dB, rfl, _⟩ := row_value hown
          have SN4 : Seal _ := ⟨SH.app hown hg hat⟩
          clear hown hg hat OW SRC SH
          refine hK.out _ _ ⟨(SN4.out.four.head).c 0 _ rfl, (SN4.out.four.head).c 1 _ rfl, (SN4.out.four.head).c 2 _ rfl, (SN4.out.four.head).c 3 _ rfl, (SN4.out.four.head).c 4 _ rfl, SN4.out.below⟩ (fun hHeld => ?_)
          clear hK K SN3
          try simp only [Act.put, List.getElem_toArray, List.getElem_cons_succ, List.getElem_cons_zero, List.setIfInBounds_toArray, List.set_cons_zero, List.set_cons_succ]
          refine tkH 12 (by assumption) (h := ?_)
          have SR4 := SN4.out.three
          have r0 := SR4.head.c 0 _ rfl
          have fr0 := SR4.head.f 0 (by simp)
          have r1 := SR4.head.c 1 _ rfl
          have fr1 := SR4.head.f 1 (by simp)
          have r2 := SR4.head.c 2 _ rfl
          have fr2 := SR4.head.f 2 (by simp)
          have r3 := SR4.head.c 3 _ rfl
          have fr3 := SR4.head.f 3 (by simp)
          have r4 := SR4.head.c 4 _ rfl
          have fr4 := SR4.head.f 4 (by simp)
          refine wpAnyH_ready (rs := [13]) (by kernel_rfl) (by simp) ?_
          refine AllReadyH.cons rfl (fun K hK => ?_) AllReadyH.nil
          go_simp
          have SF : Seal _ := ⟨(((((SR4.set 0 (.int .i64 x.id) (by simp)).set 1 (.string x.fu) (by simp)).set 2 (.string x.fd) (by simp)).set 3 (.slice eA x.rc.length dA) (by simp)).set 4 (.slice eB x.body.length dB) (by simp))⟩
          refine hK.out _ _ ⟨(SF.out.four.head).c 0 _ rfl, (SF.out.four.head).c 1 _ rfl, (SF.out.four.head).c 2 _ rfl, (SF.out.four.head).c 3 _ rfl, (SF.out.four.head).c 4 _ rfl, SF.out.below⟩ (fun _ => ?_)
          clear hK K
          refine wpAnyH_done (by kernel_rfl) ?_ _
          have t0 := SF.out.head.c 0 _ rfl
          have t1 := SF.out.head.c 1 _ rfl
          have t2 := SF.out.head.c 2 _ rfl
          have t3 := SF.out.head.c 3 _ rfl
          have t4 := SF.out.head.c 4 _ rfl
          clear SR4 SN4 r0 fr0 r1 fr1 r2 fr2 r3 fr3 r4 fr4
          go_wp2
          exact bodyPost_ret (v := .agg (itemV x ⟨eA, dA, eB, dB⟩)) (by simp [results, Tryz.results121, go_sem, t0, t1, t2, t3, t4]) rfl ⟨⟨eA, dA, eB, dB⟩, rfl, (SF.out.tail.two).first (l := itemE.res x ⟨eA, dA, eB, dB⟩)⟩
end Go.Proofs.YtcaknjdolfheaaaGreatDoor
namespace Go.Proofs.YtcaknjdolfheaaaGreatDoor
open Go Go.RowKit

theorem item_own (w : World) (x : ItemD) (q : ItemV) : (w.alloc (.cells (itemV x q) 43)).ownsRow 0 43 5 (.slice (some ⟨w.heap.size, 0, none⟩) 1 1) 1 (itemL x q) :=
  ⟨rfl, .inr ⟨w.heap.size, 1, itemV x q, rfl, Nat.zero_le _, heap_alloc_new w _, Nat.le_refl _, by unfold maxLen; omega, rfl, rfl⟩⟩
/-- The parts of a copy that is under way: k items. -/
abbrev copyL (b : Nat) (s : SpoolD) (ao : Option Addr) (cap : Nat) (v : Value) (k : Nat) (qs : List ItemV) : List Res :=
  Res.row 43 5 v k (itemE.all (s.items.take k) qs) :: Res.cells (b + 1 + 1) [.int .i64 s.last, v] :: Res.cells b (spoolL s ao cap) :: Res.cells (b + 1) [.int .i64 0, .slice none 0 0] :: itemE.ress (s.items.take k) qs
theorem copyNext {b : Nat} {s : SpoolD} {ao : Option Addr} {cap : Nat} {v v' : Value} {k : Nat} {qs : List ItemV} {x : ItemD} {q : ItemV} {w0 w : World} (hx : s.items[k]? = some x) (hq : qs.length = k)
    (h : St w0 w (Res.cells (b + 1 + 1) ([.int .i64 s.last, v].set 1 v') :: Res.row 43 5 v' (k + 1) (itemE.all (s.items.take k) qs ++ itemL x q) :: (itemE.res x q ++ (Res.cells b (spoolL s ao cap) :: Res.cells (b + 1) [.int .i64 0, .slice none 0 0] :: itemE.ress (s.items.take k) qs)))) : St w0 w (copyL b s ao cap v' (k + 1) (qs ++ [q])) := by
  obtain ⟨hk, e1⟩ := List.getElem?_eq_some_iff.1 hx
  have ht : qs.length = (s.items.take k).length := by rw [List.length_take, hq]; omega
  unfold copyL
  rw [List.take_succ_eq_append_getElem hk, e1, itemE.all_snoc ht, itemE.ress_snoc ht]
  refine h.two.perm (List.Perm.cons _ (List.Perm.cons _ ?_))
  refine (List.perm_append_comm (l₁ := itemE.res x q)).trans ?_
  exact List.Perm.refl _

set_option maxHeartbeats 16000000 in
set_option maxRecDepth 100000 in
theorem l5Copy_any {X : Nat → Prop} (l : List Res) (s : SpoolD) (ao : Option Addr) (cap : Nat) (ps : List ItemV) (hl : ps.length = s.items.length) (w0 w : World) (h : StX X w0 w (itemsR ao cap s.items ps ++ l)) (hz : spoolN s ≤ 1048576) :
    Calls Tryz.prog 64 #[.agg (spoolV s ao cap)] w fun e w' => ∃ bo c qs, e = .returned (.agg (spoolV s bo c)) ∧ qs.length = s.items.length ∧ St w w' (itemsR bo c s.items qs) := by
  obtain ⟨i0, hi, hz0, hz1, hz2⟩ := info_parts infoItem
  obtain ⟨z1, z2⟩ := spoolN_parts hz
  have s0 := ((((St.start w).alloc (spoolV s ao cap) 25).alloc #[.int .i64 0, .slice none 0 0] 25).alloc #[.int .i64 s.last, .slice none 0 0] 25).nothing 43 5
  simp only [World.size_alloc] at s0
  have S0 : Seal (St w _ (copyL w.heap.size s ao cap (.slice none 0 0) 0 [])) := ⟨s0.perm (List.Perm.cons _ (List.Perm.cons _ (List.Perm.swap _ _ _)))⟩
  have HS : Seal _ := ⟨h⟩
  have HL : Seal _ := ⟨hl⟩
  have HZ : Seal _ := ⟨z2⟩
  clear s0 h hl hz z2
  go_enter Tryz.func64, Tryz.ntmps64
  go_wp2
  go_loopw [4] (fun i wr => ∃ (k : Nat) (qs : List ItemV) (v : Value), k ≤ s.items.length ∧ i = .int .i64 k ∧ qs.length = k ∧ Seal (St w wr (copyL w.heap.size s ao cap v k qs))) (fun i _ => s.items.length - (intOf i).toNat)
  case atStart => exact ⟨0, [], _, Nat.zero_le _, rfl, rfl, S0⟩
  case round =>
    obtain ⟨k, qs, v, hk, rfl, hqs, S⟩ := hrel
    clear S0
    have g1 := S.out.three.head.c 1 _ rfl
    by_cases hlt : k < s.items.length
    · obtain ⟨x, hx⟩ : ∃ x, s.items[k]? = some x := ⟨_, List.getElem?_eq_getElem hlt⟩
      obtain ⟨p, hp⟩ : ∃ p, ps[k]? = some p := ⟨_, List.getElem?_eq_getElem (by rw [HL.out]; exact hlt)⟩
      have SD : Seal _ := ⟨S.out.drew⟩
      obtain ⟨g, rfl, c0, c1, c2, c3, c4⟩ := itemCells (HS.out.later SD.out.below) hx hp
      have HX : Seal _ := ⟨hx⟩
      have HQ : Seal _ := ⟨hqs⟩
      have CC : Seal _ := ⟨l5CopyItem_any _ x p w0 _ (HS.out.later SD.out.below) (fun r hr => List.mem_append_left _ (List.mem_cons_of_mem _ (itemE.mem_ress hx hp hr))) (HZ.out x (List.mem_of_getElem? hx))⟩
      have h1 := SD.out.three.head.c 1 _ rfl
      have o0 := SD.out.two.head.c 1 _ rfl
      clear hx hp hqs S
      go_wp2_with fail
      refine wp_region_any (by kernel_rfl) ?_
      try (change wpAny _ _ _ _ _ _ _ (World.drew _))
      (refine wpAny_take (i := 0) (v := ?_) rfl (by kernel_rfl) (by kernel_rfl) (by kernel_rfl) (fun _ _ _ h => h) (Or.inl ⟨by rfl, ?_⟩) ?_; rotate_left; (intro w; go_simp; first | done | with_reducible rfl); rotate_left; simp only [Act.put, List.getElem_toArray, List.getElem_cons_zero, List.setIfInBounds_toArray, List.set_cons_succ, List.set_cons_zero])
      (refine wpAny_take (i := 2) (v := ?_) rfl (by kernel_rfl) (by kernel_rfl) (by kernel_rfl) (fun _ _ _ h => h) (Or.inl ⟨by rfl, ?_⟩) ?_; rotate_left; (intro w; go_simp; first | done | with_reducible rfl); rotate_left; simp only [Act.put, List.getElem_toArray, List.getElem_cons_succ, List.getElem_cons_zero, List.setIfInBounds_toArray, List.set_cons_succ, List.set_cons_zero])
      (refine wpAny_take (i := 4) (v := ?_) rfl (by kernel_rfl) (by kernel_rfl) (by kernel_rfl) (fun _ _ _ h => h) (Or.inl ⟨by rfl, ?_⟩) ?_; rotate_left; (intro w; go_simp; first | done | with_reducible rfl); rotate_left; simp only [Act.put, List.getElem_toArray, List.getElem_cons_succ, List.getElem_cons_zero, List.setIfInBounds_toArray, List.set_cons_succ, List.set_cons_zero])
      refine wpAny_ready (rs := [1, 3]) (by kernel_rfl) (by simp) ?_
      refine AllReady.cons rfl (fun K hK => ?_) (AllReady.cons rfl (fun K hK => ?_) AllReady.nil)
      · go_simp
        refine hK _ _ ?_
        clear hK K
        try simp only [Act.put, List.getElem_toArray, List.getElem_cons_succ, List.getElem_cons_zero, List.setIfInBounds_toArray, List.set_cons_zero, List.set_cons_succ]
        refine wpAny_ready (rs := [3]) (by kernel_rfl) (by simp) ?_
        refine AllReady.cons rfl (fun K hK => ?_) AllReady.nil
        · go_simp
          refine hK _ _ ?_
          clear hK K
          try simp only [Act.put, List.getElem_toArray, List.getElem_cons_succ, List.getElem_cons_zero, List.setIfInBounds_toArray, List.set_cons_zero, List.set_cons_succ]
          (refine wpAny_take (i := 5) (v := ?_) rfl (by kernel_rfl) (by kernel_rfl) (by kernel_rfl) (fun _ _ _ h => h) (Or.inl ⟨by rfl, ?_⟩) ?_; rotate_left; (intro w; go_simp; first | done | with_reducible rfl); rotate_left; simp only [Act.put, List.getElem_toArray, List.getElem_cons_succ, List.getElem_cons_zero, List.setIfInBounds_toArray, List.set_cons_succ, List.set_cons_zero])
          refine wpAny_ready (rs := [6]) (by kernel_rfl) (by simp) ?_
          refine AllReady.cons rfl (fun K hK => ?_) AllReady.nil
          · go_simp
            refine hK _ _ ?_
            clear hK K
            try simp only [Act.put, List.getElem_toArray, List.getElem_cons_succ, List.getElem_cons_zero, List.setIfInBounds_toArray, List.set_cons_zero, List.set_cons_succ]
            refine wpAny_ready (rs := [7]) (by kernel_rfl) (by simp) ?_
            refine AllReady.cons rfl (fun K hK => ?_) AllReady.nil
            · go_simp
              refine CC.out.mono ?_
              rintro e w2 ⟨q, rfl, k2⟩
              have SC : Seal _ := ⟨SD.out.join k2⟩
              have SO := (SC.out.perm List.perm_middle).four.head
              have o1 := SO.c 1 _ rfl
              have lo := SO.lt
              clear SO k2
              refine hK _ _ ?_
              clear hK K
              try simp only [Act.put, List.getElem_toArray, List.getElem_cons_succ, List.getElem_cons_zero, List.setIfInBounds_toArray, List.set_cons_zero, List.set_cons_succ]
              refine wpAny_ready (rs := [8]) (by kernel_rfl) (by simp) ?_
              refine AllReady.cons rfl (fun K hK => ?_) AllReady.nil
              · go_simp
                have SB : Seal _ := ⟨SC.out.more (.cells (itemV x q) 43)⟩
                have SO := (SB.out.perm List.perm_middle).four.head
                have b1 := SO.c 1 _ rfl
                clear SO
                refine hK _ _ ?_
                clear hK K
                try simp only [Act.put, List.getElem_toArray, List.getElem_cons_succ, List.getElem_cons_zero, List.setIfInBounds_toArray, List.set_cons_zero, List.set_cons_succ]
                refine wpAny_ready (rs := [9]) (by kernel_rfl) (by simp) ?_
                refine AllReady.cons rfl (fun K hK => ?_) AllReady.nil
                · have SH : Seal _ := ⟨SB.out.perm List.perm_middle⟩
                  have OW : Seal _ := ⟨SH.out.head⟩
                  refine step_append_any rfl _ _ 23 rfl 0 43 i0 (.agg #[.int .i64 0, .string ByteArray.empty, .string ByteArray.empty, .slice none 0 0, .slice none 0 0]) 5 88 Tryz.underlying23 hi hz0 hz1 hz2 rfl (by decide) _ k _ (by rfl) OW.out (some ⟨w2.heap.size, 0, none⟩) 1 1 (itemL x q) (by rfl) (item_own w2 x q) (items_one _ _) (by unfold maxLen; omega) (by omega) (Nat.zero_le _) ?_
                  intro v' w3 hown hg hat
                  have SA : Seal _ := ⟨SH.out.app hown hg hat⟩
                  obtain ⟨bo', c', rfl, _⟩ := row_value SA.out.head
                  have SO := SA.out.four.head
                  have a1 := SO.c 1 _ rfl
                  have fa1 := SO.f 1 (by simp)
                  clear SO hown hg hat OW SH
                  refine hK _ _ ?_
                  clear hK K
                  try simp only [Act.put, List.getElem_toArray, List.getElem_cons_succ, List.getElem_cons_zero, List.setIfInBounds_toArray, List.set_cons_zero, List.set_cons_succ]
                  (refine wpAny_take (i := 10) (v := ?_) rfl (by kernel_rfl) (by kernel_rfl) (by kernel_rfl) (fun _ _ _ h => h) (Or.inl ⟨by rfl, ?_⟩) ?_; rotate_left; (intro w; go_simp; first | done | with_reducible rfl); rotate_left; simp only [Act.put, List.getElem_toArray, List.getElem_cons_succ, List.getElem_cons_zero, List.setIfInBounds_toArray, List.set_cons_succ, List.set_cons_zero])
                  refine wpAny_ready (rs := [11]) (by kernel_rfl) (by simp) ?_
                  refine AllReady.cons rfl (fun K hK => ?_) AllReady.nil
                  go_simp
                  refine hK _ _ ?_
                  clear hK K
                  try simp only [Act.put, List.getElem_toArray, List.getElem_cons_succ, List.getElem_cons_zero, List.setIfInBounds_toArray, List.set_cons_zero, List.set_cons_succ]
                  refine wpAny_done (by kernel_rfl) ?_ _
                  have SF : Seal _ := ⟨SA.out.four.set 1 (.slice bo' (k + 1) c') (by simp)⟩
                  have SZ : Seal _ := ⟨copyNext HX.out HQ.out SF.out⟩
                  clear SA SF SB SC
                  go_wp2
                  go_roundw
                  case rel => exact ⟨k + 1, qs ++ [q], _, by omega, by go_num, by simp [HQ.out], SZ⟩
                  case measure => simp [intOf]; omega
      · go_simp
        refine hK _ _ ?_
        clear hK K
        try simp only [Act.put, List.getElem_toArray, List.getElem_cons_succ, List.getElem_cons_zero, List.setIfInBounds_toArray, List.set_cons_zero, List.set_cons_succ]
        (refine wpAny_take (i := 5) (v := ?_) rfl (by kernel_rfl) (by kernel_rfl) (by kernel_rfl) (fun _ _ _ h => h) (Or.inl ⟨by rfl, ?_⟩) ?_; rotate_left; (intro w; go_simp; first | done | with_reducible rfl); rotate_left; simp only [Act.put, List.getElem_toArray, List.getElem_cons_succ, List.getElem_cons_zero, List.setIfInBounds_toArray, List.set_cons_succ, List.set_cons_zero])
        refine wpAny_ready (rs := [1, 6]) (by kernel_rfl) (by simp) ?_
        refine AllReady.cons rfl (fun K hK => ?_) (AllReady.cons rfl (fun K hK => ?_) AllReady.nil)
        · go_simp
          refine hK _ _ ?_
          clear hK K
          try simp only [Act.put, List.getElem_toArray, List.getElem_cons_succ, List.getElem_cons_zero, List.setIfInBounds_toArray, List.set_cons_zero, List.set_cons_succ]
          refine wpAny_ready (rs := [6]) (by kernel_rfl) (by simp) ?_
          refine AllReady.cons rfl (fun K hK => ?_) AllReady.nil
          · go_simp
            refine hK _ _ ?_
            clear hK K
            try simp only [Act.put, List.getElem_toArray, List.getElem_cons_succ, List.getElem_cons_zero, List.setIfInBounds_toArray, List.set_cons_zero, List.set_cons_succ]
            refine wpAny_ready (rs := [7]) (by kernel_rfl) (by simp) ?_
            refine AllReady.cons rfl (fun K hK => ?_) AllReady.nil
            · go_simp
              refine CC.out.mono ?_
              rintro e w2 ⟨q, rfl, k2⟩
              have SC : Seal _ := ⟨SD.out.join k2⟩
              have SO := (SC.out.perm List.perm_middle).four.head
              have o1 := SO.c 1 _ rfl
              have lo := SO.lt
              clear SO k2
              refine hK _ _ ?_
              clear hK K
              try simp only [Act.put, List.getElem_toArray, List.getElem_cons_succ, List.getElem_cons_zero, List.setIfInBounds_toArray, List.set_cons_zero, List.set_cons_succ]
              refine wpAny_ready (rs := [8]) (by kernel_rfl) (by simp) ?_
              refine AllReady.cons rfl (fun K hK => ?_) AllReady.nil
              · go_simp
                have SB : Seal _ := ⟨SC.out.more (.cells (itemV x q) 43)⟩
                have SO := (SB.out.perm List.perm_middle).four.head
                have b1 := SO.c 1 _ rfl
                clear SO
                refine hK _ _ ?_
                clear hK K
                try simp only [Act.put, List.getElem_toArray, List.getElem_cons_succ, List.getElem_cons_zero, List.setIfInBounds_toArray, List.set_cons_zero, List.set_cons_succ]
                refine wpAny_ready (rs := [9]) (by kernel_rfl) (by simp) ?_
                refine AllReady.cons rfl (fun K hK => ?_) AllReady.nil
                · have SH : Seal _ := ⟨SB.out.perm List.perm_middle⟩
                  have OW : Seal _ := ⟨SH.out.head⟩
                  refine step_append_any rfl _ _ 23 rfl 0 43 i0 (.agg #[.int .i64 0, .string ByteArray.empty, .string ByteArray.empty, .slice none 0 0, .slice none 0 0]) 5 88 Tryz.underlying23 hi hz0 hz1 hz2 rfl (by decide) _ k _ (by rfl) OW.out (some ⟨w2.heap.size, 0, none⟩) 1 1 (itemL x q) (by rfl) (item_own w2 x q) (items_one _ _) (by unfold maxLen; omega) (by omega) (Nat.zero_le _) ?_
                  intro v' w3 hown hg hat
                  have SA : Seal _ := ⟨SH.out.app hown hg hat⟩
                  obtain ⟨bo', c', rfl, _⟩ := row_value SA.out.head
                  have SO := SA.out.four.head
                  have a1 := SO.c 1 _ rfl
                  have fa1 := SO.f 1 (by simp)
                  clear SO hown hg hat OW SH
                  refine hK _ _ ?_
                  clear hK K
                  try simp only [Act.put, List.getElem_toArray, List.getElem_cons_succ, List.getElem_cons_zero, List.setIfInBounds_toArray, List.set_cons_zero, List.set_cons_succ]
                  (refine wpAny_take (i := 10) (v := ?_) rfl (by kernel_rfl) (by kernel_rfl) (by kernel_rfl) (fun _ _ _ h => h) (Or.inl ⟨by rfl, ?_⟩) ?_; rotate_left; (intro w; go_simp; first | done | with_reducible rfl); rotate_left; simp only [Act.put, List.getElem_toArray, List.getElem_cons_succ, List.getElem_cons_zero, List.setIfInBounds_toArray, List.set_cons_succ, List.set_cons_zero])
                  refine wpAny_ready (rs := [11]) (by kernel_rfl) (by simp) ?_
                  refine AllReady.cons rfl (fun K hK => ?_) AllReady.nil
                  go_simp
                  refine hK _ _ ?_
                  clear hK K
                  try simp only [Act.put, List.getElem_toArray, List.getElem_cons_succ, List.getElem_cons_zero, List.setIfInBounds_toArray, List.set_cons_zero, List.set_cons_succ]
                  refine wpAny_done (by kernel_rfl) ?_ _
                  have SF : Seal _ := ⟨SA.out.four.set 1 (.slice bo' (k + 1) c') (by simp)⟩
                  have SZ : Seal _ := ⟨copyNext HX.out HQ.out SF.out⟩
                  clear SA SF SB SC
                  go_wp2
                  go_roundw
                  case rel => exact ⟨k + 1, qs ++ [q], _, by omega, by go_num, by simp [HQ.out], SZ⟩
                  case measure => simp [intOf]; omega
        · go_simp
          refine hK _ _ ?_
          clear hK K
          try simp only [Act.put, List.getElem_toArray, List.getElem_cons_succ, List.getElem_cons_zero, List.setIfInBounds_toArray, List.set_cons_zero, List.set_cons_succ]
          refine wpAny_ready (rs := [1, 7]) (by kernel_rfl) (by simp) ?_
          refine AllReady.cons rfl (fun K hK => ?_) (AllReady.cons rfl (fun K hK => ?_) AllReady.nil)
          · go_simp
            refine hK _ _ ?_
            clear hK K
            try simp only [Act.put, List.getElem_toArray, List.getElem_cons_succ, List.getElem_cons_zero, List.setIfInBounds_toArray, List.set_cons_zero, List.set_cons_succ]
            refine wpAny_ready (rs := [7]) (by kernel_rfl) (by simp) ?_
            refine AllReady.cons rfl (fun K hK => ?_) AllReady.nil
            · go_simp
              refine CC.out.mono ?_
              rintro e w2 ⟨q, rfl, k2⟩
              have SC : Seal _ := ⟨SD.out.join k2⟩
              have SO := (SC.out.perm List.perm_middle).four.head
              have o1 := SO.c 1 _ rfl
              have lo := SO.lt
              clear SO k2
              refine hK _ _ ?_
              clear hK K
              try simp only [Act.put, List.getElem_toArray, List.getElem_cons_succ, List.getElem_cons_zero, List.setIfInBounds_toArray, List.set_cons_zero, List.set_cons_succ]
              refine wpAny_ready (rs := [8]) (by kernel_rfl) (by simp) ?_
              refine AllReady.cons rfl (fun K hK => ?_) AllReady.nil
              · go_simp
                have SB : Seal _ := ⟨SC.out.more (.cells (itemV x q) 43)⟩
                have SO := (SB.out.perm List.perm_middle).four.head
                have b1 := SO.c 1 _ rfl
                clear SO
                refine hK _ _ ?_
                clear hK K
                try simp only [Act.put, List.getElem_toArray, List.getElem_cons_succ, List.getElem_cons_zero, List.setIfInBounds_toArray, List.set_cons_zero, List.set_cons_succ]
                refine wpAny_ready (rs := [9]) (by kernel_rfl) (by simp) ?_
                refine AllReady.cons rfl (fun K hK => ?_) AllReady.nil
                · have SH : Seal _ := ⟨SB.out.perm List.perm_middle⟩
                  have OW : Seal _ := ⟨SH.out.head⟩
                  refine step_append_any rfl _ _ 23 rfl 0 43 i0 (.agg #[.int .i64 0, .string ByteArray.empty, .string ByteArray.empty, .slice none 0 0, .slice none 0 0]) 5 88 Tryz.underlying23 hi hz0 hz1 hz2 rfl (by decide) _ k _ (by rfl) OW.out (some ⟨w2.heap.size, 0, none⟩) 1 1 (itemL x q) (by rfl) (item_own w2 x q) (items_one _ _) (by unfold maxLen; omega) (by omega) (Nat.zero_le _) ?_
                  intro v' w3 hown hg hat
                  have SA : Seal _ := ⟨SH.out.app hown hg hat⟩
                  obtain ⟨bo', c', rfl, _⟩ := row_value SA.out.head
                  have SO := SA.out.four.head
                  have a1 := SO.c 1 _ rfl
                  have fa1 := SO.f 1 (by simp)
                  clear SO hown hg hat OW SH
                  refine hK _ _ ?_
                  clear hK K
                  try simp only [Act.put, List.getElem_toArray, List.getElem_cons_succ, List.getElem_cons_zero, List.setIfInBounds_toArray, List.set_cons_zero, List.set_cons_succ]
                  (refine wpAny_take (i := 10) (v := ?_) rfl (by kernel_rfl) (by kernel_rfl) (by kernel_rfl) (fun _ _ _ h => h) (Or.inl ⟨by rfl, ?_⟩) ?_; rotate_left; (intro w; go_simp; first | done | with_reducible rfl); rotate_left; simp only [Act.put, List.getElem_toArray, List.getElem_cons_succ, List.getElem_cons_zero, List.setIfInBounds_toArray, List.set_cons_succ, List.set_cons_zero])
                  refine wpAny_ready (rs := [11]) (by kernel_rfl) (by simp) ?_
                  refine AllReady.cons rfl (fun K hK => ?_) AllReady.nil
                  go_simp
                  refine hK _ _ ?_
                  clear hK K
                  try simp only [Act.put, List.getElem_toArray, List.getElem_cons_succ, List.getElem_cons_zero, List.setIfInBounds_toArray, List.set_cons_zero, List.set_cons_succ]
                  refine wpAny_done (by kernel_rfl) ?_ _
                  have SF : Seal _ := ⟨SA.out.four.set 1 (.slice bo' (k + 1) c') (by simp)⟩
                  have SZ : Seal _ := ⟨copyNext HX.out HQ.out SF.out⟩
                  clear SA SF SB SC
                  go_wp2
                  go_roundw
                  case rel => exact ⟨k + 1, qs ++ [q], _, by omega, by go_num, by simp [HQ.out], SZ⟩
                  case measure => simp [intOf]; omega
          · go_simp
            refine CC.out.mono ?_
            rintro e w2 ⟨q, rfl, k2⟩
            have SC : Seal _ := ⟨SD.out.join k2⟩
            have SO := (SC.out.perm List.perm_middle).four.head
            have o1 := SO.c 1 _ rfl
            have lo := SO.lt
            clear SO k2
            refine hK _ _ ?_
            clear hK K
            try simp only [Act.put, List.getElem_toArray, List.getElem_cons_succ, List.getElem_cons_zero, List.setIfInBounds_toArray, List.set_cons_zero, List.set_cons_succ]
            refine wpAny_ready (rs := [1, 8]) (by kernel_rfl) (by simp) ?_
            refine AllReady.cons rfl (fun K hK => ?_) (AllReady.cons rfl (fun K hK => ?_) AllReady.nil)
            · go_simp
              refine hK _ _ ?_
              clear hK K
              try simp only [Act.put, List.getElem_toArray, List.getElem_cons_succ, List.getElem_cons_zero, List.setIfInBounds_toArray, List.set_cons_zero, List.set_cons_succ]
              refine wpAny_ready (rs := [8]) (by kernel_rfl) (by simp) ?_
              refine AllReady.cons rfl (fun K hK => ?_) AllReady.nil
              · go_simp
                have SB : Seal _ := ⟨SC.out.more (.cells (itemV x q) 43)⟩
                have SO := (SB.out.perm List.perm_middle).four.head
                have b1 := SO.c 1 _ rfl
                clear SO
                refine hK _ _ ?_
                clear hK K
                try simp only [Act.put, List.getElem_toArray, List.getElem_cons_succ, List.getElem_cons_zero, List.setIfInBounds_toArray, List.set_cons_zero, List.set_cons_succ]
                refine wpAny_ready (rs := [9]) (by kernel_rfl) (by simp) ?_
                refine AllReady.cons rfl (fun K hK => ?_) AllReady.nil
                · have SH : Seal _ := ⟨SB.out.perm List.perm_middle⟩
                  have OW : Seal _ := ⟨SH.out.head⟩
                  refine step_append_any rfl _ _ 23 rfl 0 43 i0 (.agg #[.int .i64 0, .string ByteArray.empty, .string ByteArray.empty, .slice none 0 0, .slice none 0 0]) 5 88 Tryz.underlying23 hi hz0 hz1 hz2 rfl (by decide) _ k _ (by rfl) OW.out (some ⟨w2.heap.size, 0, none⟩) 1 1 (itemL x q) (by rfl) (item_own w2 x q) (items_one _ _) (by unfold maxLen; omega) (by omega) (Nat.zero_le _) ?_
                  intro v' w3 hown hg hat
                  have SA : Seal _ := ⟨SH.out.app hown hg hat⟩
                  obtain ⟨bo', c', rfl, _⟩ := row_value SA.out.head
                  have SO := SA.out.four.head
                  have a1 := SO.c 1 _ rfl
                  have fa1 := SO.f 1 (by simp)
                  clear SO hown hg hat OW SH
                  refine hK _ _ ?_
                  clear hK K
                  try simp only [Act.put, List.getElem_toArray, List.getElem_cons_succ, List.getElem_cons_zero, List.setIfInBounds_toArray, List.set_cons_zero, List.set_cons_succ]
                  (refine wpAny_take (i := 10) (v := ?_) rfl (by kernel_rfl) (by kernel_rfl) (by kernel_rfl) (fun _ _ _ h => h) (Or.inl ⟨by rfl, ?_⟩) ?_; rotate_left; (intro w; go_simp; first | done | with_reducible rfl); rotate_left; simp only [Act.put, List.getElem_toArray, List.getElem_cons_succ, List.getElem_cons_zero, List.setIfInBounds_toArray, List.set_cons_succ, List.set_cons_zero])
                  refine wpAny_ready (rs := [11]) (by kernel_rfl) (by simp) ?_
                  refine AllReady.cons rfl (fun K hK => ?_) AllReady.nil
                  go_simp
                  refine hK _ _ ?_
                  clear hK K
                  try simp only [Act.put, List.getElem_toArray, List.getElem_cons_succ, List.getElem_cons_zero, List.setIfInBounds_toArray, List.set_cons_zero, List.set_cons_succ]
                  refine wpAny_done (by kernel_rfl) ?_ _
                  have SF : Seal _ := ⟨SA.out.four.set 1 (.slice bo' (k + 1) c') (by simp)⟩
                  have SZ : Seal _ := ⟨copyNext HX.out HQ.out SF.out⟩
                  clear SA SF SB SC
                  go_wp2
                  go_roundw
                  case rel => exact ⟨k + 1, qs ++ [q], _, by omega, by go_num, by simp [HQ.out], SZ⟩
                  case measure => simp [intOf]; omega
            · go_simp
              have SB : Seal _ := ⟨SC.out.more (.cells (itemV x q) 43)⟩
              have SO := (SB.out.perm List.perm_middle).four.head
              have b1 := SO.c 1 _ rfl
              clear SO
              refine hK _ _ ?_
              clear hK K
              try simp only [Act.put, List.getElem_toArray, List.getElem_cons_succ, List.getElem_cons_zero, List.setIfInBounds_toArray, List.set_cons_zero, List.set_cons_succ]
              refine wpAny_ready (rs := [1]) (by kernel_rfl) (by simp) ?_
              refine AllReady.cons rfl (fun K hK => ?_) AllReady.nil
              · go_simp
                refine hK _ _ ?_
                clear hK K
                try simp only [Act.put, List.getElem_toArray, List.getElem_cons_succ, List.getElem_cons_zero, List.setIfInBounds_toArray, List.set_cons_zero, List.set_cons_succ]
                refine wpAny_ready (rs := [9]) (by kernel_rfl) (by simp) ?_
                refine AllReady.cons rfl (fun K hK => ?_) AllReady.nil
                · have SH : Seal _ := ⟨SB.out.perm List.perm_middle⟩
                  have OW : Seal _ := ⟨SH.out.head⟩
                  refine step_append_any rfl _ _ 23 rfl 0 43 i0 (.agg #[.int .i64 0, .string ByteArray.empty, .string ByteArray.empty, .slice none 0 0, .slice none 0 0]) 5 88 Tryz.underlying23 hi hz0 hz1 hz2 rfl (by decide) _ k _ (by rfl) OW.out (some ⟨w2.heap.size, 0, none⟩) 1 1 (itemL x q) (by rfl) (item_own w2 x q) (items_one _ _) (by unfold maxLen; omega) (by omega) (Nat.zero_le _) ?_
                  intro v' w3 hown hg hat
                  have SA : Seal _ := ⟨SH.out.app hown hg hat⟩
                  obtain ⟨bo', c', rfl, _⟩ := row_value SA.out.head
                  have SO := SA.out.four.head
                  have a1 := SO.c 1 _ rfl
                  have fa1 := SO.f 1 (by simp)
                  clear SO hown hg hat OW SH
                  refine hK _ _ ?_
                  clear hK K
                  try simp only [Act.put, List.getElem_toArray, List.getElem_cons_succ, List.getElem_cons_zero, List.setIfInBounds_toArray, List.set_cons_zero, List.set_cons_succ]
                  (refine wpAny_take (i := 10) (v := ?_) rfl (by kernel_rfl) (by kernel_rfl) (by kernel_rfl) (fun _ _ _ h => h) (Or.inl ⟨by rfl, ?_⟩) ?_; rotate_left; (intro w; go_simp; first | done | with_reducible rfl); rotate_left; simp only [Act.put, List.getElem_toArray, List.getElem_cons_succ, List.getElem_cons_zero, List.setIfInBounds_toArray, List.set_cons_succ, List.set_cons_zero])
                  refine wpAny_ready (rs := [11]) (by kernel_rfl) (by simp) ?_
                  refine AllReady.cons rfl (fun K hK => ?_) AllReady.nil
                  go_simp
                  refine hK _ _ ?_
                  clear hK K
                  try simp only [Act.put, List.getElem_toArray, List.getElem_cons_succ, List.getElem_cons_zero, List.setIfInBounds_toArray, List.set_cons_zero, List.set_cons_succ]
                  refine wpAny_done (by kernel_rfl) ?_ _
                  have SF : Seal _ := ⟨SA.out.four.set 1 (.slice bo' (k + 1) c') (by simp)⟩
                  have SZ : Seal _ := ⟨copyNext HX.out HQ.out SF.out⟩
                  clear SA SF SB SC
                  go_wp2
                  go_roundw
                  case rel => exact ⟨k + 1, qs ++ [q], _, by omega, by go_num, by simp [HQ.out], SZ⟩
                  case measure => simp [intOf]; omega
    · obtain rfl : k = s.items.length := by omega
      have s1 := S.out
      have hrow := s1.head
      obtain ⟨bo, c, rfl, _⟩ := row_value hrow
      have HQ : Seal _ := ⟨hqs⟩
      have u0 := s1.two.head.c 0 _ rfl
      have u1 := s1.two.head.c 1 _ rfl
      have R2 := s1.four.head
      have r0 := R2.c 0 _ rfl
      have r1 := R2.c 1 _ rfl
      have f0 := R2.f 0 (by simp)
      have f1 := R2.f 1 (by simp)
      have S1 : Seal _ := ⟨s1⟩
      clear s1 S R2 hrow hqs
      go_wp2
      refine bodyPost_ret (v := .agg (spoolV s bo c)) (by simp [results, Tryz.results64, go_sem, r0, r1]) rfl ⟨bo, c, qs, rfl, HQ.out, ?_⟩
      have s4 := (S1.out.four.set 0 (.int .i64 s.last) (by simp)).set 1 (.slice bo s.items.length c) (by simp)
      have s5 := s4.tail.two.tail.two.tail
      rw [List.take_length] at s5
      exact s5
end Go.Proofs.YtcaknjdolfheaaaGreatDoor
