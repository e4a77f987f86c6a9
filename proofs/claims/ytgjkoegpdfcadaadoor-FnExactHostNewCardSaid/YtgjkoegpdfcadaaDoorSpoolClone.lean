/- Contracts: a spool cloned, of the program. -/
import Derived.Test.YtgjkoegpdfcadaaDoorSpoolTo
import Derived.Test.YtgjkoegpdfcadaaDoorSpoolOkI
import Derived.Test.YtgjkoegpdfcadaaDoorClone
import Derived.Test.YtgjkoegpdfcadaaDoorRowMark
namespace Go.Proofs.YtgjkoegpdfcadaaDoor
open Go Go.RowKit

theorem rcpts_one (xs : List RcptD) (us : List Unit) : ∀ u ∈ rcptE.all xs us, u.oneCell' = true := by
  unfold Elem.all
  intro u hu
  obtain ⟨l, hl, hul⟩ := List.mem_flatten.1 hu
  obtain ⟨k, hk⟩ := List.getElem?_of_mem hl
  rw [List.getElem?_zipWith] at hk
  cases hx : xs[k]? with
  | none => rw [hx] at hk; cases hk
  | some x =>
    cases hp : us[k]? with
    | none => rw [hx, hp] at hk; cases hk
    | some p =>
      rw [hx, hp] at hk
      have e : rcptL x = l := Option.some.inj hk
      subst e
      simp only [rcptL, List.mem_cons, List.not_mem_nil, or_false] at hul
      rcases hul with rfl | rfl | rfl | rfl <;> rfl

set_option maxHeartbeats 800000 in
set_option maxRecDepth 100000 in
theorem cloneRcpts_any (ao : Option Addr) (cap : Nat) (xs : List RcptD) (w : World) (ho : (rcptsR ao cap xs).P w) (hl : xs.length ≤ 1048576) :
    Calls Tryd.prog 236 #[.slice ao xs.length cap] w fun e w' => ∃ bo c, e = .returned (.slice bo xs.length c) ∧ St w w' [rcptsR bo c xs] := by
  obtain ⟨i0, hi, hz0, hz1, hz2⟩ := info_parts infoRcpt
  have qT : ∀ (w : World) (a : Option Addr) (n c n' c' : Nat), (binOp .eql 62 (.slice a n c) (.slice none n' c')).run Tryd.prog w = .ok (.bool a.isNone) w := fun w a n c n' c' => Lib.run_eql_slice_nil w _ _ a n c n' c' Tryd.underlying62
  have hal : (rcptE.all xs (ones xs)).length = xs.length * 4 := rcptE.all_length (by simp)
  rcases own_split (B := 0) ho with ⟨rfl, h0, rfl⟩ | ⟨g, rfl⟩
  · obtain rfl : xs = [] := List.eq_nil_of_length_eq_zero h0
    clear ho
    have S0 : Seal _ := ⟨(St.start w).nothing 66 4⟩
    go_enter Tryd.func236, Tryd.ntmps236
    go_wp2
    go_ret
    exact ⟨none, 0, rfl, S0.out⟩
  · have HN : Seal _ := ⟨own_news (World.ownsRow.alloc ho (.cells #[] 66))⟩
    have S0 : Seal _ := ⟨(St.start w).made 66 4 #[] 0 (Nat.zero_le _) rfl⟩
    have OW : Seal _ := ⟨S0.out.head⟩
    have HAL : Seal _ := ⟨hal⟩
    clear ho hal
    go_enter Tryd.func236, Tryd.ntmps236
    go_wp2_with (at_builtin; refine wpList_append_own_at _ rfl _ _ 62 rfl 0 66 i0 (.agg #[.string ByteArray.empty, .string ByteArray.empty, .int .i64 0, .int .i64 0]) 4 48 Tryd.underlying62 hi hz0 hz1 hz2 rfl (by decide) _ 0 [] rfl OW.out ⟨g, 0, none⟩ xs.length cap (rcptE.all xs (ones xs)) rfl HAL.out ?c1 ?c2 ?c3 ?c4 ?c5 ?_)
    case c1 => exact HN.out
    case c2 => exact rcpts_one _ _
    case c3 => unfold maxLen; omega
    case c4 => omega
    case c5 => exact Nat.zero_le _
    intro v' w2 hown hg _ hat
    have s1 := S0.out.app hown hg (by first | exact hat | (rw [World.size_alloc]; exact hat))
    obtain ⟨bo, c, rfl, _⟩ := row_value s1.head
    have S1 : Seal _ := ⟨s1⟩
    clear hown hg hat s1 S0 OW HN
    go_wp2
    go_ret
    exact ⟨bo, c, by simp, S1.out⟩

set_option maxHeartbeats 1600000 in
set_option maxRecDepth 100000 in
theorem itemClone_any {X : Nat → Prop} (L : List Res) (x : ItemD) (p : ItemV) (w0 w : World) (h : StX X w0 w L) (hr : ∀ r ∈ itemE.res x p, r ∈ L) (hz : itemN x ≤ 1048576) :
    Calls Tryd.prog 177 #[.agg (itemV x p)] w fun e w' => ∃ q, e = .returned (.agg (itemV x q)) ∧ St w w' (itemE.res x q) := by
  obtain ⟨_, _, z3, _, z5, _⟩ := itemN_parts hz
  have s0 := ((St.start w).alloc (itemV x p) 64).alloc noItem 64
  simp only [World.size_alloc] at s0
  have S0 : Seal _ := ⟨s0⟩
  have HS : Seal _ := ⟨h⟩
  have HR1 : Seal (rcptsR p.a1 p.c1 x.rc ∈ L) := ⟨hr _ List.mem_cons_self⟩
  have HR2 : Seal (strsR p.a2 p.c2 x.body ∈ L) := ⟨hr _ (List.mem_cons_of_mem _ List.mem_cons_self)⟩
  have K0 := s0.two.head
  have g3 := K0.c 3 _ rfl
  clear s0 h hr hz K0
  go_enter Tryd.func177, Tryd.ntmps177
  go_wp2_with fail
  refine (cloneRcpts_any p.a1 p.c1 x.rc _ ((HS.out.later S0.out.below).get HR1.out) z3).mono ?_
  rintro e w1 ⟨q1, d1, rfl, k1⟩
  have s1 := (S0.out.join k1).three
  have P1 := s1.head
  have o3 := P1.c 3 _ rfl
  have f3 := P1.f 3 (by simp)
  have o4 := P1.c 4 _ rfl
  have S1 : Seal _ := ⟨s1.set 3 (.slice q1 x.rc.length d1) (by simp)⟩
  clear k1 S0 s1 P1 g3
  go_wp2_with fail
  refine (cloneStrs_any 0 p.a2 p.c2 x.body _ ((HS.out.later S1.out.below).get HR2.out) z5).mono ?_
  rintro e w2 ⟨q2, d2, rfl, k2, hb2⟩
  have s2 := (S1.out.row hb2 k2).two
  have P2 := s2.head
  have u0 := P2.c 0 _ rfl
  have u1 := P2.c 1 _ rfl
  have u2 := P2.c 2 _ rfl
  have u3 := P2.c 3 _ rfl
  have u4 := P2.c 4 _ rfl
  have f4 := P2.f 4 (by simp)
  have S2 : Seal _ := ⟨s2.set 4 (.slice q2 x.body.length d2) (by simp)⟩
  have R2 := s2.four.head
  have r0 := R2.c 0 _ rfl
  have r1 := R2.c 1 _ rfl
  have r2 := R2.c 2 _ rfl
  have r3 := R2.c 3 _ rfl
  have r4 := R2.c 4 _ rfl
  have h0 := R2.f 0 (by simp)
  have h1 := R2.f 1 (by simp)
  have h2 := R2.f 2 (by simp)
  have h3 := R2.f 3 (by simp)
  have h4 := R2.f 4 (by simp)
  have hn : w.heap.size ≠ w.heap.size + 1 := by omega
  clear k2 S1 s2 hb2 P2 R2 o3 f3 o4
  go_wp2
  refine bodyPost_ret (v := .agg (itemV x ⟨q1, d1, q2, d2⟩)) (by simp [results, Tryd.results177, go_sem, r0, r1, r2, r3, r4]) rfl ⟨⟨q1, d1, q2, d2⟩, rfl, ?_⟩
  have s4 := ((((S2.out.four.set 0 (.int .i64 x.id) (by simp)).set 1 (.string x.fu) (by simp)).set 2 (.string x.fd) (by simp)).set 3 (.slice q1 x.rc.length d1) (by simp)).set 4 (.slice q2 x.body.length d2) (by simp)
  exact s4.tail.tail.two

theorem itemCells {X : Nat → Prop} {w0 w : World} {ao : Option Addr} {cap : Nat} {xs : List ItemD} {ps : List ItemV} {l : List Res} (h : StX X w0 w (itemsR ao cap xs ps ++ l)) {k : Nat} {x : ItemD} {p : ItemV} (hx : xs[k]? = some x) (hp : ps[k]? = some p) :
    ∃ g, ao = some ⟨g, 0, none⟩ ∧ w.cell? ⟨g, k * 5, none⟩ = some (.int .i64 x.id) ∧ w.cell? ⟨g, k * 5 + 1, none⟩ = some (.string x.fu) ∧ w.cell? ⟨g, k * 5 + 2, none⟩ = some (.string x.fd) ∧ w.cell? ⟨g, k * 5 + 3, none⟩ = some (.slice p.a1 x.rc.length p.c1) ∧ w.cell? ⟨g, k * 5 + 4, none⟩ = some (.slice p.a2 x.body.length p.c2) := by
  have hk := (List.getElem?_eq_some_iff.1 hx).1
  have h0 : w.ownsRow 0 64 5 (.slice ao xs.length cap) xs.length (itemE.all xs ps) := h.head
  rcases slice_or h0 with he | ⟨g, rfl⟩
  · omega
  have at' : ∀ j, j < 5 → w.cell? ⟨g, k * 5 + j, none⟩ = (itemL x p)[j]? := fun j hj => by
    have hlt : k * 5 + j < xs.length * 5 := by omega
    rw [h0.cellAt _ hlt]
    exact itemE.all_get hx hp hj
  exact ⟨g, rfl, at' 0 (by decide), at' 1 (by decide), at' 2 (by decide), at' 3 (by decide), at' 4 (by decide)⟩
theorem items_one (x : ItemD) (p : ItemV) : ∀ u ∈ itemL x p, u.oneCell' = true := by
  intro u hu
  simp only [itemL, List.mem_cons, List.not_mem_nil, or_false] at hu
  rcases hu with rfl | rfl | rfl | rfl | rfl <;> rfl

set_option maxHeartbeats 3200000 in
set_option maxRecDepth 100000 in
theorem eachClone_any {X : Nat → Prop} (l : List Res) (ao : Option Addr) (cap : Nat) (xs : List ItemD) (ps : List ItemV) (hl : ps.length = xs.length) (w0 w : World) (h : StX X w0 w (itemsR ao cap xs ps ++ l)) (hn : xs.length ≤ 1048576) (hz : ∀ x ∈ xs, itemN x ≤ 1048576) :
    Calls Tryd.prog 176 #[.slice ao xs.length cap, .func (.func 177) #[] #[]] w fun e w' => ∃ bo c qs, e = .returned (.slice bo xs.length c) ∧ qs.length = xs.length ∧ St w w' (itemsR bo c xs qs) := by
  obtain ⟨i0, hi, hz0, hz1, hz2⟩ := info_parts infoItem
  have HS : Seal _ := ⟨h⟩
  have HL : Seal _ := ⟨hl⟩
  have HZ : Seal _ := ⟨hz⟩
  clear h hl hz
  go_enter Tryd.func176, Tryd.ntmps176
  go_wp2
  go_loopw [5, 10] (fun v i wr => ∃ (k : Nat) (qs : List ItemV), k ≤ xs.length ∧ i = .int .i64 k ∧ qs.length = k ∧ Seal (St w wr (Res.row 64 5 v k (itemE.all (xs.take k) qs) :: itemE.ress (xs.take k) qs))) (fun _ i _ => xs.length - (intOf i).toNat)
  case atStart => exact ⟨0, [], Nat.zero_le _, rfl, rfl, ⟨(St.start w).nothing _ _⟩⟩
  case round =>
    obtain ⟨k, qs, hk, rfl, hqs, S⟩ := hrel
    by_cases hlt : k < xs.length
    · obtain ⟨x, hx⟩ : ∃ x, xs[k]? = some x := ⟨_, List.getElem?_eq_getElem hlt⟩
      obtain ⟨p, hp⟩ : ∃ p, ps[k]? = some p := ⟨_, List.getElem?_eq_getElem (by rw [HL.out]; exact hlt)⟩
      obtain ⟨g, rfl, c0, c1, c2, c3, c4⟩ := itemCells (HS.out.later S.out.below) hx hp
      have HX : Seal _ := ⟨hx⟩
      have HQ : Seal _ := ⟨hqs⟩
      have S1 : Seal _ := ⟨S.out.more (.cells (itemV x p) 64)⟩
      have C : Seal _ := ⟨itemClone_any _ x p w0 _ (HS.out.later S1.out.below) (fun r hr => List.mem_append_left _ (List.mem_cons_of_mem _ (itemE.mem_ress hx hp hr))) (HZ.out x (List.mem_of_getElem? hx))⟩
      clear hx hp hqs S
      go_wp2_with fail
      refine C.out.mono ?_
      rintro e w2 ⟨q, rfl, k2⟩
      have s2 := ((S1.out.join k2).perm List.perm_middle).more (.cells (itemV x q) 64)
      have S2 : Seal _ := ⟨s2⟩
      have OW : Seal _ := ⟨s2.head⟩
      clear s2 k2 S1 C c0 c1 c2 c3 c4
      go_wp2_with (at_builtin; refine wpList_append_own_at _ rfl _ _ 53 rfl 0 64 i0 (.agg #[.int .i64 0, .string ByteArray.empty, .string ByteArray.empty, .slice none 0 0, .slice none 0 0]) 5 88 Tryd.underlying53 hi hz0 hz1 hz2 rfl (by decide) _ _ _ rfl OW.out ⟨w2.heap.size, 0, none⟩ 1 1 (itemL x q) rfl rfl ?c1 ?c2 ?c3 ?c4 ?c5 ?_)
      case c1 =>
        intro j u hj
        have := (CellsM.new w2 (itemV x q) 64).c j u hj
        by_cases h0 : j = 0
        · subst h0; simpa [Addr.add] using this
        · simpa [Addr.add, h0] using this
      case c2 => exact items_one _ _
      case c3 => unfold maxLen; omega
      case c4 => omega
      case c5 => exact Nat.zero_le _
      · intro v' w3 hown hg _ hat
        have s3 := S2.out.app hown hg (by rw [World.size_alloc]; exact hat)
        have s4 : St w w3 (Res.row 64 5 v' (k + 1) (itemE.all (xs.take (k + 1)) (qs ++ [q])) :: itemE.ress (xs.take (k + 1)) (qs ++ [q])) := by
          obtain ⟨hk', e1⟩ := List.getElem?_eq_some_iff.1 HX.out
          have ht : qs.length = (xs.take k).length := by rw [List.length_take, HQ.out]; omega
          rw [List.take_succ_eq_append_getElem hk', e1, itemE.all_snoc ht, itemE.ress_snoc ht]
          exact s3.perm (List.Perm.cons _ List.perm_append_comm)
        have S4 : Seal _ := ⟨s4⟩
        clear hown hg hat OW S2 s3 s4
        go_wp2
        go_roundw
        case rel => exact ⟨k + 1, qs ++ [q], by omega, by go_num, by simp [HQ.out], S4⟩
        case measure => simp [intOf]; omega
    · obtain rfl : k = xs.length := by omega
      have s1 := S.out
      rw [List.take_length] at s1
      obtain ⟨bo, c, rfl, _⟩ := row_value s1.head
      have S1 : Seal _ := ⟨s1⟩
      clear s1 S
      go_wp2
      go_ret
      first | exact ⟨bo, c, rfl, qs, hqs, S1.out⟩ | exact ⟨bo, c, qs, rfl, hqs, S1.out⟩

set_option maxHeartbeats 1600000 in
set_option maxRecDepth 100000 in
theorem spoolClone_any {X : Nat → Prop} (l : List Res) (s : SpoolD) (ao : Option Addr) (cap : Nat) (ps : List ItemV) (hl : ps.length = s.items.length) (w0 w : World) (h : StX X w0 w (itemsR ao cap s.items ps ++ l)) (hz : spoolN s ≤ 1048576) :
    Calls Tryd.prog 98 #[.agg (spoolV s ao cap)] w fun e w' => ∃ bo c qs, e = .returned (.agg (spoolV s bo c)) ∧ qs.length = s.items.length ∧ St w w' (itemsR bo c s.items qs) := by
  obtain ⟨z1, z2⟩ := spoolN_parts hz
  have s0 := ((St.start w).alloc (spoolV s ao cap) 55).alloc #[.int .i64 0, .slice none 0 0] 55
  simp only [World.size_alloc] at s0
  have S0 : Seal _ := ⟨s0⟩
  have HS : Seal _ := ⟨h⟩
  have HL : Seal _ := ⟨hl⟩
  have HZ : Seal _ := ⟨z2⟩
  have g0 := s0.two.head.c 0 _ rfl
  have g1 := s0.two.head.c 1 _ rfl
  clear s0 h hl hz z2
  go_enter Tryd.func98, Tryd.ntmps98
  go_wp2_with fail
  refine (items_any s ao cap _).mono ?_
  rintro e w1 ⟨rfl, hb1⟩
  have S1 : Seal _ := ⟨S0.out.later hb1⟩
  clear hb1 S0 g0 g1
  go_wp2_with fail
  refine (eachClone_any l ao cap s.items ps HL.out w0 _ (HS.out.later S1.out.below) z1 HZ.out).mono ?_
  rintro e w2 ⟨bo, c, qs, rfl, hqs, k2⟩
  have s2 := (S1.out.join k2).swap.two
  have P2 := s2.head
  have u0 := P2.c 0 _ rfl
  have u1 := P2.c 1 _ rfl
  have f1 := P2.f 1 (by simp)
  have R2 := s2.two.head
  have r0 := R2.c 0 _ rfl
  have r1 := R2.c 1 _ rfl
  have h0 := R2.f 0 (by simp)
  have h1 := R2.f 1 (by simp)
  have S2 : Seal _ := ⟨s2.set 1 (.slice bo s.items.length c) (by simp)⟩
  have hn : w.heap.size ≠ w.heap.size + 1 := by omega
  clear k2 S1 s2 P2 R2
  go_wp2
  refine bodyPost_ret (v := .agg (spoolV s bo c)) (by simp [results, Tryd.results98, go_sem, r0, r1]) rfl ⟨bo, c, qs, rfl, hqs, ?_⟩
  have s4 := (S2.out.two.set 0 (.int .i64 s.last) (by simp)).set 1 (.slice bo s.items.length c) (by simp)
  exact s4.tail.tail
end Go.Proofs.YtgjkoegpdfcadaaDoor
