/- Contracts: one whom a mail is for is struck from a spool, by the model. -/
import Derived.Test.YtcaknjdolfheaaaDoorTk
import Derived.Test.YtcaknjdolfheaaaDoorSpoolLates
import Derived.Deep.DeepCutAuto
namespace Go.Proofs.YtcaknjdolfheaaaDoor
open Go Go.RowKit

section
variable {w : World} {ops : Array Oper} {o : Oper} {a : Act} {K : Act → World → Prop} {Q : Exit → Act → World → Prop} {E : Prop}
/-- 'append' of cells that lie somewhere to a row that the call owns. -/
theorem step_append_at (hgd : o.guard = none) (s x : Operand) (t : TypeId)
    (ho : o.op = .call { callee := .builtin .append, args := #[s, x], argTypes := #[t, t] })
    (base : Nat) (e : TypeId) (i : TypeInfo) (z : Value) (size bytes : Nat) (ht : Tryd.prog.underlying t = some (.slice e)) (hi : Tryd.prog.info? e = some i) (hz : i.zero = some z)
    (hsize : i.size = size) (hby : i.bytes = bytes) (hzs : z.cells.size = size) (hsz : 0 < size)
    (v : Value) (n : Nat) (xs : List Value) (hs : a.eval s = v) (hown : w.ownsRow base e size v n xs)
    (ad : Addr) (m c : Nat) (news : List Value) (hx : a.eval x = .slice (some ad) m c) (hl : news.length = m * size) (hnews : ∀ j u, news[j]? = some u → w.cell? (ad.add j) = some u) (h1 : ∀ u ∈ news, u.oneCell' = true)
    (h63 : n + m ≤ maxLen) (hbytes : (n + m) * bytes ≤ 140737488355328) (hbase : base ≤ w.heap.size)
    (h : ∀ v' w', w'.ownsRow base e size v' (n + m) (xs ++ news) → w.grownBy w' v.ownBlock → (v'.ownBlock = v.ownBlock ∨ v'.ownBlock = some w.heap.size) → K (a.put o.dst v') w') :
    if Region.wanted o (yielded ops a.tmps) = true then Oper.wp Tryd.prog o a w K Q else E := by
  have hw : Region.wanted o (yielded ops a.tmps) = true := by simp [Region.wanted, hgd]
  rw [if_pos hw]
  obtain ⟨v', w', hr, h2, h3, _, h5⟩ := run_append_own_at (P := Tryd.prog) w base t o.type e i z size bytes ht hi hz hsize hby hzs hsz v n xs hown ad m c news hl hnews h1 h63 hbytes hbase
  unfold Oper.wp execOp
  simp only [ho, resolve, invoke, builtin, Sem.run_bind, Sem.run_pure, Result.andThen_ok, List.map_toArray, List.map_cons, List.map_nil, hs, hx, hr]
  exact h v' w' h2 h3 h5
end
/-- Cells of a row's part lie where they should. -/
theorem part_news {w : World} {B : Nat} {e : TypeId} {size n cap g : Nat} {xs : List Value} (h : w.ownsRow B e size (.slice (some ⟨g, 0, none⟩) n cap) n xs) (lo : Nat) {ys zs : List Value} (hx : xs = ys ++ zs) (hy : ys.length = lo) {us vs : List Value} (hz : zs = us ++ vs) : ∀ j u, us[j]? = some u → w.cell? ((⟨g, lo, none⟩ : Addr).add j) = some u := by
  intro j u hj
  have hl : j < us.length := (List.getElem?_eq_some_iff.1 hj).1
  have hlen : xs.length = n * size := h.1
  have hlt : lo + j < n * size := by rw [← hlen, hx, hz]; simp; omega
  have hc := h.cellAt (lo + j) hlt
  have he : xs[lo + j]? = some u := by
    rw [hx, hz, ← hy, List.getElem?_append_right (by omega), Nat.add_sub_cancel_left, List.getElem?_append_left hl]
    exact hj
  rw [← hc] at he
  by_cases h0 : j = 0
  · subst h0; simpa [Addr.add] using he
  · simpa [Addr.add, h0] using he
/-- Where a row's rest begins, as the program has it. -/
theorem rest_news {w : World} {B : Nat} {e : TypeId} {size n cap g : Nat} {xs : List Value} (h : w.ownsRow B e size (.slice (some ⟨g, 0, none⟩) n cap) n xs) (k : Nat) (hk : k ≤ n) (hn : n ≤ cap) {ys zs : List Value} (hx : xs = ys ++ zs) (hy : ys.length = k * size) {A : Addr} (hA : (if cap = k then some (⟨g, 0, none⟩ : Addr) else some ⟨g, k * size, none⟩) = some A) : ∀ j u, zs[j]? = some u → w.cell? (A.add j) = some u := by
  by_cases hc : cap = k
  · have hz : zs = [] := by
      have h1 := h.1
      rw [hx, List.length_append, hy, show n = k by omega] at h1
      exact List.eq_nil_of_length_eq_zero (by omega)
    subst hz
    intro j u hj
    simp at hj
  · rw [if_neg hc] at hA
    obtain rfl := Option.some.inj hA
    exact part_news h (k * size) hx hy (List.append_nil _).symm

theorem items_split {xs : List ItemD} {ps : List ItemV} {k : Nat} {x : ItemD} {p : ItemV} (hl : ps.length = xs.length) (hx : xs[k]? = some x) (hp : ps[k]? = some p) : itemE.all xs ps = itemE.all (xs.take k) (ps.take k) ++ (itemL x p ++ itemE.all (xs.drop (k + 1)) (ps.drop (k + 1))) := by
  have hk := (List.getElem?_eq_some_iff.1 hx).1
  have ht : (ps.take k).length = (xs.take k).length := by simp; omega
  have h1 := itemE.all_split (B := xs.drop (k + 1)) (PB := ps.drop (k + 1)) ht x p
  rw [← take_drop_at hx, ← take_drop_at hp] at h1
  exact h1
theorem items_lenT {xs : List ItemD} {ps : List ItemV} {k : Nat} (hl : ps.length = xs.length) (hk : k ≤ xs.length) : (itemE.all (xs.take k) (ps.take k)).length = k * 5 := by
  rw [itemE.all_length (by simp; omega), List.length_take, Nat.min_eq_left hk]
  rfl
theorem items_lenD {xs : List ItemD} {ps : List ItemV} (hl : ps.length = xs.length) (k : Nat) : (itemE.all (xs.drop k) (ps.drop k)).length = (xs.length - k) * 5 := by
  rw [itemE.all_length (by simp; omega), List.length_drop]
  rfl

/-! ### plain facts -/
def doneI (x : ItemD) (k : Nat) : ItemD := ⟨x.id, x.fu, x.fd, x.rc.take k ++ x.rc.drop (k + 1), x.body⟩
def doneS (s : SpoolD) (i : Nat) (y : ItemD) : SpoolD := ⟨s.last, if y.rc = [] then s.items.take i ++ s.items.drop (i + 1) else s.items.set i y⟩
abbrev rcs (xs : List RcptD) : List Value := rcptE.all xs (ones xs)
theorem rcs_cons (x : RcptD) (xs : List RcptD) : rcs (x :: xs) = rcptL x ++ rcs xs := by unfold rcs ones; rw [List.length_cons, List.replicate_succ]; rfl
theorem rcs_app (xs ys : List RcptD) : rcs (xs ++ ys) = rcs xs ++ rcs ys := by
  induction xs with
  | nil => rfl
  | cons x t ih => rw [List.cons_append, rcs_cons, rcs_cons, ih, List.append_assoc]
theorem rcs_len (xs : List RcptD) : (rcs xs).length = xs.length * 4 := rcptE.all_length (by simp)
theorem rcs_one (xs : List RcptD) : ∀ u ∈ rcs xs, u.oneCell' = true := by
  induction xs with
  | nil => intro u hu; cases hu
  | cons x t ih =>
    intro u hu
    rw [rcs_cons] at hu
    rcases List.mem_append.1 hu with h | h
    · exact rcpt_cells_one x u h
    · exact ih u h
theorem rcs_pre {xs : List RcptD} (k : Nat) : rcs xs = rcs (xs.take k) ++ rcs (xs.drop k) := by rw [← rcs_app, List.take_append_drop]
theorem rcs_lenT {xs : List RcptD} {k : Nat} (h : k ≤ xs.length) : (rcs (xs.take k)).length = k * 4 := by rw [rcs_len, List.length_take, Nat.min_eq_left h]
theorem rcs_lenD {xs : List RcptD} (k : Nat) : (rcs (xs.drop k)).length = (xs.length - k) * 4 := by rw [rcs_len, List.length_drop]

theorem done_set {X : Nat → Prop} {w0 w W : World} {l : List Res} {xs : List ItemD} {ps : List ItemV} {ao b : Option Addr} {cap c n i : Nat} {x y : ItemD} {p q : ItemV} {R1 R2 : Res} (HS : StX X w0 w (itemsR ao cap xs ps ++ l)) (hl : ps.length = xs.length) (hx : xs[i]? = some x) (hp : ps[i]? = some p) (hn : xs.length = n) (hres : itemE.res y q = [R1, R2])
    (k5 : St w W [Res.row 42 5 (.slice b n c) n (itemE.all (xs.set i y) (ps.set i q)), R1, R2]) : StX X w0 W (itemsR b c (xs.set i y) (ps.set i q) ++ l) := by
  obtain ⟨ra, rb⟩ := ress_set hl hx hp y q
  have h9 : StX X w0 w (itemE.ress xs ps ++ l) := StX.tail HS
  rw [ra] at h9
  have h11 := h9.perm (perm_pull _ _ _ _)
  have k6 := StX.join h11.drop k5
  have er : itemsR b c (xs.set i y) (ps.set i q) = Res.row 42 5 (.slice b n c) n (itemE.all (xs.set i y) (ps.set i q)) :: (itemE.ress (xs.take i) (ps.take i) ++ ([R1, R2] ++ itemE.ress (xs.drop (i + 1)) (ps.drop (i + 1)))) := by
    unfold itemsR Elem.row
    rw [rb, List.length_set, hres, hn]
    rfl
  rw [er]
  refine k6.perm (List.Perm.cons _ ?_)
  exact perm_put _ _ _ _
theorem items_app {A B : List ItemD} {PA PB : List ItemV} (h : PA.length = A.length) : itemE.all (A ++ B) (PA ++ PB) = itemE.all A PA ++ itemE.all B PB := by
  unfold Elem.all
  rw [List.zipWith_append h.symm, List.flatten_append]
theorem ress_app {A B : List ItemD} {PA PB : List ItemV} (h : PA.length = A.length) : itemE.ress (A ++ B) (PA ++ PB) = itemE.ress A PA ++ itemE.ress B PB := by
  unfold Elem.ress
  rw [List.zipWith_append h.symm, List.flatten_append]
theorem done_cut {X : Nat → Prop} {w0 w W : World} {l : List Res} {xs : List ItemD} {ps : List ItemV} {ao b : Option Addr} {cap c n i : Nat} {x : ItemD} {p : ItemV} (HS : StX X w0 w (itemsR ao cap xs ps ++ l)) (hl : ps.length = xs.length) (hx : xs[i]? = some x) (hp : ps[i]? = some p) (hn : (xs.take i ++ xs.drop (i + 1)).length = n)
    (k5 : St w W [Res.row 42 5 (.slice b n c) n (itemE.all (xs.take i) (ps.take i) ++ itemE.all (xs.drop (i + 1)) (ps.drop (i + 1)))]) : StX X w0 W (itemsR b c (xs.take i ++ xs.drop (i + 1)) (ps.take i ++ ps.drop (i + 1)) ++ l) := by
  have hk := (List.getElem?_eq_some_iff.1 hx).1
  have ht : (ps.take i).length = (xs.take i).length := by simp; omega
  obtain ⟨ra, rb⟩ := ress_set hl hx hp x p
  have h9 : StX X w0 w (itemE.ress xs ps ++ l) := StX.tail HS
  rw [ra] at h9
  have h11 := h9.perm (perm_pull _ _ _ _)
  have k6 := StX.join h11.drop k5
  have er : itemsR b c (xs.take i ++ xs.drop (i + 1)) (ps.take i ++ ps.drop (i + 1)) = Res.row 42 5 (.slice b n c) n (itemE.all (xs.take i) (ps.take i) ++ itemE.all (xs.drop (i + 1)) (ps.drop (i + 1))) :: (itemE.ress (xs.take i) (ps.take i) ++ itemE.ress (xs.drop (i + 1)) (ps.drop (i + 1))) := by
    unfold itemsR Elem.row
    rw [items_app ht, ress_app ht, hn]
    rfl
  rw [er]
  exact k6

set_option maxHeartbeats 12800000 in
set_option maxRecDepth 100000 in
theorem l5Done_any {X : Nat → Prop} (l : List Res) (s : SpoolD) (ao : Option Addr) (cap : Nat) (ps : List ItemV) (hl : ps.length = s.items.length) (hn : s.items.length ≤ 1048576) (i k : Nat) (x : ItemD) (r : RcptD) (hx : s.items[i]? = some x) (hr : x.rc[k]? = some r) (w0 w : World) (h : StX X w0 w (itemsR ao cap s.items ps ++ l)) (hz : itemN x ≤ 1048576) :
    Calls Tryd.prog 36 #[.agg (spoolV s ao cap), .int .i64 i, .int .i64 k] w fun e w' => ∃ b c q, e = .returned (.agg #[.int .i64 s.last, .slice b (doneS s i (doneI x k)).items.length c]) ∧ q.length = (doneS s i (doneI x k)).items.length ∧ StX X w0 w' (itemsR b c (doneS s i (doneI x k)).items q ++ l) := by
  obtain ⟨iRcpt, hiRcpt, hz0Rcpt, hz1Rcpt, hz2Rcpt⟩ := info_parts infoRcpt
  obtain ⟨iItem, hiItem, hz0Item, hz1Item, hz2Item⟩ := info_parts infoItem
  have HS : Seal _ := ⟨h⟩
  have HL : Seal _ := ⟨hl⟩
  have HX : Seal _ := ⟨hx⟩
  have HR : Seal _ := ⟨hr⟩
  have HZ : Seal _ := ⟨hz⟩
  have hrl : x.rc.length ≤ 1048576 := (itemN_parts hz).2.2.1
  have hik := (List.getElem?_eq_some_iff.1 hx).1
  have hkk := (List.getElem?_eq_some_iff.1 hr).1
  obtain ⟨p, hp⟩ : ∃ p, ps[i]? = some p := ⟨_, List.getElem?_eq_getElem (by omega)⟩
  have HPI : Seal (∃ p, ps[i]? = some p) := ⟨⟨p, hp⟩⟩
  have CC : Seal (∀ W, Below w.heap.size w W → Calls Tryd.prog 70 #[.agg (itemV x p)] W fun e w' => ∃ q, e = .returned (.agg (itemV x q)) ∧ St W w' (itemE.res x q)) := ⟨fun W hW => l5CopyItem_any _ x p w0 W (HS.out.later hW) (fun r hr => List.mem_append_left _ (List.mem_cons_of_mem _ (itemE.mem_ress hx hp hr))) HZ.out⟩
  have S0 : Seal (Pt w ((w.alloc (.cells (spoolV s ao cap) 25)).alloc (.cells #[.int .i64 0, .slice none 0 0] 25)) [[Res.cells (w.heap.size + 1) [.int .i64 0, .slice none 0 0]], [Res.cells w.heap.size [.int .i64 s.last, .slice ao s.items.length cap]]]) := ⟨by
    have h := ((Pt.start w).alloc (spoolV s ao cap) 25).alloc #[.int .i64 0, .slice none 0 0] 25
    simp only [World.size_alloc] at h
    exact h⟩
  obtain ⟨g, rfl, c0, c1, c2, c3, c4⟩ := itemCells (StX.later HS.out S0.out.below) hx hp
  have hi0 : (0 : Int) ≤ (i : Int) := by omega
  have hi1 : (i : Int) < (s.items.length : Int) := by omega
  have hk0 : (0 : Int) ≤ (k : Int) := by omega
  have hk1 : (k : Int) < (x.rc.length : Int) := by omega
  have u1 := (S0.out.cellsM 1 rfl).c 1 _ rfl
  clear h hl hx hr hz hp
  go_enter Tryd.func36, Tryd.ntmps36
  go_wp2_with fail
  refine (CC.out _ S0.out.below).mono ?_
  rintro e w1 ⟨⟨qa, qc, qb, qd⟩, rfl, hk⟩
  have hk' : w1.ownsRow 0 44 4 (.slice qa x.rc.length qc) x.rc.length (rcs x.rc) := hk.get List.mem_cons_self
  have hcap : x.rc.length ≤ qc := by
    rcases hk'.2 with ⟨_, h0⟩ | ⟨g', c', cur, hv, _, _, hc, _⟩
    · omega
    · simp only [Value.slice.injEq] at hv
      omega
  have hk2 : (k : Int) ≤ (qc : Int) := by omega
  have hk3 : (k : Int) + 1 ≤ (x.rc.length : Int) := by omega
  have hk4 : (0 : Int) ≤ (k : Int) + 1 := by omega
  have hwk : IntKind.i64.wrap ((k : Int) + 1) = (k : Int) + 1 := IntWalk.i64_in _ (by omega)
  obtain ⟨g2, rfl⟩ : ∃ g2, qa = some ⟨g2, 0, none⟩ := by
    rcases slice_or hk' with h | h
    · omega
    · exact h
  clear hk'
  obtain ⟨A, hA⟩ : ∃ A, (if qc = k + 1 then some (⟨g2, 0, none⟩ : Addr) else some ⟨g2, (k + 1) * 4, none⟩) = some A := by
    by_cases h : qc = k + 1
    · exact ⟨_, if_pos h⟩
    · exact ⟨_, if_neg h⟩
  obtain ⟨L, hL⟩ : ∃ L, w1.heap.size = L := ⟨_, rfl⟩
  have S1 : Seal (Pt w (w1.alloc (.cells #[.int .i64 x.id, .string x.fu, .string x.fd, .slice (some ⟨g2, 0, none⟩) x.rc.length qc, .slice qb x.body.length qd] 42)) [[Res.cells L [.int .i64 x.id, .string x.fu, .string x.fd, .slice (some ⟨g2, 0, none⟩) x.rc.length qc, .slice qb x.body.length qd]], [Res.row 44 4 (.slice (some ⟨g2, 0, none⟩) x.rc.length qc) x.rc.length (rcs x.rc)], [strsR qb qd x.body], [Res.cells (w.heap.size + 1) [.int .i64 0, .slice none 0 0]], [Res.cells w.heap.size [.int .i64 s.last, .slice (some ⟨g, 0, none⟩) s.items.length cap]]]) := ⟨hL ▸ Pt.alloc (Pt.join S0.out hk) #[.int .i64 x.id, .string x.fu, .string x.fd, .slice (some ⟨g2, 0, none⟩) x.rc.length qc, .slice qb x.body.length qd] 42⟩
  clear hk S0 CC c0 c1 c2 c3 c4 u1
  obtain ⟨M, hM⟩ : ∃ M, k + (x.rc.length - (k + 1)) = M := ⟨_, rfl⟩
  obtain ⟨RC, hRC⟩ : ∃ RC, x.rc.take k ++ x.rc.drop (k + 1) = RC := ⟨_, rfl⟩
  have HM : Seal _ := ⟨hM⟩
  have HRC : Seal _ := ⟨hRC⟩
  have HML : Seal (RC.length = M) := ⟨by rw [← hRC, ← hM, List.length_append, List.length_take, List.length_drop, Nat.min_eq_left (by omega)]⟩
  have hMl : M < x.rc.length := by omega
  clear hM hRC
  go_upto_region 2 with fail
  generalize w1.alloc (.cells #[.int .i64 x.id, .string x.fu, .string x.fd, .slice (some ⟨g2, 0, none⟩) x.rc.length qc, .slice qb x.body.length qd] 42) = W1 at *
  go_cut [] (fun wx => ∃ (b2 : Option Addr) (c2 : Nat), Pt w wx [[Res.cells L [.int .i64 x.id, .string x.fu, .string x.fd, .slice b2 M c2, .slice qb x.body.length qd]], [Res.row 44 4 (.slice b2 M c2) M (rcs RC)], [strsR qb qd x.body], [Res.cells (w.heap.size + 1) [.int .i64 0, .slice none 0 0]], [Res.cells w.heap.size [.int .i64 s.last, .slice (some ⟨g, 0, none⟩) s.items.length cap]]])
  case first =>
    have S2 : Seal (Pt w W1.drew [[Res.cells (L) [.int .i64 x.id, .string x.fu, .string x.fd, .slice (some ⟨g2, 0, none⟩) x.rc.length qc, .slice qb x.body.length qd]], [Res.row 44 4 (.slice (some ⟨g2, 0, none⟩) x.rc.length qc) (x.rc.length) (rcs x.rc)], [strsR qb qd x.body], [Res.cells (w.heap.size + 1) [.int .i64 0, .slice none 0 0]], [Res.cells (w.heap.size) [.int .i64 s.last, .slice (some ⟨g, 0, none⟩) s.items.length cap]]]) := ⟨S1.out.drew⟩
    refine wp_region_held_drew (S := (fun w' => True)) (by kernel_rfl) trivial (fun hHeld => ?_)
    refine tkH 1 (by assumption) (h := ?_)
    refine tkH 3 (by assumption) (h := ?_)
    refine tkH 6 (by assumption) (h := ?_)
    refine tkH 8 (by assumption) (h := ?_)
    refine tkH 9 (by assumption) (h := ?_)
    refine wpAnyH_ready (rs := [0, 2, 7]) (by kernel_rfl) (by simp) ?_
    refine AllReadyH.cons rfl (fun K hK => ?_) (AllReadyH.cons rfl (fun K hK => ?_) (AllReadyH.cons rfl (fun K hK => ?_) AllReadyH.nil))
    · have S3 : Seal (Pt w (W1.alloc (.cells #[] 44)).drew [[Res.row 44 4 (.slice (some ⟨W1.heap.size, 0, none⟩) 0 0) (0) ([])], [Res.cells (L) [.int .i64 x.id, .string x.fu, .string x.fd, .slice (some ⟨g2, 0, none⟩) x.rc.length qc, .slice qb x.body.length qd]], [Res.row 44 4 (.slice (some ⟨g2, 0, none⟩) x.rc.length qc) (x.rc.length) (rcs x.rc)], [strsR qb qd x.body], [Res.cells (w.heap.size + 1) [.int .i64 0, .slice none 0 0]], [Res.cells (w.heap.size) [.int .i64 s.last, .slice (some ⟨g, 0, none⟩) s.items.length cap]]]) := ⟨Pt.built S2.out #[] 44 4 0 (by decide) rfl⟩
      go_simp
      refine hK.out _ _ trivial (fun hHeld => ?_)
      clear hK K
      try simp only [Act.put, List.getElem_toArray, List.getElem_cons_succ, List.getElem_cons_zero, List.setIfInBounds_toArray, List.set_cons_zero, List.set_cons_succ]
      refine wpAnyH_ready (rs := [2, 7]) (by kernel_rfl) (by simp) ?_
      refine AllReadyH.cons rfl (fun K hK => ?_) (AllReadyH.cons rfl (fun K hK => ?_) AllReadyH.nil)
      · have ol0 := (S3.out.cellsM 1 rfl).c 3 _ rfl
        go_simp
        refine hK.out _ _ trivial (fun hHeld => ?_)
        clear hK K
        try simp only [Act.put, List.getElem_toArray, List.getElem_cons_succ, List.getElem_cons_zero, List.setIfInBounds_toArray, List.set_cons_zero, List.set_cons_succ]
        clear ol0
        refine tkH 4 (by assumption) (h := ?_)
        refine wpAnyH_ready (rs := [5, 7]) (by kernel_rfl) (by simp) ?_
        refine AllReadyH.cons rfl (fun K hK => ?_) (AllReadyH.cons rfl (fun K hK => ?_) AllReadyH.nil)
        · have SH3 : Seal (Pt w (W1.alloc (.cells #[] 44)).drew [[Res.row 44 4 (.slice (some ⟨W1.heap.size, 0, none⟩) 0 0) (0) ([])], [Res.cells (L) [.int .i64 x.id, .string x.fu, .string x.fd, .slice (some ⟨g2, 0, none⟩) x.rc.length qc, .slice qb x.body.length qd]], [Res.row 44 4 (.slice (some ⟨g2, 0, none⟩) x.rc.length qc) (x.rc.length) (rcs x.rc)], [strsR qb qd x.body], [Res.cells (w.heap.size + 1) [.int .i64 0, .slice none 0 0]], [Res.cells (w.heap.size) [.int .i64 s.last, .slice (some ⟨g, 0, none⟩) s.items.length cap]]]) := ⟨S3.out.bring 0 rfl⟩
          have OW3 : Seal _ := ⟨Pt.row1 SH3.out 0 rfl⟩
          have NW3 : Seal _ := ⟨part_news (Pt.row1 S3.out 2 rfl) 0 (ys := []) rfl rfl (rcs_pre k)⟩
          refine step_append_at rfl _ _ 39 rfl 0 44 iRcpt (.agg #[.string ByteArray.empty, .string ByteArray.empty, .int .i64 0, .int .i64 0]) 4 48 Tryd.underlying39 hiRcpt hz0Rcpt hz1Rcpt hz2Rcpt rfl (by decide) (.slice (some ⟨W1.heap.size, 0, none⟩) 0 0) (0) ([]) (by rfl) OW3.out ⟨g2, 0, none⟩ (k) (qc) (rcs (x.rc.take k)) (by first | rfl | (trace_state; rfl)) (rcs_lenT (Nat.le_of_lt hkk)) NW3.out (rcs_one _) (by unfold maxLen; omega) (by omega) (Nat.zero_le _) ?_
          intro v1 u2 hown hg hat
          rw [Nat.zero_add, List.nil_append] at hown
          have S4 : Seal (Pt w u2 [[Res.row 44 4 (v1) (k) (rcs (x.rc.take k))], [Res.cells (L) [.int .i64 x.id, .string x.fu, .string x.fd, .slice (some ⟨g2, 0, none⟩) x.rc.length qc, .slice qb x.body.length qd]], [Res.row 44 4 (.slice (some ⟨g2, 0, none⟩) x.rc.length qc) (x.rc.length) (rcs x.rc)], [strsR qb qd x.body], [Res.cells (w.heap.size + 1) [.int .i64 0, .slice none 0 0]], [Res.cells (w.heap.size) [.int .i64 s.last, .slice (some ⟨g, 0, none⟩) s.items.length cap]]]) := ⟨Pt.app SH3.out hown hg (by simpa using hat)⟩
          obtain ⟨bo3, c4, rfl, _⟩ := row_value (Pt.row1 S4.out 0 rfl)
          clear hown hg hat SH3 OW3 NW3
          refine hK.out _ _ trivial (fun hHeld => ?_)
          clear hK K
          try simp only [Act.put, List.getElem_toArray, List.getElem_cons_succ, List.getElem_cons_zero, List.setIfInBounds_toArray, List.set_cons_zero, List.set_cons_succ]
          refine wpAnyH_ready (rs := [7]) (by kernel_rfl) (by simp) ?_
          refine AllReadyH.cons rfl (fun K hK => ?_) AllReadyH.nil
          have ol0 := (S4.out.cellsM 1 rfl).c 3 _ rfl
          go_simp
          refine hK.out _ _ trivial (fun hHeld => ?_)
          clear hK K
          try simp only [Act.put, List.getElem_toArray, List.getElem_cons_succ, List.getElem_cons_zero, List.setIfInBounds_toArray, List.set_cons_zero, List.set_cons_succ]
          clear ol0
          refine tkH 10 (by assumption) (h := ?_)
          refine wpAnyH_ready (rs := [11]) (by kernel_rfl) (by simp) ?_
          refine AllReadyH.cons rfl (fun K hK => ?_) AllReadyH.nil
          have SH4 : Seal (Pt w u2 [[Res.row 44 4 (.slice bo3 (k) c4) (k) (rcs (x.rc.take k))], [Res.cells (L) [.int .i64 x.id, .string x.fu, .string x.fd, .slice (some ⟨g2, 0, none⟩) x.rc.length qc, .slice qb x.body.length qd]], [Res.row 44 4 (.slice (some ⟨g2, 0, none⟩) x.rc.length qc) (x.rc.length) (rcs x.rc)], [strsR qb qd x.body], [Res.cells (w.heap.size + 1) [.int .i64 0, .slice none 0 0]], [Res.cells (w.heap.size) [.int .i64 s.last, .slice (some ⟨g, 0, none⟩) s.items.length cap]]]) := ⟨S4.out.bring 0 rfl⟩
          have OW4 : Seal _ := ⟨Pt.row1 SH4.out 0 rfl⟩
          have NW4 : Seal _ := ⟨rest_news (Pt.row1 S4.out 2 rfl) (k + 1) hkk hcap (rcs_pre (k + 1)) (rcs_lenT hkk) hA⟩
          refine step_append_at rfl _ _ 39 rfl 0 44 iRcpt (.agg #[.string ByteArray.empty, .string ByteArray.empty, .int .i64 0, .int .i64 0]) 4 48 Tryd.underlying39 hiRcpt hz0Rcpt hz1Rcpt hz2Rcpt rfl (by decide) (.slice bo3 (k) c4) (k) (rcs (x.rc.take k)) (by rfl) OW4.out A (x.rc.length - (k + 1)) (qc - (k + 1)) (rcs (x.rc.drop (k + 1))) (by first | rfl | (trace_state; rfl)) (rcs_lenD _) NW4.out (rcs_one _) (by unfold maxLen; omega) (by omega) (Nat.zero_le _) ?_
          intro v5 u6 hown hg hat
          have S5 : Seal (Pt w u6 [[Res.row 44 4 (v5) (k + (x.rc.length - (k + 1))) (rcs (x.rc.take k) ++ rcs (x.rc.drop (k + 1)))], [Res.cells (L) [.int .i64 x.id, .string x.fu, .string x.fd, .slice (some ⟨g2, 0, none⟩) x.rc.length qc, .slice qb x.body.length qd]], [Res.row 44 4 (.slice (some ⟨g2, 0, none⟩) x.rc.length qc) (x.rc.length) (rcs x.rc)], [strsR qb qd x.body], [Res.cells (w.heap.size + 1) [.int .i64 0, .slice none 0 0]], [Res.cells (w.heap.size) [.int .i64 s.last, .slice (some ⟨g, 0, none⟩) s.items.length cap]]]) := ⟨Pt.app SH4.out hown hg (by simpa using hat)⟩
          obtain ⟨bo7, c8, rfl, _⟩ := row_value (Pt.row1 S5.out 0 rfl)
          clear hown hg hat SH4 OW4 NW4
          refine hK.out _ _ trivial (fun hHeld => ?_)
          clear hK K
          try simp only [Act.put, List.getElem_toArray, List.getElem_cons_succ, List.getElem_cons_zero, List.setIfInBounds_toArray, List.set_cons_zero, List.set_cons_succ]
          refine tkH 12 (by assumption) (h := ?_)
          refine wpAnyH_ready (rs := [13]) (by kernel_rfl) (by simp) ?_
          refine AllReadyH.cons rfl (fun K hK => ?_) AllReadyH.nil
          have S6 : Seal (Pt w u6 [[Res.cells (L) [.int .i64 x.id, .string x.fu, .string x.fd, .slice (some ⟨g2, 0, none⟩) x.rc.length qc, .slice qb x.body.length qd]], [Res.row 44 4 (.slice bo7 (k + (x.rc.length - (k + 1))) c8) (k + (x.rc.length - (k + 1))) (rcs (x.rc.take k) ++ rcs (x.rc.drop (k + 1)))], [Res.row 44 4 (.slice (some ⟨g2, 0, none⟩) x.rc.length qc) (x.rc.length) (rcs x.rc)], [strsR qb qd x.body], [Res.cells (w.heap.size + 1) [.int .i64 0, .slice none 0 0]], [Res.cells (w.heap.size) [.int .i64 s.last, .slice (some ⟨g, 0, none⟩) s.items.length cap]]]) := ⟨S5.out.bring 1 rfl⟩
          have oc0 := (S6.out.cellsM 0 rfl).c 3 _ rfl
          have of0 := (S6.out.cellsM 0 rfl).f 3 (by simp)
          have S7 : Seal (Pt w (u6.setCell ⟨L, 3, none⟩ (.slice bo7 (k + (x.rc.length - (k + 1))) c8)) [[Res.cells (L) [.int .i64 x.id, .string x.fu, .string x.fd, .slice bo7 (k + (x.rc.length - (k + 1))) c8, .slice qb x.body.length qd]], [Res.row 44 4 (.slice bo7 (k + (x.rc.length - (k + 1))) c8) (k + (x.rc.length - (k + 1))) (rcs (x.rc.take k) ++ rcs (x.rc.drop (k + 1)))], [Res.row 44 4 (.slice (some ⟨g2, 0, none⟩) x.rc.length qc) (x.rc.length) (rcs x.rc)], [strsR qb qd x.body], [Res.cells (w.heap.size + 1) [.int .i64 0, .slice none 0 0]], [Res.cells (w.heap.size) [.int .i64 s.last, .slice (some ⟨g, 0, none⟩) s.items.length cap]]]) := ⟨(S6.out).set 3 (.slice bo7 (k + (x.rc.length - (k + 1))) c8) (by simp)⟩
          go_simp
          refine hK.out _ _ trivial (fun hHeld => ?_)
          clear hK K
          try simp only [Act.put, List.getElem_toArray, List.getElem_cons_succ, List.getElem_cons_zero, List.setIfInBounds_toArray, List.set_cons_zero, List.set_cons_succ]
          clear oc0 of0
          refine wpAnyH_done (by kernel_rfl) ?_ _
          go_wp2_with fail
          go_meet
          exact ⟨bo7, c8, by rw [← HM.out, ← HRC.out, rcs_app]; exact (Pt.prefix (As := [[Res.cells (L) [.int .i64 x.id, .string x.fu, .string x.fd, .slice bo7 (k + (x.rc.length - (k + 1))) c8, .slice qb x.body.length qd]], [Res.row 44 4 (.slice bo7 (k + (x.rc.length - (k + 1))) c8) (k + (x.rc.length - (k + 1))) (rcs (x.rc.take k) ++ rcs (x.rc.drop (k + 1)))], [strsR qb qd x.body], [Res.cells (w.heap.size + 1) [.int .i64 0, .slice none 0 0]], [Res.cells (w.heap.size) [.int .i64 s.last, .slice (some ⟨g, 0, none⟩) s.items.length cap]]]) (Bs := [[Res.row 44 4 (.slice (some ⟨g2, 0, none⟩) x.rc.length qc) (x.rc.length) (rcs x.rc)]]) (Pt.bring ((Pt.bring ((Pt.bring ((Pt.bring ((Pt.bring (S7.out) 5 rfl)) 5 rfl)) 5 rfl)) 4 rfl)) 4 rfl))⟩
        · have ol0 := (S3.out.cellsM 1 rfl).c 3 _ rfl
          go_simp
          refine hK.out _ _ trivial (fun hHeld => ?_)
          clear hK K
          try simp only [Act.put, List.getElem_toArray, List.getElem_cons_succ, List.getElem_cons_zero, List.setIfInBounds_toArray, List.set_cons_zero, List.set_cons_succ]
          clear ol0
          refine tkH 10 (by assumption) (h := ?_)
          refine wpAnyH_ready (rs := [5]) (by kernel_rfl) (by simp) ?_
          refine AllReadyH.cons rfl (fun K hK => ?_) AllReadyH.nil
          have SH3 : Seal (Pt w (W1.alloc (.cells #[] 44)).drew [[Res.row 44 4 (.slice (some ⟨W1.heap.size, 0, none⟩) 0 0) (0) ([])], [Res.cells (L) [.int .i64 x.id, .string x.fu, .string x.fd, .slice (some ⟨g2, 0, none⟩) x.rc.length qc, .slice qb x.body.length qd]], [Res.row 44 4 (.slice (some ⟨g2, 0, none⟩) x.rc.length qc) (x.rc.length) (rcs x.rc)], [strsR qb qd x.body], [Res.cells (w.heap.size + 1) [.int .i64 0, .slice none 0 0]], [Res.cells (w.heap.size) [.int .i64 s.last, .slice (some ⟨g, 0, none⟩) s.items.length cap]]]) := ⟨S3.out.bring 0 rfl⟩
          have OW3 : Seal _ := ⟨Pt.row1 SH3.out 0 rfl⟩
          have NW3 : Seal _ := ⟨part_news (Pt.row1 S3.out 2 rfl) 0 (ys := []) rfl rfl (rcs_pre k)⟩
          refine step_append_at rfl _ _ 39 rfl 0 44 iRcpt (.agg #[.string ByteArray.empty, .string ByteArray.empty, .int .i64 0, .int .i64 0]) 4 48 Tryd.underlying39 hiRcpt hz0Rcpt hz1Rcpt hz2Rcpt rfl (by decide) (.slice (some ⟨W1.heap.size, 0, none⟩) 0 0) (0) ([]) (by rfl) OW3.out ⟨g2, 0, none⟩ (k) (qc) (rcs (x.rc.take k)) (by first | rfl | (trace_state; rfl)) (rcs_lenT (Nat.le_of_lt hkk)) NW3.out (rcs_one _) (by unfold maxLen; omega) (by omega) (Nat.zero_le _) ?_
          intro v9 u10 hown hg hat
          rw [Nat.zero_add, List.nil_append] at hown
          have S4 : Seal (Pt w u10 [[Res.row 44 4 (v9) (k) (rcs (x.rc.take k))], [Res.cells (L) [.int .i64 x.id, .string x.fu, .string x.fd, .slice (some ⟨g2, 0, none⟩) x.rc.length qc, .slice qb x.body.length qd]], [Res.row 44 4 (.slice (some ⟨g2, 0, none⟩) x.rc.length qc) (x.rc.length) (rcs x.rc)], [strsR qb qd x.body], [Res.cells (w.heap.size + 1) [.int .i64 0, .slice none 0 0]], [Res.cells (w.heap.size) [.int .i64 s.last, .slice (some ⟨g, 0, none⟩) s.items.length cap]]]) := ⟨Pt.app SH3.out hown hg (by simpa using hat)⟩
          obtain ⟨bo11, c12, rfl, _⟩ := row_value (Pt.row1 S4.out 0 rfl)
          clear hown hg hat SH3 OW3 NW3
          refine hK.out _ _ trivial (fun hHeld => ?_)
          clear hK K
          try simp only [Act.put, List.getElem_toArray, List.getElem_cons_succ, List.getElem_cons_zero, List.setIfInBounds_toArray, List.set_cons_zero, List.set_cons_succ]
          refine wpAnyH_ready (rs := [11]) (by kernel_rfl) (by simp) ?_
          refine AllReadyH.cons rfl (fun K hK => ?_) AllReadyH.nil
          have SH4 : Seal (Pt w u10 [[Res.row 44 4 (.slice bo11 (k) c12) (k) (rcs (x.rc.take k))], [Res.cells (L) [.int .i64 x.id, .string x.fu, .string x.fd, .slice (some ⟨g2, 0, none⟩) x.rc.length qc, .slice qb x.body.length qd]], [Res.row 44 4 (.slice (some ⟨g2, 0, none⟩) x.rc.length qc) (x.rc.length) (rcs x.rc)], [strsR qb qd x.body], [Res.cells (w.heap.size + 1) [.int .i64 0, .slice none 0 0]], [Res.cells (w.heap.size) [.int .i64 s.last, .slice (some ⟨g, 0, none⟩) s.items.length cap]]]) := ⟨S4.out.bring 0 rfl⟩
          have OW4 : Seal _ := ⟨Pt.row1 SH4.out 0 rfl⟩
          have NW4 : Seal _ := ⟨rest_news (Pt.row1 S4.out 2 rfl) (k + 1) hkk hcap (rcs_pre (k + 1)) (rcs_lenT hkk) hA⟩
          refine step_append_at rfl _ _ 39 rfl 0 44 iRcpt (.agg #[.string ByteArray.empty, .string ByteArray.empty, .int .i64 0, .int .i64 0]) 4 48 Tryd.underlying39 hiRcpt hz0Rcpt hz1Rcpt hz2Rcpt rfl (by decide) (.slice bo11 (k) c12) (k) (rcs (x.rc.take k)) (by rfl) OW4.out A (x.rc.length - (k + 1)) (qc - (k + 1)) (rcs (x.rc.drop (k + 1))) (by first | rfl | (trace_state; rfl)) (rcs_lenD _) NW4.out (rcs_one _) (by unfold maxLen; omega) (by omega) (Nat.zero_le _) ?_
          intro v13 u14 hown hg hat
          have S5 : Seal (Pt w u14 [[Res.row 44 4 (v13) (k + (x.rc.length - (k + 1))) (rcs (x.rc.take k) ++ rcs (x.rc.drop (k + 1)))], [Res.cells (L) [.int .i64 x.id, .string x.fu, .string x.fd, .slice (some ⟨g2, 0, none⟩) x.rc.length qc, .slice qb x.body.length qd]], [Res.row 44 4 (.slice (some ⟨g2, 0, none⟩) x.rc.length qc) (x.rc.length) (rcs x.rc)], [strsR qb qd x.body], [Res.cells (w.heap.size + 1) [.int .i64 0, .slice none 0 0]], [Res.cells (w.heap.size) [.int .i64 s.last, .slice (some ⟨g, 0, none⟩) s.items.length cap]]]) := ⟨Pt.app SH4.out hown hg (by simpa using hat)⟩
          obtain ⟨bo15, c16, rfl, _⟩ := row_value (Pt.row1 S5.out 0 rfl)
          clear hown hg hat SH4 OW4 NW4
          refine hK.out _ _ trivial (fun hHeld => ?_)
          clear hK K
          try simp only [Act.put, List.getElem_toArray, List.getElem_cons_succ, List.getElem_cons_zero, List.setIfInBounds_toArray, List.set_cons_zero, List.set_cons_succ]
          refine tkH 12 (by assumption) (h := ?_)
          refine wpAnyH_ready (rs := [13]) (by kernel_rfl) (by simp) ?_
          refine AllReadyH.cons rfl (fun K hK => ?_) AllReadyH.nil
          have S6 : Seal (Pt w u14 [[Res.cells (L) [.int .i64 x.id, .string x.fu, .string x.fd, .slice (some ⟨g2, 0, none⟩) x.rc.length qc, .slice qb x.body.length qd]], [Res.row 44 4 (.slice bo15 (k + (x.rc.length - (k + 1))) c16) (k + (x.rc.length - (k + 1))) (rcs (x.rc.take k) ++ rcs (x.rc.drop (k + 1)))], [Res.row 44 4 (.slice (some ⟨g2, 0, none⟩) x.rc.length qc) (x.rc.length) (rcs x.rc)], [strsR qb qd x.body], [Res.cells (w.heap.size + 1) [.int .i64 0, .slice none 0 0]], [Res.cells (w.heap.size) [.int .i64 s.last, .slice (some ⟨g, 0, none⟩) s.items.length cap]]]) := ⟨S5.out.bring 1 rfl⟩
          have oc0 := (S6.out.cellsM 0 rfl).c 3 _ rfl
          have of0 := (S6.out.cellsM 0 rfl).f 3 (by simp)
          have S7 : Seal (Pt w (u14.setCell ⟨L, 3, none⟩ (.slice bo15 (k + (x.rc.length - (k + 1))) c16)) [[Res.cells (L) [.int .i64 x.id, .string x.fu, .string x.fd, .slice bo15 (k + (x.rc.length - (k + 1))) c16, .slice qb x.body.length qd]], [Res.row 44 4 (.slice bo15 (k + (x.rc.length - (k + 1))) c16) (k + (x.rc.length - (k + 1))) (rcs (x.rc.take k) ++ rcs (x.rc.drop (k + 1)))], [Res.row 44 4 (.slice (some ⟨g2, 0, none⟩) x.rc.length qc) (x.rc.length) (rcs x.rc)], [strsR qb qd x.body], [Res.cells (w.heap.size + 1) [.int .i64 0, .slice none 0 0]], [Res.cells (w.heap.size) [.int .i64 s.last, .slice (some ⟨g, 0, none⟩) s.items.length cap]]]) := ⟨(S6.out).set 3 (.slice bo15 (k + (x.rc.length - (k + 1))) c16) (by simp)⟩
          go_simp
          refine hK.out _ _ trivial (fun hHeld => ?_)
          clear hK K
          try simp only [Act.put, List.getElem_toArray, List.getElem_cons_succ, List.getElem_cons_zero, List.setIfInBounds_toArray, List.set_cons_zero, List.set_cons_succ]
          clear oc0 of0
          refine wpAnyH_done (by kernel_rfl) ?_ _
          go_wp2_with fail
          go_meet
          exact ⟨bo15, c16, by rw [← HM.out, ← HRC.out, rcs_app]; exact (Pt.prefix (As := [[Res.cells (L) [.int .i64 x.id, .string x.fu, .string x.fd, .slice bo15 (k + (x.rc.length - (k + 1))) c16, .slice qb x.body.length qd]], [Res.row 44 4 (.slice bo15 (k + (x.rc.length - (k + 1))) c16) (k + (x.rc.length - (k + 1))) (rcs (x.rc.take k) ++ rcs (x.rc.drop (k + 1)))], [strsR qb qd x.body], [Res.cells (w.heap.size + 1) [.int .i64 0, .slice none 0 0]], [Res.cells (w.heap.size) [.int .i64 s.last, .slice (some ⟨g, 0, none⟩) s.items.length cap]]]) (Bs := [[Res.row 44 4 (.slice (some ⟨g2, 0, none⟩) x.rc.length qc) (x.rc.length) (rcs x.rc)]]) (Pt.bring ((Pt.bring ((Pt.bring ((Pt.bring ((Pt.bring (S7.out) 5 rfl)) 5 rfl)) 5 rfl)) 4 rfl)) 4 rfl))⟩
      · have ol0 := (S3.out.cellsM 1 rfl).c 3 _ rfl
        go_simp
        refine hK.out _ _ trivial (fun hHeld => ?_)
        clear hK K
        try simp only [Act.put, List.getElem_toArray, List.getElem_cons_succ, List.getElem_cons_zero, List.setIfInBounds_toArray, List.set_cons_zero, List.set_cons_succ]
        clear ol0
        refine tkH 10 (by assumption) (h := ?_)
        refine wpAnyH_ready (rs := [2]) (by kernel_rfl) (by simp) ?_
        refine AllReadyH.cons rfl (fun K hK => ?_) AllReadyH.nil
        have ol0 := (S3.out.cellsM 1 rfl).c 3 _ rfl
        go_simp
        refine hK.out _ _ trivial (fun hHeld => ?_)
        clear hK K
        try simp only [Act.put, List.getElem_toArray, List.getElem_cons_succ, List.getElem_cons_zero, List.setIfInBounds_toArray, List.set_cons_zero, List.set_cons_succ]
        clear ol0
        refine tkH 4 (by assumption) (h := ?_)
        refine wpAnyH_ready (rs := [5]) (by kernel_rfl) (by simp) ?_
        refine AllReadyH.cons rfl (fun K hK => ?_) AllReadyH.nil
        have SH3 : Seal (Pt w (W1.alloc (.cells #[] 44)).drew [[Res.row 44 4 (.slice (some ⟨W1.heap.size, 0, none⟩) 0 0) (0) ([])], [Res.cells (L) [.int .i64 x.id, .string x.fu, .string x.fd, .slice (some ⟨g2, 0, none⟩) x.rc.length qc, .slice qb x.body.length qd]], [Res.row 44 4 (.slice (some ⟨g2, 0, none⟩) x.rc.length qc) (x.rc.length) (rcs x.rc)], [strsR qb qd x.body], [Res.cells (w.heap.size + 1) [.int .i64 0, .slice none 0 0]], [Res.cells (w.heap.size) [.int .i64 s.last, .slice (some ⟨g, 0, none⟩) s.items.length cap]]]) := ⟨S3.out.bring 0 rfl⟩
        have OW3 : Seal _ := ⟨Pt.row1 SH3.out 0 rfl⟩
        have NW3 : Seal _ := ⟨part_news (Pt.row1 S3.out 2 rfl) 0 (ys := []) rfl rfl (rcs_pre k)⟩
        refine step_append_at rfl _ _ 39 rfl 0 44 iRcpt (.agg #[.string ByteArray.empty, .string ByteArray.empty, .int .i64 0, .int .i64 0]) 4 48 Tryd.underlying39 hiRcpt hz0Rcpt hz1Rcpt hz2Rcpt rfl (by decide) (.slice (some ⟨W1.heap.size, 0, none⟩) 0 0) (0) ([]) (by rfl) OW3.out ⟨g2, 0, none⟩ (k) (qc) (rcs (x.rc.take k)) (by first | rfl | (trace_state; rfl)) (rcs_lenT (Nat.le_of_lt hkk)) NW3.out (rcs_one _) (by unfold maxLen; omega) (by omega) (Nat.zero_le _) ?_
        intro v17 u18 hown hg hat
        rw [Nat.zero_add, List.nil_append] at hown
        have S4 : Seal (Pt w u18 [[Res.row 44 4 (v17) (k) (rcs (x.rc.take k))], [Res.cells (L) [.int .i64 x.id, .string x.fu, .string x.fd, .slice (some ⟨g2, 0, none⟩) x.rc.length qc, .slice qb x.body.length qd]], [Res.row 44 4 (.slice (some ⟨g2, 0, none⟩) x.rc.length qc) (x.rc.length) (rcs x.rc)], [strsR qb qd x.body], [Res.cells (w.heap.size + 1) [.int .i64 0, .slice none 0 0]], [Res.cells (w.heap.size) [.int .i64 s.last, .slice (some ⟨g, 0, none⟩) s.items.length cap]]]) := ⟨Pt.app SH3.out hown hg (by simpa using hat)⟩
        obtain ⟨bo19, c20, rfl, _⟩ := row_value (Pt.row1 S4.out 0 rfl)
        clear hown hg hat SH3 OW3 NW3
        refine hK.out _ _ trivial (fun hHeld => ?_)
        clear hK K
        try simp only [Act.put, List.getElem_toArray, List.getElem_cons_succ, List.getElem_cons_zero, List.setIfInBounds_toArray, List.set_cons_zero, List.set_cons_succ]
        refine wpAnyH_ready (rs := [11]) (by kernel_rfl) (by simp) ?_
        refine AllReadyH.cons rfl (fun K hK => ?_) AllReadyH.nil
        have SH4 : Seal (Pt w u18 [[Res.row 44 4 (.slice bo19 (k) c20) (k) (rcs (x.rc.take k))], [Res.cells (L) [.int .i64 x.id, .string x.fu, .string x.fd, .slice (some ⟨g2, 0, none⟩) x.rc.length qc, .slice qb x.body.length qd]], [Res.row 44 4 (.slice (some ⟨g2, 0, none⟩) x.rc.length qc) (x.rc.length) (rcs x.rc)], [strsR qb qd x.body], [Res.cells (w.heap.size + 1) [.int .i64 0, .slice none 0 0]], [Res.cells (w.heap.size) [.int .i64 s.last, .slice (some ⟨g, 0, none⟩) s.items.length cap]]]) := ⟨S4.out.bring 0 rfl⟩
        have OW4 : Seal _ := ⟨Pt.row1 SH4.out 0 rfl⟩
        have NW4 : Seal _ := ⟨rest_news (Pt.row1 S4.out 2 rfl) (k + 1) hkk hcap (rcs_pre (k + 1)) (rcs_lenT hkk) hA⟩
        refine step_append_at rfl _ _ 39 rfl 0 44 iRcpt (.agg #[.string ByteArray.empty, .string ByteArray.empty, .int .i64 0, .int .i64 0]) 4 48 Tryd.underlying39 hiRcpt hz0Rcpt hz1Rcpt hz2Rcpt rfl (by decide) (.slice bo19 (k) c20) (k) (rcs (x.rc.take k)) (by rfl) OW4.out A (x.rc.length - (k + 1)) (qc - (k + 1)) (rcs (x.rc.drop (k + 1))) (by first | rfl | (trace_state; rfl)) (rcs_lenD _) NW4.out (rcs_one _) (by unfold maxLen; omega) (by omega) (Nat.zero_le _) ?_
        intro v21 u22 hown hg hat
        have S5 : Seal (Pt w u22 [[Res.row 44 4 (v21) (k + (x.rc.length - (k + 1))) (rcs (x.rc.take k) ++ rcs (x.rc.drop (k + 1)))], [Res.cells (L) [.int .i64 x.id, .string x.fu, .string x.fd, .slice (some ⟨g2, 0, none⟩) x.rc.length qc, .slice qb x.body.length qd]], [Res.row 44 4 (.slice (some ⟨g2, 0, none⟩) x.rc.length qc) (x.rc.length) (rcs x.rc)], [strsR qb qd x.body], [Res.cells (w.heap.size + 1) [.int .i64 0, .slice none 0 0]], [Res.cells (w.heap.size) [.int .i64 s.last, .slice (some ⟨g, 0, none⟩) s.items.length cap]]]) := ⟨Pt.app SH4.out hown hg (by simpa using hat)⟩
        obtain ⟨bo23, c24, rfl, _⟩ := row_value (Pt.row1 S5.out 0 rfl)
        clear hown hg hat SH4 OW4 NW4
        refine hK.out _ _ trivial (fun hHeld => ?_)
        clear hK K
        try simp only [Act.put, List.getElem_toArray, List.getElem_cons_succ, List.getElem_cons_zero, List.setIfInBounds_toArray, List.set_cons_zero, List.set_cons_succ]
        refine tkH 12 (by assumption) (h := ?_)
        refine wpAnyH_ready (rs := [13]) (by kernel_rfl) (by simp) ?_
        refine AllReadyH.cons rfl (fun K hK => ?_) AllReadyH.nil
        have S6 : Seal (Pt w u22 [[Res.cells (L) [.int .i64 x.id, .string x.fu, .string x.fd, .slice (some ⟨g2, 0, none⟩) x.rc.length qc, .slice qb x.body.length qd]], [Res.row 44 4 (.slice bo23 (k + (x.rc.length - (k + 1))) c24) (k + (x.rc.length - (k + 1))) (rcs (x.rc.take k) ++ rcs (x.rc.drop (k + 1)))], [Res.row 44 4 (.slice (some ⟨g2, 0, none⟩) x.rc.length qc) (x.rc.length) (rcs x.rc)], [strsR qb qd x.body], [Res.cells (w.heap.size + 1) [.int .i64 0, .slice none 0 0]], [Res.cells (w.heap.size) [.int .i64 s.last, .slice (some ⟨g, 0, none⟩) s.items.length cap]]]) := ⟨S5.out.bring 1 rfl⟩
        have oc0 := (S6.out.cellsM 0 rfl).c 3 _ rfl
        have of0 := (S6.out.cellsM 0 rfl).f 3 (by simp)
        have S7 : Seal (Pt w (u22.setCell ⟨L, 3, none⟩ (.slice bo23 (k + (x.rc.length - (k + 1))) c24)) [[Res.cells (L) [.int .i64 x.id, .string x.fu, .string x.fd, .slice bo23 (k + (x.rc.length - (k + 1))) c24, .slice qb x.body.length qd]], [Res.row 44 4 (.slice bo23 (k + (x.rc.length - (k + 1))) c24) (k + (x.rc.length - (k + 1))) (rcs (x.rc.take k) ++ rcs (x.rc.drop (k + 1)))], [Res.row 44 4 (.slice (some ⟨g2, 0, none⟩) x.rc.length qc) (x.rc.length) (rcs x.rc)], [strsR qb qd x.body], [Res.cells (w.heap.size + 1) [.int .i64 0, .slice none 0 0]], [Res.cells (w.heap.size) [.int .i64 s.last, .slice (some ⟨g, 0, none⟩) s.items.length cap]]]) := ⟨(S6.out).set 3 (.slice bo23 (k + (x.rc.length - (k + 1))) c24) (by simp)⟩
        go_simp
        refine hK.out _ _ trivial (fun hHeld => ?_)
        clear hK K
        try simp only [Act.put, List.getElem_toArray, List.getElem_cons_succ, List.getElem_cons_zero, List.setIfInBounds_toArray, List.set_cons_zero, List.set_cons_succ]
        clear oc0 of0
        refine wpAnyH_done (by kernel_rfl) ?_ _
        go_wp2_with fail
        go_meet
        exact ⟨bo23, c24, by rw [← HM.out, ← HRC.out, rcs_app]; exact (Pt.prefix (As := [[Res.cells (L) [.int .i64 x.id, .string x.fu, .string x.fd, .slice bo23 (k + (x.rc.length - (k + 1))) c24, .slice qb x.body.length qd]], [Res.row 44 4 (.slice bo23 (k + (x.rc.length - (k + 1))) c24) (k + (x.rc.length - (k + 1))) (rcs (x.rc.take k) ++ rcs (x.rc.drop (k + 1)))], [strsR qb qd x.body], [Res.cells (w.heap.size + 1) [.int .i64 0, .slice none 0 0]], [Res.cells (w.heap.size) [.int .i64 s.last, .slice (some ⟨g, 0, none⟩) s.items.length cap]]]) (Bs := [[Res.row 44 4 (.slice (some ⟨g2, 0, none⟩) x.rc.length qc) (x.rc.length) (rcs x.rc)]]) (Pt.bring ((Pt.bring ((Pt.bring ((Pt.bring ((Pt.bring (S7.out) 5 rfl)) 5 rfl)) 5 rfl)) 4 rfl)) 4 rfl))⟩
    · have ol0 := (S2.out.cellsM 0 rfl).c 3 _ rfl
      go_simp
      refine hK.out _ _ trivial (fun hHeld => ?_)
      clear hK K
      try simp only [Act.put, List.getElem_toArray, List.getElem_cons_succ, List.getElem_cons_zero, List.setIfInBounds_toArray, List.set_cons_zero, List.set_cons_succ]
      clear ol0
      refine tkH 4 (by assumption) (h := ?_)
      refine wpAnyH_ready (rs := [0, 7]) (by kernel_rfl) (by simp) ?_
      refine AllReadyH.cons rfl (fun K hK => ?_) (AllReadyH.cons rfl (fun K hK => ?_) AllReadyH.nil)
      · have S3 : Seal (Pt w (W1.alloc (.cells #[] 44)).drew [[Res.row 44 4 (.slice (some ⟨W1.heap.size, 0, none⟩) 0 0) (0) ([])], [Res.cells (L) [.int .i64 x.id, .string x.fu, .string x.fd, .slice (some ⟨g2, 0, none⟩) x.rc.length qc, .slice qb x.body.length qd]], [Res.row 44 4 (.slice (some ⟨g2, 0, none⟩) x.rc.length qc) (x.rc.length) (rcs x.rc)], [strsR qb qd x.body], [Res.cells (w.heap.size + 1) [.int .i64 0, .slice none 0 0]], [Res.cells (w.heap.size) [.int .i64 s.last, .slice (some ⟨g, 0, none⟩) s.items.length cap]]]) := ⟨Pt.built S2.out #[] 44 4 0 (by decide) rfl⟩
        go_simp
        refine hK.out _ _ trivial (fun hHeld => ?_)
        clear hK K
        try simp only [Act.put, List.getElem_toArray, List.getElem_cons_succ, List.getElem_cons_zero, List.setIfInBounds_toArray, List.set_cons_zero, List.set_cons_succ]
        refine wpAnyH_ready (rs := [5, 7]) (by kernel_rfl) (by simp) ?_
        refine AllReadyH.cons rfl (fun K hK => ?_) (AllReadyH.cons rfl (fun K hK => ?_) AllReadyH.nil)
        · have SH3 : Seal (Pt w (W1.alloc (.cells #[] 44)).drew [[Res.row 44 4 (.slice (some ⟨W1.heap.size, 0, none⟩) 0 0) (0) ([])], [Res.cells (L) [.int .i64 x.id, .string x.fu, .string x.fd, .slice (some ⟨g2, 0, none⟩) x.rc.length qc, .slice qb x.body.length qd]], [Res.row 44 4 (.slice (some ⟨g2, 0, none⟩) x.rc.length qc) (x.rc.length) (rcs x.rc)], [strsR qb qd x.body], [Res.cells (w.heap.size + 1) [.int .i64 0, .slice none 0 0]], [Res.cells (w.heap.size) [.int .i64 s.last, .slice (some ⟨g, 0, none⟩) s.items.length cap]]]) := ⟨S3.out.bring 0 rfl⟩
          have OW3 : Seal _ := ⟨Pt.row1 SH3.out 0 rfl⟩
          have NW3 : Seal _ := ⟨part_news (Pt.row1 S3.out 2 rfl) 0 (ys := []) rfl rfl (rcs_pre k)⟩
          refine step_append_at rfl _ _ 39 rfl 0 44 iRcpt (.agg #[.string ByteArray.empty, .string ByteArray.empty, .int .i64 0, .int .i64 0]) 4 48 Tryd.underlying39 hiRcpt hz0Rcpt hz1Rcpt hz2Rcpt rfl (by decide) (.slice (some ⟨W1.heap.size, 0, none⟩) 0 0) (0) ([]) (by rfl) OW3.out ⟨g2, 0, none⟩ (k) (qc) (rcs (x.rc.take k)) (by first | rfl | (trace_state; rfl)) (rcs_lenT (Nat.le_of_lt hkk)) NW3.out (rcs_one _) (by unfold maxLen; omega) (by omega) (Nat.zero_le _) ?_
          intro v25 u26 hown hg hat
          rw [Nat.zero_add, List.nil_append] at hown
          have S4 : Seal (Pt w u26 [[Res.row 44 4 (v25) (k) (rcs (x.rc.take k))], [Res.cells (L) [.int .i64 x.id, .string x.fu, .string x.fd, .slice (some ⟨g2, 0, none⟩) x.rc.length qc, .slice qb x.body.length qd]], [Res.row 44 4 (.slice (some ⟨g2, 0, none⟩) x.rc.length qc) (x.rc.length) (rcs x.rc)], [strsR qb qd x.body], [Res.cells (w.heap.size + 1) [.int .i64 0, .slice none 0 0]], [Res.cells (w.heap.size) [.int .i64 s.last, .slice (some ⟨g, 0, none⟩) s.items.length cap]]]) := ⟨Pt.app SH3.out hown hg (by simpa using hat)⟩
          obtain ⟨bo27, c28, rfl, _⟩ := row_value (Pt.row1 S4.out 0 rfl)
          clear hown hg hat SH3 OW3 NW3
          refine hK.out _ _ trivial (fun hHeld => ?_)
          clear hK K
          try simp only [Act.put, List.getElem_toArray, List.getElem_cons_succ, List.getElem_cons_zero, List.setIfInBounds_toArray, List.set_cons_zero, List.set_cons_succ]
          refine wpAnyH_ready (rs := [7]) (by kernel_rfl) (by simp) ?_
          refine AllReadyH.cons rfl (fun K hK => ?_) AllReadyH.nil
          have ol0 := (S4.out.cellsM 1 rfl).c 3 _ rfl
          go_simp
          refine hK.out _ _ trivial (fun hHeld => ?_)
          clear hK K
          try simp only [Act.put, List.getElem_toArray, List.getElem_cons_succ, List.getElem_cons_zero, List.setIfInBounds_toArray, List.set_cons_zero, List.set_cons_succ]
          clear ol0
          refine tkH 10 (by assumption) (h := ?_)
          refine wpAnyH_ready (rs := [11]) (by kernel_rfl) (by simp) ?_
          refine AllReadyH.cons rfl (fun K hK => ?_) AllReadyH.nil
          have SH4 : Seal (Pt w u26 [[Res.row 44 4 (.slice bo27 (k) c28) (k) (rcs (x.rc.take k))], [Res.cells (L) [.int .i64 x.id, .string x.fu, .string x.fd, .slice (some ⟨g2, 0, none⟩) x.rc.length qc, .slice qb x.body.length qd]], [Res.row 44 4 (.slice (some ⟨g2, 0, none⟩) x.rc.length qc) (x.rc.length) (rcs x.rc)], [strsR qb qd x.body], [Res.cells (w.heap.size + 1) [.int .i64 0, .slice none 0 0]], [Res.cells (w.heap.size) [.int .i64 s.last, .slice (some ⟨g, 0, none⟩) s.items.length cap]]]) := ⟨S4.out.bring 0 rfl⟩
          have OW4 : Seal _ := ⟨Pt.row1 SH4.out 0 rfl⟩
          have NW4 : Seal _ := ⟨rest_news (Pt.row1 S4.out 2 rfl) (k + 1) hkk hcap (rcs_pre (k + 1)) (rcs_lenT hkk) hA⟩
          refine step_append_at rfl _ _ 39 rfl 0 44 iRcpt (.agg #[.string ByteArray.empty, .string ByteArray.empty, .int .i64 0, .int .i64 0]) 4 48 Tryd.underlying39 hiRcpt hz0Rcpt hz1Rcpt hz2Rcpt rfl (by decide) (.slice bo27 (k) c28) (k) (rcs (x.rc.take k)) (by rfl) OW4.out A (x.rc.length - (k + 1)) (qc - (k + 1)) (rcs (x.rc.drop (k + 1))) (by first | rfl | (trace_state; rfl)) (rcs_lenD _) NW4.out (rcs_one _) (by unfold maxLen; omega) (by omega) (Nat.zero_le _) ?_
          intro v29 u30 hown hg hat
          have S5 : Seal (Pt w u30 [[Res.row 44 4 (v29) (k + (x.rc.length - (k + 1))) (rcs (x.rc.take k) ++ rcs (x.rc.drop (k + 1)))], [Res.cells (L) [.int .i64 x.id, .string x.fu, .string x.fd, .slice (some ⟨g2, 0, none⟩) x.rc.length qc, .slice qb x.body.length qd]], [Res.row 44 4 (.slice (some ⟨g2, 0, none⟩) x.rc.length qc) (x.rc.length) (rcs x.rc)], [strsR qb qd x.body], [Res.cells (w.heap.size + 1) [.int .i64 0, .slice none 0 0]], [Res.cells (w.heap.size) [.int .i64 s.last, .slice (some ⟨g, 0, none⟩) s.items.length cap]]]) := ⟨Pt.app SH4.out hown hg (by simpa using hat)⟩
          obtain ⟨bo31, c32, rfl, _⟩ := row_value (Pt.row1 S5.out 0 rfl)
          clear hown hg hat SH4 OW4 NW4
          refine hK.out _ _ trivial (fun hHeld => ?_)
          clear hK K
          try simp only [Act.put, List.getElem_toArray, List.getElem_cons_succ, List.getElem_cons_zero, List.setIfInBounds_toArray, List.set_cons_zero, List.set_cons_succ]
          refine tkH 12 (by assumption) (h := ?_)
          refine wpAnyH_ready (rs := [13]) (by kernel_rfl) (by simp) ?_
          refine AllReadyH.cons rfl (fun K hK => ?_) AllReadyH.nil
          have S6 : Seal (Pt w u30 [[Res.cells (L) [.int .i64 x.id, .string x.fu, .string x.fd, .slice (some ⟨g2, 0, none⟩) x.rc.length qc, .slice qb x.body.length qd]], [Res.row 44 4 (.slice bo31 (k + (x.rc.length - (k + 1))) c32) (k + (x.rc.length - (k + 1))) (rcs (x.rc.take k) ++ rcs (x.rc.drop (k + 1)))], [Res.row 44 4 (.slice (some ⟨g2, 0, none⟩) x.rc.length qc) (x.rc.length) (rcs x.rc)], [strsR qb qd x.body], [Res.cells (w.heap.size + 1) [.int .i64 0, .slice none 0 0]], [Res.cells (w.heap.size) [.int .i64 s.last, .slice (some ⟨g, 0, none⟩) s.items.length cap]]]) := ⟨S5.out.bring 1 rfl⟩
          have oc0 := (S6.out.cellsM 0 rfl).c 3 _ rfl
          have of0 := (S6.out.cellsM 0 rfl).f 3 (by simp)
          have S7 : Seal (Pt w (u30.setCell ⟨L, 3, none⟩ (.slice bo31 (k + (x.rc.length - (k + 1))) c32)) [[Res.cells (L) [.int .i64 x.id, .string x.fu, .string x.fd, .slice bo31 (k + (x.rc.length - (k + 1))) c32, .slice qb x.body.length qd]], [Res.row 44 4 (.slice bo31 (k + (x.rc.length - (k + 1))) c32) (k + (x.rc.length - (k + 1))) (rcs (x.rc.take k) ++ rcs (x.rc.drop (k + 1)))], [Res.row 44 4 (.slice (some ⟨g2, 0, none⟩) x.rc.length qc) (x.rc.length) (rcs x.rc)], [strsR qb qd x.body], [Res.cells (w.heap.size + 1) [.int .i64 0, .slice none 0 0]], [Res.cells (w.heap.size) [.int .i64 s.last, .slice (some ⟨g, 0, none⟩) s.items.length cap]]]) := ⟨(S6.out).set 3 (.slice bo31 (k + (x.rc.length - (k + 1))) c32) (by simp)⟩
          go_simp
          refine hK.out _ _ trivial (fun hHeld => ?_)
          clear hK K
          try simp only [Act.put, List.getElem_toArray, List.getElem_cons_succ, List.getElem_cons_zero, List.setIfInBounds_toArray, List.set_cons_zero, List.set_cons_succ]
          clear oc0 of0
          refine wpAnyH_done (by kernel_rfl) ?_ _
          go_wp2_with fail
          go_meet
          exact ⟨bo31, c32, by rw [← HM.out, ← HRC.out, rcs_app]; exact (Pt.prefix (As := [[Res.cells (L) [.int .i64 x.id, .string x.fu, .string x.fd, .slice bo31 (k + (x.rc.length - (k + 1))) c32, .slice qb x.body.length qd]], [Res.row 44 4 (.slice bo31 (k + (x.rc.length - (k + 1))) c32) (k + (x.rc.length - (k + 1))) (rcs (x.rc.take k) ++ rcs (x.rc.drop (k + 1)))], [strsR qb qd x.body], [Res.cells (w.heap.size + 1) [.int .i64 0, .slice none 0 0]], [Res.cells (w.heap.size) [.int .i64 s.last, .slice (some ⟨g, 0, none⟩) s.items.length cap]]]) (Bs := [[Res.row 44 4 (.slice (some ⟨g2, 0, none⟩) x.rc.length qc) (x.rc.length) (rcs x.rc)]]) (Pt.bring ((Pt.bring ((Pt.bring ((Pt.bring ((Pt.bring (S7.out) 5 rfl)) 5 rfl)) 5 rfl)) 4 rfl)) 4 rfl))⟩
        · have ol0 := (S3.out.cellsM 1 rfl).c 3 _ rfl
          go_simp
          refine hK.out _ _ trivial (fun hHeld => ?_)
          clear hK K
          try simp only [Act.put, List.getElem_toArray, List.getElem_cons_succ, List.getElem_cons_zero, List.setIfInBounds_toArray, List.set_cons_zero, List.set_cons_succ]
          clear ol0
          refine tkH 10 (by assumption) (h := ?_)
          refine wpAnyH_ready (rs := [5]) (by kernel_rfl) (by simp) ?_
          refine AllReadyH.cons rfl (fun K hK => ?_) AllReadyH.nil
          have SH3 : Seal (Pt w (W1.alloc (.cells #[] 44)).drew [[Res.row 44 4 (.slice (some ⟨W1.heap.size, 0, none⟩) 0 0) (0) ([])], [Res.cells (L) [.int .i64 x.id, .string x.fu, .string x.fd, .slice (some ⟨g2, 0, none⟩) x.rc.length qc, .slice qb x.body.length qd]], [Res.row 44 4 (.slice (some ⟨g2, 0, none⟩) x.rc.length qc) (x.rc.length) (rcs x.rc)], [strsR qb qd x.body], [Res.cells (w.heap.size + 1) [.int .i64 0, .slice none 0 0]], [Res.cells (w.heap.size) [.int .i64 s.last, .slice (some ⟨g, 0, none⟩) s.items.length cap]]]) := ⟨S3.out.bring 0 rfl⟩
          have OW3 : Seal _ := ⟨Pt.row1 SH3.out 0 rfl⟩
          have NW3 : Seal _ := ⟨part_news (Pt.row1 S3.out 2 rfl) 0 (ys := []) rfl rfl (rcs_pre k)⟩
          refine step_append_at rfl _ _ 39 rfl 0 44 iRcpt (.agg #[.string ByteArray.empty, .string ByteArray.empty, .int .i64 0, .int .i64 0]) 4 48 Tryd.underlying39 hiRcpt hz0Rcpt hz1Rcpt hz2Rcpt rfl (by decide) (.slice (some ⟨W1.heap.size, 0, none⟩) 0 0) (0) ([]) (by rfl) OW3.out ⟨g2, 0, none⟩ (k) (qc) (rcs (x.rc.take k)) (by first | rfl | (trace_state; rfl)) (rcs_lenT (Nat.le_of_lt hkk)) NW3.out (rcs_one _) (by unfold maxLen; omega) (by omega) (Nat.zero_le _) ?_
          intro v33 u34 hown hg hat
          rw [Nat.zero_add, List.nil_append] at hown
          have S4 : Seal (Pt w u34 [[Res.row 44 4 (v33) (k) (rcs (x.rc.take k))], [Res.cells (L) [.int .i64 x.id, .string x.fu, .string x.fd, .slice (some ⟨g2, 0, none⟩) x.rc.length qc, .slice qb x.body.length qd]], [Res.row 44 4 (.slice (some ⟨g2, 0, none⟩) x.rc.length qc) (x.rc.length) (rcs x.rc)], [strsR qb qd x.body], [Res.cells (w.heap.size + 1) [.int .i64 0, .slice none 0 0]], [Res.cells (w.heap.size) [.int .i64 s.last, .slice (some ⟨g, 0, none⟩) s.items.length cap]]]) := ⟨Pt.app SH3.out hown hg (by simpa using hat)⟩
          obtain ⟨bo35, c36, rfl, _⟩ := row_value (Pt.row1 S4.out 0 rfl)
          clear hown hg hat SH3 OW3 NW3
          refine hK.out _ _ trivial (fun hHeld => ?_)
          clear hK K
          try simp only [Act.put, List.getElem_toArray, List.getElem_cons_succ, List.getElem_cons_zero, List.setIfInBounds_toArray, List.set_cons_zero, List.set_cons_succ]
          refine wpAnyH_ready (rs := [11]) (by kernel_rfl) (by simp) ?_
          refine AllReadyH.cons rfl (fun K hK => ?_) AllReadyH.nil
          have SH4 : Seal (Pt w u34 [[Res.row 44 4 (.slice bo35 (k) c36) (k) (rcs (x.rc.take k))], [Res.cells (L) [.int .i64 x.id, .string x.fu, .string x.fd, .slice (some ⟨g2, 0, none⟩) x.rc.length qc, .slice qb x.body.length qd]], [Res.row 44 4 (.slice (some ⟨g2, 0, none⟩) x.rc.length qc) (x.rc.length) (rcs x.rc)], [strsR qb qd x.body], [Res.cells (w.heap.size + 1) [.int .i64 0, .slice none 0 0]], [Res.cells (w.heap.size) [.int .i64 s.last, .slice (some ⟨g, 0, none⟩) s.items.length cap]]]) := ⟨S4.out.bring 0 rfl⟩
          have OW4 : Seal _ := ⟨Pt.row1 SH4.out 0 rfl⟩
          have NW4 : Seal _ := ⟨rest_news (Pt.row1 S4.out 2 rfl) (k + 1) hkk hcap (rcs_pre (k + 1)) (rcs_lenT hkk) hA⟩
          refine step_append_at rfl _ _ 39 rfl 0 44 iRcpt (.agg #[.string ByteArray.empty, .string ByteArray.empty, .int .i64 0, .int .i64 0]) 4 48 Tryd.underlying39 hiRcpt hz0Rcpt hz1Rcpt hz2Rcpt rfl (by decide) (.slice bo35 (k) c36) (k) (rcs (x.rc.take k)) (by rfl) OW4.out A (x.rc.length - (k + 1)) (qc - (k + 1)) (rcs (x.rc.drop (k + 1))) (by first | rfl | (trace_state; rfl)) (rcs_lenD _) NW4.out (rcs_one _) (by unfold maxLen; omega) (by omega) (Nat.zero_le _) ?_
          intro v37 u38 hown hg hat
          have S5 : Seal (Pt w u38 [[Res.row 44 4 (v37) (k + (x.rc.length - (k + 1))) (rcs (x.rc.take k) ++ rcs (x.rc.drop (k + 1)))], [Res.cells (L) [.int .i64 x.id, .string x.fu, .string x.fd, .slice (some ⟨g2, 0, none⟩) x.rc.length qc, .slice qb x.body.length qd]], [Res.row 44 4 (.slice (some ⟨g2, 0, none⟩) x.rc.length qc) (x.rc.length) (rcs x.rc)], [strsR qb qd x.body], [Res.cells (w.heap.size + 1) [.int .i64 0, .slice none 0 0]], [Res.cells (w.heap.size) [.int .i64 s.last, .slice (some ⟨g, 0, none⟩) s.items.length cap]]]) := ⟨Pt.app SH4.out hown hg (by simpa using hat)⟩
          obtain ⟨bo39, c40, rfl, _⟩ := row_value (Pt.row1 S5.out 0 rfl)
          clear hown hg hat SH4 OW4 NW4
          refine hK.out _ _ trivial (fun hHeld => ?_)
          clear hK K
          try simp only [Act.put, List.getElem_toArray, List.getElem_cons_succ, List.getElem_cons_zero, List.setIfInBounds_toArray, List.set_cons_zero, List.set_cons_succ]
          refine tkH 12 (by assumption) (h := ?_)
          refine wpAnyH_ready (rs := [13]) (by kernel_rfl) (by simp) ?_
          refine AllReadyH.cons rfl (fun K hK => ?_) AllReadyH.nil
          have S6 : Seal (Pt w u38 [[Res.cells (L) [.int .i64 x.id, .string x.fu, .string x.fd, .slice (some ⟨g2, 0, none⟩) x.rc.length qc, .slice qb x.body.length qd]], [Res.row 44 4 (.slice bo39 (k + (x.rc.length - (k + 1))) c40) (k + (x.rc.length - (k + 1))) (rcs (x.rc.take k) ++ rcs (x.rc.drop (k + 1)))], [Res.row 44 4 (.slice (some ⟨g2, 0, none⟩) x.rc.length qc) (x.rc.length) (rcs x.rc)], [strsR qb qd x.body], [Res.cells (w.heap.size + 1) [.int .i64 0, .slice none 0 0]], [Res.cells (w.heap.size) [.int .i64 s.last, .slice (some ⟨g, 0, none⟩) s.items.length cap]]]) := ⟨S5.out.bring 1 rfl⟩
          have oc0 := (S6.out.cellsM 0 rfl).c 3 _ rfl
          have of0 := (S6.out.cellsM 0 rfl).f 3 (by simp)
          have S7 : Seal (Pt w (u38.setCell ⟨L, 3, none⟩ (.slice bo39 (k + (x.rc.length - (k + 1))) c40)) [[Res.cells (L) [.int .i64 x.id, .string x.fu, .string x.fd, .slice bo39 (k + (x.rc.length - (k + 1))) c40, .slice qb x.body.length qd]], [Res.row 44 4 (.slice bo39 (k + (x.rc.length - (k + 1))) c40) (k + (x.rc.length - (k + 1))) (rcs (x.rc.take k) ++ rcs (x.rc.drop (k + 1)))], [Res.row 44 4 (.slice (some ⟨g2, 0, none⟩) x.rc.length qc) (x.rc.length) (rcs x.rc)], [strsR qb qd x.body], [Res.cells (w.heap.size + 1) [.int .i64 0, .slice none 0 0]], [Res.cells (w.heap.size) [.int .i64 s.last, .slice (some ⟨g, 0, none⟩) s.items.length cap]]]) := ⟨(S6.out).set 3 (.slice bo39 (k + (x.rc.length - (k + 1))) c40) (by simp)⟩
          go_simp
          refine hK.out _ _ trivial (fun hHeld => ?_)
          clear hK K
          try simp only [Act.put, List.getElem_toArray, List.getElem_cons_succ, List.getElem_cons_zero, List.setIfInBounds_toArray, List.set_cons_zero, List.set_cons_succ]
          clear oc0 of0
          refine wpAnyH_done (by kernel_rfl) ?_ _
          go_wp2_with fail
          go_meet
          exact ⟨bo39, c40, by rw [← HM.out, ← HRC.out, rcs_app]; exact (Pt.prefix (As := [[Res.cells (L) [.int .i64 x.id, .string x.fu, .string x.fd, .slice bo39 (k + (x.rc.length - (k + 1))) c40, .slice qb x.body.length qd]], [Res.row 44 4 (.slice bo39 (k + (x.rc.length - (k + 1))) c40) (k + (x.rc.length - (k + 1))) (rcs (x.rc.take k) ++ rcs (x.rc.drop (k + 1)))], [strsR qb qd x.body], [Res.cells (w.heap.size + 1) [.int .i64 0, .slice none 0 0]], [Res.cells (w.heap.size) [.int .i64 s.last, .slice (some ⟨g, 0, none⟩) s.items.length cap]]]) (Bs := [[Res.row 44 4 (.slice (some ⟨g2, 0, none⟩) x.rc.length qc) (x.rc.length) (rcs x.rc)]]) (Pt.bring ((Pt.bring ((Pt.bring ((Pt.bring ((Pt.bring (S7.out) 5 rfl)) 5 rfl)) 5 rfl)) 4 rfl)) 4 rfl))⟩
      · have ol0 := (S2.out.cellsM 0 rfl).c 3 _ rfl
        go_simp
        refine hK.out _ _ trivial (fun hHeld => ?_)
        clear hK K
        try simp only [Act.put, List.getElem_toArray, List.getElem_cons_succ, List.getElem_cons_zero, List.setIfInBounds_toArray, List.set_cons_zero, List.set_cons_succ]
        clear ol0
        refine tkH 10 (by assumption) (h := ?_)
        refine wpAnyH_ready (rs := [0]) (by kernel_rfl) (by simp) ?_
        refine AllReadyH.cons rfl (fun K hK => ?_) AllReadyH.nil
        have S3 : Seal (Pt w (W1.alloc (.cells #[] 44)).drew [[Res.row 44 4 (.slice (some ⟨W1.heap.size, 0, none⟩) 0 0) (0) ([])], [Res.cells (L) [.int .i64 x.id, .string x.fu, .string x.fd, .slice (some ⟨g2, 0, none⟩) x.rc.length qc, .slice qb x.body.length qd]], [Res.row 44 4 (.slice (some ⟨g2, 0, none⟩) x.rc.length qc) (x.rc.length) (rcs x.rc)], [strsR qb qd x.body], [Res.cells (w.heap.size + 1) [.int .i64 0, .slice none 0 0]], [Res.cells (w.heap.size) [.int .i64 s.last, .slice (some ⟨g, 0, none⟩) s.items.length cap]]]) := ⟨Pt.built S2.out #[] 44 4 0 (by decide) rfl⟩
        go_simp
        refine hK.out _ _ trivial (fun hHeld => ?_)
        clear hK K
        try simp only [Act.put, List.getElem_toArray, List.getElem_cons_succ, List.getElem_cons_zero, List.setIfInBounds_toArray, List.set_cons_zero, List.set_cons_succ]
        refine wpAnyH_ready (rs := [5]) (by kernel_rfl) (by simp) ?_
        refine AllReadyH.cons rfl (fun K hK => ?_) AllReadyH.nil
        have SH3 : Seal (Pt w (W1.alloc (.cells #[] 44)).drew [[Res.row 44 4 (.slice (some ⟨W1.heap.size, 0, none⟩) 0 0) (0) ([])], [Res.cells (L) [.int .i64 x.id, .string x.fu, .string x.fd, .slice (some ⟨g2, 0, none⟩) x.rc.length qc, .slice qb x.body.length qd]], [Res.row 44 4 (.slice (some ⟨g2, 0, none⟩) x.rc.length qc) (x.rc.length) (rcs x.rc)], [strsR qb qd x.body], [Res.cells (w.heap.size + 1) [.int .i64 0, .slice none 0 0]], [Res.cells (w.heap.size) [.int .i64 s.last, .slice (some ⟨g, 0, none⟩) s.items.length cap]]]) := ⟨S3.out.bring 0 rfl⟩
        have OW3 : Seal _ := ⟨Pt.row1 SH3.out 0 rfl⟩
        have NW3 : Seal _ := ⟨part_news (Pt.row1 S3.out 2 rfl) 0 (ys := []) rfl rfl (rcs_pre k)⟩
        refine step_append_at rfl _ _ 39 rfl 0 44 iRcpt (.agg #[.string ByteArray.empty, .string ByteArray.empty, .int .i64 0, .int .i64 0]) 4 48 Tryd.underlying39 hiRcpt hz0Rcpt hz1Rcpt hz2Rcpt rfl (by decide) (.slice (some ⟨W1.heap.size, 0, none⟩) 0 0) (0) ([]) (by rfl) OW3.out ⟨g2, 0, none⟩ (k) (qc) (rcs (x.rc.take k)) (by first | rfl | (trace_state; rfl)) (rcs_lenT (Nat.le_of_lt hkk)) NW3.out (rcs_one _) (by unfold maxLen; omega) (by omega) (Nat.zero_le _) ?_
        intro v41 u42 hown hg hat
        rw [Nat.zero_add, List.nil_append] at hown
        have S4 : Seal (Pt w u42 [[Res.row 44 4 (v41) (k) (rcs (x.rc.take k))], [Res.cells (L) [.int .i64 x.id, .string x.fu, .string x.fd, .slice (some ⟨g2, 0, none⟩) x.rc.length qc, .slice qb x.body.length qd]], [Res.row 44 4 (.slice (some ⟨g2, 0, none⟩) x.rc.length qc) (x.rc.length) (rcs x.rc)], [strsR qb qd x.body], [Res.cells (w.heap.size + 1) [.int .i64 0, .slice none 0 0]], [Res.cells (w.heap.size) [.int .i64 s.last, .slice (some ⟨g, 0, none⟩) s.items.length cap]]]) := ⟨Pt.app SH3.out hown hg (by simpa using hat)⟩
        obtain ⟨bo43, c44, rfl, _⟩ := row_value (Pt.row1 S4.out 0 rfl)
        clear hown hg hat SH3 OW3 NW3
        refine hK.out _ _ trivial (fun hHeld => ?_)
        clear hK K
        try simp only [Act.put, List.getElem_toArray, List.getElem_cons_succ, List.getElem_cons_zero, List.setIfInBounds_toArray, List.set_cons_zero, List.set_cons_succ]
        refine wpAnyH_ready (rs := [11]) (by kernel_rfl) (by simp) ?_
        refine AllReadyH.cons rfl (fun K hK => ?_) AllReadyH.nil
        have SH4 : Seal (Pt w u42 [[Res.row 44 4 (.slice bo43 (k) c44) (k) (rcs (x.rc.take k))], [Res.cells (L) [.int .i64 x.id, .string x.fu, .string x.fd, .slice (some ⟨g2, 0, none⟩) x.rc.length qc, .slice qb x.body.length qd]], [Res.row 44 4 (.slice (some ⟨g2, 0, none⟩) x.rc.length qc) (x.rc.length) (rcs x.rc)], [strsR qb qd x.body], [Res.cells (w.heap.size + 1) [.int .i64 0, .slice none 0 0]], [Res.cells (w.heap.size) [.int .i64 s.last, .slice (some ⟨g, 0, none⟩) s.items.length cap]]]) := ⟨S4.out.bring 0 rfl⟩
        have OW4 : Seal _ := ⟨Pt.row1 SH4.out 0 rfl⟩
        have NW4 : Seal _ := ⟨rest_news (Pt.row1 S4.out 2 rfl) (k + 1) hkk hcap (rcs_pre (k + 1)) (rcs_lenT hkk) hA⟩
        refine step_append_at rfl _ _ 39 rfl 0 44 iRcpt (.agg #[.string ByteArray.empty, .string ByteArray.empty, .int .i64 0, .int .i64 0]) 4 48 Tryd.underlying39 hiRcpt hz0Rcpt hz1Rcpt hz2Rcpt rfl (by decide) (.slice bo43 (k) c44) (k) (rcs (x.rc.take k)) (by rfl) OW4.out A (x.rc.length - (k + 1)) (qc - (k + 1)) (rcs (x.rc.drop (k + 1))) (by first | rfl | (trace_state; rfl)) (rcs_lenD _) NW4.out (rcs_one _) (by unfold maxLen; omega) (by omega) (Nat.zero_le _) ?_
        intro v45 u46 hown hg hat
        have S5 : Seal (Pt w u46 [[Res.row 44 4 (v45) (k + (x.rc.length - (k + 1))) (rcs (x.rc.take k) ++ rcs (x.rc.drop (k + 1)))], [Res.cells (L) [.int .i64 x.id, .string x.fu, .string x.fd, .slice (some ⟨g2, 0, none⟩) x.rc.length qc, .slice qb x.body.length qd]], [Res.row 44 4 (.slice (some ⟨g2, 0, none⟩) x.rc.length qc) (x.rc.length) (rcs x.rc)], [strsR qb qd x.body], [Res.cells (w.heap.size + 1) [.int .i64 0, .slice none 0 0]], [Res.cells (w.heap.size) [.int .i64 s.last, .slice (some ⟨g, 0, none⟩) s.items.length cap]]]) := ⟨Pt.app SH4.out hown hg (by simpa using hat)⟩
        obtain ⟨bo47, c48, rfl, _⟩ := row_value (Pt.row1 S5.out 0 rfl)
        clear hown hg hat SH4 OW4 NW4
        refine hK.out _ _ trivial (fun hHeld => ?_)
        clear hK K
        try simp only [Act.put, List.getElem_toArray, List.getElem_cons_succ, List.getElem_cons_zero, List.setIfInBounds_toArray, List.set_cons_zero, List.set_cons_succ]
        refine tkH 12 (by assumption) (h := ?_)
        refine wpAnyH_ready (rs := [13]) (by kernel_rfl) (by simp) ?_
        refine AllReadyH.cons rfl (fun K hK => ?_) AllReadyH.nil
        have S6 : Seal (Pt w u46 [[Res.cells (L) [.int .i64 x.id, .string x.fu, .string x.fd, .slice (some ⟨g2, 0, none⟩) x.rc.length qc, .slice qb x.body.length qd]], [Res.row 44 4 (.slice bo47 (k + (x.rc.length - (k + 1))) c48) (k + (x.rc.length - (k + 1))) (rcs (x.rc.take k) ++ rcs (x.rc.drop (k + 1)))], [Res.row 44 4 (.slice (some ⟨g2, 0, none⟩) x.rc.length qc) (x.rc.length) (rcs x.rc)], [strsR qb qd x.body], [Res.cells (w.heap.size + 1) [.int .i64 0, .slice none 0 0]], [Res.cells (w.heap.size) [.int .i64 s.last, .slice (some ⟨g, 0, none⟩) s.items.length cap]]]) := ⟨S5.out.bring 1 rfl⟩
        have oc0 := (S6.out.cellsM 0 rfl).c 3 _ rfl
        have of0 := (S6.out.cellsM 0 rfl).f 3 (by simp)
        have S7 : Seal (Pt w (u46.setCell ⟨L, 3, none⟩ (.slice bo47 (k + (x.rc.length - (k + 1))) c48)) [[Res.cells (L) [.int .i64 x.id, .string x.fu, .string x.fd, .slice bo47 (k + (x.rc.length - (k + 1))) c48, .slice qb x.body.length qd]], [Res.row 44 4 (.slice bo47 (k + (x.rc.length - (k + 1))) c48) (k + (x.rc.length - (k + 1))) (rcs (x.rc.take k) ++ rcs (x.rc.drop (k + 1)))], [Res.row 44 4 (.slice (some ⟨g2, 0, none⟩) x.rc.length qc) (x.rc.length) (rcs x.rc)], [strsR qb qd x.body], [Res.cells (w.heap.size + 1) [.int .i64 0, .slice none 0 0]], [Res.cells (w.heap.size) [.int .i64 s.last, .slice (some ⟨g, 0, none⟩) s.items.length cap]]]) := ⟨(S6.out).set 3 (.slice bo47 (k + (x.rc.length - (k + 1))) c48) (by simp)⟩
        go_simp
        refine hK.out _ _ trivial (fun hHeld => ?_)
        clear hK K
        try simp only [Act.put, List.getElem_toArray, List.getElem_cons_succ, List.getElem_cons_zero, List.setIfInBounds_toArray, List.set_cons_zero, List.set_cons_succ]
        clear oc0 of0
        refine wpAnyH_done (by kernel_rfl) ?_ _
        go_wp2_with fail
        go_meet
        exact ⟨bo47, c48, by rw [← HM.out, ← HRC.out, rcs_app]; exact (Pt.prefix (As := [[Res.cells (L) [.int .i64 x.id, .string x.fu, .string x.fd, .slice bo47 (k + (x.rc.length - (k + 1))) c48, .slice qb x.body.length qd]], [Res.row 44 4 (.slice bo47 (k + (x.rc.length - (k + 1))) c48) (k + (x.rc.length - (k + 1))) (rcs (x.rc.take k) ++ rcs (x.rc.drop (k + 1)))], [strsR qb qd x.body], [Res.cells (w.heap.size + 1) [.int .i64 0, .slice none 0 0]], [Res.cells (w.heap.size) [.int .i64 s.last, .slice (some ⟨g, 0, none⟩) s.items.length cap]]]) (Bs := [[Res.row 44 4 (.slice (some ⟨g2, 0, none⟩) x.rc.length qc) (x.rc.length) (rcs x.rc)]]) (Pt.bring ((Pt.bring ((Pt.bring ((Pt.bring ((Pt.bring (S7.out) 5 rfl)) 5 rfl)) 5 rfl)) 4 rfl)) 4 rfl))⟩
    · have ol0 := (S2.out.cellsM 0 rfl).c 3 _ rfl
      go_simp
      refine hK.out _ _ trivial (fun hHeld => ?_)
      clear hK K
      try simp only [Act.put, List.getElem_toArray, List.getElem_cons_succ, List.getElem_cons_zero, List.setIfInBounds_toArray, List.set_cons_zero, List.set_cons_succ]
      clear ol0
      refine tkH 10 (by assumption) (h := ?_)
      refine wpAnyH_ready (rs := [0, 2]) (by kernel_rfl) (by simp) ?_
      refine AllReadyH.cons rfl (fun K hK => ?_) (AllReadyH.cons rfl (fun K hK => ?_) AllReadyH.nil)
      · have S3 : Seal (Pt w (W1.alloc (.cells #[] 44)).drew [[Res.row 44 4 (.slice (some ⟨W1.heap.size, 0, none⟩) 0 0) (0) ([])], [Res.cells (L) [.int .i64 x.id, .string x.fu, .string x.fd, .slice (some ⟨g2, 0, none⟩) x.rc.length qc, .slice qb x.body.length qd]], [Res.row 44 4 (.slice (some ⟨g2, 0, none⟩) x.rc.length qc) (x.rc.length) (rcs x.rc)], [strsR qb qd x.body], [Res.cells (w.heap.size + 1) [.int .i64 0, .slice none 0 0]], [Res.cells (w.heap.size) [.int .i64 s.last, .slice (some ⟨g, 0, none⟩) s.items.length cap]]]) := ⟨Pt.built S2.out #[] 44 4 0 (by decide) rfl⟩
        go_simp
        refine hK.out _ _ trivial (fun hHeld => ?_)
        clear hK K
        try simp only [Act.put, List.getElem_toArray, List.getElem_cons_succ, List.getElem_cons_zero, List.setIfInBounds_toArray, List.set_cons_zero, List.set_cons_succ]
        refine wpAnyH_ready (rs := [2]) (by kernel_rfl) (by simp) ?_
        refine AllReadyH.cons rfl (fun K hK => ?_) AllReadyH.nil
        have ol0 := (S3.out.cellsM 1 rfl).c 3 _ rfl
        go_simp
        refine hK.out _ _ trivial (fun hHeld => ?_)
        clear hK K
        try simp only [Act.put, List.getElem_toArray, List.getElem_cons_succ, List.getElem_cons_zero, List.setIfInBounds_toArray, List.set_cons_zero, List.set_cons_succ]
        clear ol0
        refine tkH 4 (by assumption) (h := ?_)
        refine wpAnyH_ready (rs := [5]) (by kernel_rfl) (by simp) ?_
        refine AllReadyH.cons rfl (fun K hK => ?_) AllReadyH.nil
        have SH3 : Seal (Pt w (W1.alloc (.cells #[] 44)).drew [[Res.row 44 4 (.slice (some ⟨W1.heap.size, 0, none⟩) 0 0) (0) ([])], [Res.cells (L) [.int .i64 x.id, .string x.fu, .string x.fd, .slice (some ⟨g2, 0, none⟩) x.rc.length qc, .slice qb x.body.length qd]], [Res.row 44 4 (.slice (some ⟨g2, 0, none⟩) x.rc.length qc) (x.rc.length) (rcs x.rc)], [strsR qb qd x.body], [Res.cells (w.heap.size + 1) [.int .i64 0, .slice none 0 0]], [Res.cells (w.heap.size) [.int .i64 s.last, .slice (some ⟨g, 0, none⟩) s.items.length cap]]]) := ⟨S3.out.bring 0 rfl⟩
        have OW3 : Seal _ := ⟨Pt.row1 SH3.out 0 rfl⟩
        have NW3 : Seal _ := ⟨part_news (Pt.row1 S3.out 2 rfl) 0 (ys := []) rfl rfl (rcs_pre k)⟩
        refine step_append_at rfl _ _ 39 rfl 0 44 iRcpt (.agg #[.string ByteArray.empty, .string ByteArray.empty, .int .i64 0, .int .i64 0]) 4 48 Tryd.underlying39 hiRcpt hz0Rcpt hz1Rcpt hz2Rcpt rfl (by decide) (.slice (some ⟨W1.heap.size, 0, none⟩) 0 0) (0) ([]) (by rfl) OW3.out ⟨g2, 0, none⟩ (k) (qc) (rcs (x.rc.take k)) (by first | rfl | (trace_state; rfl)) (rcs_lenT (Nat.le_of_lt hkk)) NW3.out (rcs_one _) (by unfold maxLen; omega) (by omega) (Nat.zero_le _) ?_
        intro v49 u50 hown hg hat
        rw [Nat.zero_add, List.nil_append] at hown
        have S4 : Seal (Pt w u50 [[Res.row 44 4 (v49) (k) (rcs (x.rc.take k))], [Res.cells (L) [.int .i64 x.id, .string x.fu, .string x.fd, .slice (some ⟨g2, 0, none⟩) x.rc.length qc, .slice qb x.body.length qd]], [Res.row 44 4 (.slice (some ⟨g2, 0, none⟩) x.rc.length qc) (x.rc.length) (rcs x.rc)], [strsR qb qd x.body], [Res.cells (w.heap.size + 1) [.int .i64 0, .slice none 0 0]], [Res.cells (w.heap.size) [.int .i64 s.last, .slice (some ⟨g, 0, none⟩) s.items.length cap]]]) := ⟨Pt.app SH3.out hown hg (by simpa using hat)⟩
        obtain ⟨bo51, c52, rfl, _⟩ := row_value (Pt.row1 S4.out 0 rfl)
        clear hown hg hat SH3 OW3 NW3
        refine hK.out _ _ trivial (fun hHeld => ?_)
        clear hK K
        try simp only [Act.put, List.getElem_toArray, List.getElem_cons_succ, List.getElem_cons_zero, List.setIfInBounds_toArray, List.set_cons_zero, List.set_cons_succ]
        refine wpAnyH_ready (rs := [11]) (by kernel_rfl) (by simp) ?_
        refine AllReadyH.cons rfl (fun K hK => ?_) AllReadyH.nil
        have SH4 : Seal (Pt w u50 [[Res.row 44 4 (.slice bo51 (k) c52) (k) (rcs (x.rc.take k))], [Res.cells (L) [.int .i64 x.id, .string x.fu, .string x.fd, .slice (some ⟨g2, 0, none⟩) x.rc.length qc, .slice qb x.body.length qd]], [Res.row 44 4 (.slice (some ⟨g2, 0, none⟩) x.rc.length qc) (x.rc.length) (rcs x.rc)], [strsR qb qd x.body], [Res.cells (w.heap.size + 1) [.int .i64 0, .slice none 0 0]], [Res.cells (w.heap.size) [.int .i64 s.last, .slice (some ⟨g, 0, none⟩) s.items.length cap]]]) := ⟨S4.out.bring 0 rfl⟩
        have OW4 : Seal _ := ⟨Pt.row1 SH4.out 0 rfl⟩
        have NW4 : Seal _ := ⟨rest_news (Pt.row1 S4.out 2 rfl) (k + 1) hkk hcap (rcs_pre (k + 1)) (rcs_lenT hkk) hA⟩
        refine step_append_at rfl _ _ 39 rfl 0 44 iRcpt (.agg #[.string ByteArray.empty, .string ByteArray.empty, .int .i64 0, .int .i64 0]) 4 48 Tryd.underlying39 hiRcpt hz0Rcpt hz1Rcpt hz2Rcpt rfl (by decide) (.slice bo51 (k) c52) (k) (rcs (x.rc.take k)) (by rfl) OW4.out A (x.rc.length - (k + 1)) (qc - (k + 1)) (rcs (x.rc.drop (k + 1))) (by first | rfl | (trace_state; rfl)) (rcs_lenD _) NW4.out (rcs_one _) (by unfold maxLen; omega) (by omega) (Nat.zero_le _) ?_
        intro v53 u54 hown hg hat
        have S5 : Seal (Pt w u54 [[Res.row 44 4 (v53) (k + (x.rc.length - (k + 1))) (rcs (x.rc.take k) ++ rcs (x.rc.drop (k + 1)))], [Res.cells (L) [.int .i64 x.id, .string x.fu, .string x.fd, .slice (some ⟨g2, 0, none⟩) x.rc.length qc, .slice qb x.body.length qd]], [Res.row 44 4 (.slice (some ⟨g2, 0, none⟩) x.rc.length qc) (x.rc.length) (rcs x.rc)], [strsR qb qd x.body], [Res.cells (w.heap.size + 1) [.int .i64 0, .slice none 0 0]], [Res.cells (w.heap.size) [.int .i64 s.last, .slice (some ⟨g, 0, none⟩) s.items.length cap]]]) := ⟨Pt.app SH4.out hown hg (by simpa using hat)⟩
        obtain ⟨bo55, c56, rfl, _⟩ := row_value (Pt.row1 S5.out 0 rfl)
        clear hown hg hat SH4 OW4 NW4
        refine hK.out _ _ trivial (fun hHeld => ?_)
        clear hK K
        try simp only [Act.put, List.getElem_toArray, List.getElem_cons_succ, List.getElem_cons_zero, List.setIfInBounds_toArray, List.set_cons_zero, List.set_cons_succ]
        refine tkH 12 (by assumption) (h := ?_)
        refine wpAnyH_ready (rs := [13]) (by kernel_rfl) (by simp) ?_
        refine AllReadyH.cons rfl (fun K hK => ?_) AllReadyH.nil
        have S6 : Seal (Pt w u54 [[Res.cells (L) [.int .i64 x.id, .string x.fu, .string x.fd, .slice (some ⟨g2, 0, none⟩) x.rc.length qc, .slice qb x.body.length qd]], [Res.row 44 4 (.slice bo55 (k + (x.rc.length - (k + 1))) c56) (k + (x.rc.length - (k + 1))) (rcs (x.rc.take k) ++ rcs (x.rc.drop (k + 1)))], [Res.row 44 4 (.slice (some ⟨g2, 0, none⟩) x.rc.length qc) (x.rc.length) (rcs x.rc)], [strsR qb qd x.body], [Res.cells (w.heap.size + 1) [.int .i64 0, .slice none 0 0]], [Res.cells (w.heap.size) [.int .i64 s.last, .slice (some ⟨g, 0, none⟩) s.items.length cap]]]) := ⟨S5.out.bring 1 rfl⟩
        have oc0 := (S6.out.cellsM 0 rfl).c 3 _ rfl
        have of0 := (S6.out.cellsM 0 rfl).f 3 (by simp)
        have S7 : Seal (Pt w (u54.setCell ⟨L, 3, none⟩ (.slice bo55 (k + (x.rc.length - (k + 1))) c56)) [[Res.cells (L) [.int .i64 x.id, .string x.fu, .string x.fd, .slice bo55 (k + (x.rc.length - (k + 1))) c56, .slice qb x.body.length qd]], [Res.row 44 4 (.slice bo55 (k + (x.rc.length - (k + 1))) c56) (k + (x.rc.length - (k + 1))) (rcs (x.rc.take k) ++ rcs (x.rc.drop (k + 1)))], [Res.row 44 4 (.slice (some ⟨g2, 0, none⟩) x.rc.length qc) (x.rc.length) (rcs x.rc)], [strsR qb qd x.body], [Res.cells (w.heap.size + 1) [.int .i64 0, .slice none 0 0]], [Res.cells (w.heap.size) [.int .i64 s.last, .slice (some ⟨g, 0, none⟩) s.items.length cap]]]) := ⟨(S6.out).set 3 (.slice bo55 (k + (x.rc.length - (k + 1))) c56) (by simp)⟩
        go_simp
        refine hK.out _ _ trivial (fun hHeld => ?_)
        clear hK K
        try simp only [Act.put, List.getElem_toArray, List.getElem_cons_succ, List.getElem_cons_zero, List.setIfInBounds_toArray, List.set_cons_zero, List.set_cons_succ]
        clear oc0 of0
        refine wpAnyH_done (by kernel_rfl) ?_ _
        go_wp2_with fail
        go_meet
        exact ⟨bo55, c56, by rw [← HM.out, ← HRC.out, rcs_app]; exact (Pt.prefix (As := [[Res.cells (L) [.int .i64 x.id, .string x.fu, .string x.fd, .slice bo55 (k + (x.rc.length - (k + 1))) c56, .slice qb x.body.length qd]], [Res.row 44 4 (.slice bo55 (k + (x.rc.length - (k + 1))) c56) (k + (x.rc.length - (k + 1))) (rcs (x.rc.take k) ++ rcs (x.rc.drop (k + 1)))], [strsR qb qd x.body], [Res.cells (w.heap.size + 1) [.int .i64 0, .slice none 0 0]], [Res.cells (w.heap.size) [.int .i64 s.last, .slice (some ⟨g, 0, none⟩) s.items.length cap]]]) (Bs := [[Res.row 44 4 (.slice (some ⟨g2, 0, none⟩) x.rc.length qc) (x.rc.length) (rcs x.rc)]]) (Pt.bring ((Pt.bring ((Pt.bring ((Pt.bring ((Pt.bring (S7.out) 5 rfl)) 5 rfl)) 5 rfl)) 4 rfl)) 4 rfl))⟩
      · have ol0 := (S2.out.cellsM 0 rfl).c 3 _ rfl
        go_simp
        refine hK.out _ _ trivial (fun hHeld => ?_)
        clear hK K
        try simp only [Act.put, List.getElem_toArray, List.getElem_cons_succ, List.getElem_cons_zero, List.setIfInBounds_toArray, List.set_cons_zero, List.set_cons_succ]
        clear ol0
        refine tkH 4 (by assumption) (h := ?_)
        refine wpAnyH_ready (rs := [0]) (by kernel_rfl) (by simp) ?_
        refine AllReadyH.cons rfl (fun K hK => ?_) AllReadyH.nil
        have S3 : Seal (Pt w (W1.alloc (.cells #[] 44)).drew [[Res.row 44 4 (.slice (some ⟨W1.heap.size, 0, none⟩) 0 0) (0) ([])], [Res.cells (L) [.int .i64 x.id, .string x.fu, .string x.fd, .slice (some ⟨g2, 0, none⟩) x.rc.length qc, .slice qb x.body.length qd]], [Res.row 44 4 (.slice (some ⟨g2, 0, none⟩) x.rc.length qc) (x.rc.length) (rcs x.rc)], [strsR qb qd x.body], [Res.cells (w.heap.size + 1) [.int .i64 0, .slice none 0 0]], [Res.cells (w.heap.size) [.int .i64 s.last, .slice (some ⟨g, 0, none⟩) s.items.length cap]]]) := ⟨Pt.built S2.out #[] 44 4 0 (by decide) rfl⟩
        go_simp
        refine hK.out _ _ trivial (fun hHeld => ?_)
        clear hK K
        try simp only [Act.put, List.getElem_toArray, List.getElem_cons_succ, List.getElem_cons_zero, List.setIfInBounds_toArray, List.set_cons_zero, List.set_cons_succ]
        refine wpAnyH_ready (rs := [5]) (by kernel_rfl) (by simp) ?_
        refine AllReadyH.cons rfl (fun K hK => ?_) AllReadyH.nil
        have SH3 : Seal (Pt w (W1.alloc (.cells #[] 44)).drew [[Res.row 44 4 (.slice (some ⟨W1.heap.size, 0, none⟩) 0 0) (0) ([])], [Res.cells (L) [.int .i64 x.id, .string x.fu, .string x.fd, .slice (some ⟨g2, 0, none⟩) x.rc.length qc, .slice qb x.body.length qd]], [Res.row 44 4 (.slice (some ⟨g2, 0, none⟩) x.rc.length qc) (x.rc.length) (rcs x.rc)], [strsR qb qd x.body], [Res.cells (w.heap.size + 1) [.int .i64 0, .slice none 0 0]], [Res.cells (w.heap.size) [.int .i64 s.last, .slice (some ⟨g, 0, none⟩) s.items.length cap]]]) := ⟨S3.out.bring 0 rfl⟩
        have OW3 : Seal _ := ⟨Pt.row1 SH3.out 0 rfl⟩
        have NW3 : Seal _ := ⟨part_news (Pt.row1 S3.out 2 rfl) 0 (ys := []) rfl rfl (rcs_pre k)⟩
        refine step_append_at rfl _ _ 39 rfl 0 44 iRcpt (.agg #[.string ByteArray.empty, .string ByteArray.empty, .int .i64 0, .int .i64 0]) 4 48 Tryd.underlying39 hiRcpt hz0Rcpt hz1Rcpt hz2Rcpt rfl (by decide) (.slice (some ⟨W1.heap.size, 0, none⟩) 0 0) (0) ([]) (by rfl) OW3.out ⟨g2, 0, none⟩ (k) (qc) (rcs (x.rc.take k)) (by first | rfl | (trace_state; rfl)) (rcs_lenT (Nat.le_of_lt hkk)) NW3.out (rcs_one _) (by unfold maxLen; omega) (by omega) (Nat.zero_le _) ?_
        intro v57 u58 hown hg hat
        rw [Nat.zero_add, List.nil_append] at hown
        have S4 : Seal (Pt w u58 [[Res.row 44 4 (v57) (k) (rcs (x.rc.take k))], [Res.cells (L) [.int .i64 x.id, .string x.fu, .string x.fd, .slice (some ⟨g2, 0, none⟩) x.rc.length qc, .slice qb x.body.length qd]], [Res.row 44 4 (.slice (some ⟨g2, 0, none⟩) x.rc.length qc) (x.rc.length) (rcs x.rc)], [strsR qb qd x.body], [Res.cells (w.heap.size + 1) [.int .i64 0, .slice none 0 0]], [Res.cells (w.heap.size) [.int .i64 s.last, .slice (some ⟨g, 0, none⟩) s.items.length cap]]]) := ⟨Pt.app SH3.out hown hg (by simpa using hat)⟩
        obtain ⟨bo59, c60, rfl, _⟩ := row_value (Pt.row1 S4.out 0 rfl)
        clear hown hg hat SH3 OW3 NW3
        refine hK.out _ _ trivial (fun hHeld => ?_)
        clear hK K
        try simp only [Act.put, List.getElem_toArray, List.getElem_cons_succ, List.getElem_cons_zero, List.setIfInBounds_toArray, List.set_cons_zero, List.set_cons_succ]
        refine wpAnyH_ready (rs := [11]) (by kernel_rfl) (by simp) ?_
        refine AllReadyH.cons rfl (fun K hK => ?_) AllReadyH.nil
        have SH4 : Seal (Pt w u58 [[Res.row 44 4 (.slice bo59 (k) c60) (k) (rcs (x.rc.take k))], [Res.cells (L) [.int .i64 x.id, .string x.fu, .string x.fd, .slice (some ⟨g2, 0, none⟩) x.rc.length qc, .slice qb x.body.length qd]], [Res.row 44 4 (.slice (some ⟨g2, 0, none⟩) x.rc.length qc) (x.rc.length) (rcs x.rc)], [strsR qb qd x.body], [Res.cells (w.heap.size + 1) [.int .i64 0, .slice none 0 0]], [Res.cells (w.heap.size) [.int .i64 s.last, .slice (some ⟨g, 0, none⟩) s.items.length cap]]]) := ⟨S4.out.bring 0 rfl⟩
        have OW4 : Seal _ := ⟨Pt.row1 SH4.out 0 rfl⟩
        have NW4 : Seal _ := ⟨rest_news (Pt.row1 S4.out 2 rfl) (k + 1) hkk hcap (rcs_pre (k + 1)) (rcs_lenT hkk) hA⟩
        refine step_append_at rfl _ _ 39 rfl 0 44 iRcpt (.agg #[.string ByteArray.empty, .string ByteArray.empty, .int .i64 0, .int .i64 0]) 4 48 Tryd.underlying39 hiRcpt hz0Rcpt hz1Rcpt hz2Rcpt rfl (by decide) (.slice bo59 (k) c60) (k) (rcs (x.rc.take k)) (by rfl) OW4.out A (x.rc.length - (k + 1)) (qc - (k + 1)) (rcs (x.rc.drop (k + 1))) (by first | rfl | (trace_state; rfl)) (rcs_lenD _) NW4.out (rcs_one _) (by unfold maxLen; omega) (by omega) (Nat.zero_le _) ?_
        intro v61 u62 hown hg hat
        have S5 : Seal (Pt w u62 [[Res.row 44 4 (v61) (k + (x.rc.length - (k + 1))) (rcs (x.rc.take k) ++ rcs (x.rc.drop (k + 1)))], [Res.cells (L) [.int .i64 x.id, .string x.fu, .string x.fd, .slice (some ⟨g2, 0, none⟩) x.rc.length qc, .slice qb x.body.length qd]], [Res.row 44 4 (.slice (some ⟨g2, 0, none⟩) x.rc.length qc) (x.rc.length) (rcs x.rc)], [strsR qb qd x.body], [Res.cells (w.heap.size + 1) [.int .i64 0, .slice none 0 0]], [Res.cells (w.heap.size) [.int .i64 s.last, .slice (some ⟨g, 0, none⟩) s.items.length cap]]]) := ⟨Pt.app SH4.out hown hg (by simpa using hat)⟩
        obtain ⟨bo63, c64, rfl, _⟩ := row_value (Pt.row1 S5.out 0 rfl)
        clear hown hg hat SH4 OW4 NW4
        refine hK.out _ _ trivial (fun hHeld => ?_)
        clear hK K
        try simp only [Act.put, List.getElem_toArray, List.getElem_cons_succ, List.getElem_cons_zero, List.setIfInBounds_toArray, List.set_cons_zero, List.set_cons_succ]
        refine tkH 12 (by assumption) (h := ?_)
        refine wpAnyH_ready (rs := [13]) (by kernel_rfl) (by simp) ?_
        refine AllReadyH.cons rfl (fun K hK => ?_) AllReadyH.nil
        have S6 : Seal (Pt w u62 [[Res.cells (L) [.int .i64 x.id, .string x.fu, .string x.fd, .slice (some ⟨g2, 0, none⟩) x.rc.length qc, .slice qb x.body.length qd]], [Res.row 44 4 (.slice bo63 (k + (x.rc.length - (k + 1))) c64) (k + (x.rc.length - (k + 1))) (rcs (x.rc.take k) ++ rcs (x.rc.drop (k + 1)))], [Res.row 44 4 (.slice (some ⟨g2, 0, none⟩) x.rc.length qc) (x.rc.length) (rcs x.rc)], [strsR qb qd x.body], [Res.cells (w.heap.size + 1) [.int .i64 0, .slice none 0 0]], [Res.cells (w.heap.size) [.int .i64 s.last, .slice (some ⟨g, 0, none⟩) s.items.length cap]]]) := ⟨S5.out.bring 1 rfl⟩
        have oc0 := (S6.out.cellsM 0 rfl).c 3 _ rfl
        have of0 := (S6.out.cellsM 0 rfl).f 3 (by simp)
        have S7 : Seal (Pt w (u62.setCell ⟨L, 3, none⟩ (.slice bo63 (k + (x.rc.length - (k + 1))) c64)) [[Res.cells (L) [.int .i64 x.id, .string x.fu, .string x.fd, .slice bo63 (k + (x.rc.length - (k + 1))) c64, .slice qb x.body.length qd]], [Res.row 44 4 (.slice bo63 (k + (x.rc.length - (k + 1))) c64) (k + (x.rc.length - (k + 1))) (rcs (x.rc.take k) ++ rcs (x.rc.drop (k + 1)))], [Res.row 44 4 (.slice (some ⟨g2, 0, none⟩) x.rc.length qc) (x.rc.length) (rcs x.rc)], [strsR qb qd x.body], [Res.cells (w.heap.size + 1) [.int .i64 0, .slice none 0 0]], [Res.cells (w.heap.size) [.int .i64 s.last, .slice (some ⟨g, 0, none⟩) s.items.length cap]]]) := ⟨(S6.out).set 3 (.slice bo63 (k + (x.rc.length - (k + 1))) c64) (by simp)⟩
        go_simp
        refine hK.out _ _ trivial (fun hHeld => ?_)
        clear hK K
        try simp only [Act.put, List.getElem_toArray, List.getElem_cons_succ, List.getElem_cons_zero, List.setIfInBounds_toArray, List.set_cons_zero, List.set_cons_succ]
        clear oc0 of0
        refine wpAnyH_done (by kernel_rfl) ?_ _
        go_wp2_with fail
        go_meet
        exact ⟨bo63, c64, by rw [← HM.out, ← HRC.out, rcs_app]; exact (Pt.prefix (As := [[Res.cells (L) [.int .i64 x.id, .string x.fu, .string x.fd, .slice bo63 (k + (x.rc.length - (k + 1))) c64, .slice qb x.body.length qd]], [Res.row 44 4 (.slice bo63 (k + (x.rc.length - (k + 1))) c64) (k + (x.rc.length - (k + 1))) (rcs (x.rc.take k) ++ rcs (x.rc.drop (k + 1)))], [strsR qb qd x.body], [Res.cells (w.heap.size + 1) [.int .i64 0, .slice none 0 0]], [Res.cells (w.heap.size) [.int .i64 s.last, .slice (some ⟨g, 0, none⟩) s.items.length cap]]]) (Bs := [[Res.row 44 4 (.slice (some ⟨g2, 0, none⟩) x.rc.length qc) (x.rc.length) (rcs x.rc)]]) (Pt.bring ((Pt.bring ((Pt.bring ((Pt.bring ((Pt.bring (S7.out) 5 rfl)) 5 rfl)) 5 rfl)) 4 rfl)) 4 rfl))⟩
  case rest =>
  obtain ⟨b2, c2, hS⟩ := hcut
  have S2 : Seal (Pt w wc [[Res.cells L [.int .i64 x.id, .string x.fu, .string x.fd, .slice b2 M c2, .slice qb x.body.length qd]], [Res.row 44 4 (.slice b2 M c2) M (rcs RC)], [strsR qb qd x.body], [Res.cells (w.heap.size + 1) [.int .i64 0, .slice none 0 0]], [Res.cells w.heap.size [.int .i64 s.last, .slice (some ⟨g, 0, none⟩) s.items.length cap]]]) := ⟨hS⟩
  clear hS
  generalize wc = w3 at *
  -- the row of items, up to the item
  have HR0 : Seal (w.ownsRow 0 42 5 (.slice (some ⟨g, 0, none⟩) s.items.length cap) s.items.length (itemE.all s.items ps)) := ⟨HS.out.head⟩
  have hic : s.items.length ≤ cap := by
    rcases HR0.out.2 with ⟨_, h0⟩ | ⟨g', c', cur, hv, _, _, hc, _⟩
    · omega
    · simp only [Value.slice.injEq] at hv
      omega
  obtain ⟨p0, hp0⟩ := HPI.out
  have HP0 : Seal _ := ⟨hp0⟩
  clear hp0
  have HAS : Seal (itemE.all s.items ps = itemE.all (s.items.take i) (ps.take i) ++ (itemL x p0 ++ itemE.all (s.items.drop (i + 1)) (ps.drop (i + 1)))) := ⟨items_split HL.out HX.out HP0.out⟩
  have HA1 : Seal ((itemE.all (s.items.take i) (ps.take i)).length = i * 5) := ⟨items_lenT HL.out (Nat.le_of_lt hik)⟩
  have HA2 : Seal ((itemE.all (s.items.drop (i + 1)) (ps.drop (i + 1))).length = (s.items.length - (i + 1)) * 5) := ⟨items_lenD HL.out _⟩
  have hi2 : (i : Int) ≤ (cap : Int) := by omega
  have hi3 : (i : Int) + 1 ≤ (s.items.length : Int) := by omega
  have hi4 : (0 : Int) ≤ (i : Int) + 1 := by omega
  have hwi : IntKind.i64.wrap ((i : Int) + 1) = (i : Int) + 1 := IntWalk.i64_in _ (by omega)
  obtain ⟨A', hA'⟩ : ∃ A', (if cap = i + 1 then some (⟨g, 0, none⟩ : Addr) else some ⟨g, (i + 1) * 5, none⟩) = some A' := by
    by_cases h : cap = i + 1
    · exact ⟨_, if_pos h⟩
    · exact ⟨_, if_neg h⟩
  have S3 : Seal (Pt w (w3.alloc (.cells #[] 42)) [[Res.row 42 5 (.slice (some ⟨w3.heap.size, 0, none⟩) 0 0) 0 []], [Res.cells L [.int .i64 x.id, .string x.fu, .string x.fd, .slice b2 M c2, .slice qb x.body.length qd]], [Res.row 44 4 (.slice b2 M c2) M (rcs RC)], [strsR qb qd x.body], [Res.cells (w.heap.size + 1) [.int .i64 0, .slice none 0 0]], [Res.cells w.heap.size [.int .i64 s.last, .slice (some ⟨g, 0, none⟩) s.items.length cap]]]) := ⟨Pt.built S2.out #[] 42 5 0 (by decide) rfl⟩
  have OW : Seal _ := ⟨Pt.row1 S3.out 0 rfl⟩
  have NW : Seal _ := ⟨part_news (HS.out.later S3.out.below).head 0 (ys := []) rfl rfl HAS.out⟩
  have u1 := (S3.out.cellsM 5 rfl).c 1 _ rfl
  have ul := (S3.out.cellsM 5 rfl).lt
  clear S2 hA
  go_wp2_with (at_builtin; refine wpList_append_own_at _ rfl _ _ 23 rfl 0 42 iItem (.agg #[.int .i64 0, .string ByteArray.empty, .string ByteArray.empty, .slice none 0 0, .slice none 0 0]) 5 88 Tryd.underlying23 hiItem hz0Item hz1Item hz2Item rfl (by decide) _ 0 [] rfl OW.out ⟨g, 0, none⟩ i cap (itemE.all (s.items.take i) (ps.take i)) rfl HA1.out ?c1 ?c2 ?c3 ?c4 ?c5 ?_)
  case c1 => exact NW.out
  case c2 => exact items_all_one _ _
  case c3 => unfold maxLen; omega
  case c4 => omega
  case c5 => exact Nat.zero_le _
  intro v' w5 hown hg _ hat
  have s4 := Pt.app S3.out hown hg (by first | exact hat | (rw [World.size_alloc]; exact hat))
  obtain ⟨b3, c3, rfl, _⟩ := row_value (Pt.row1 s4 0 rfl)
  have S4 : Seal (Pt w w5 [[Res.row 42 5 (.slice b3 i c3) i (itemE.all (s.items.take i) (ps.take i))], [Res.cells L [.int .i64 x.id, .string x.fu, .string x.fd, .slice b2 M c2, .slice qb x.body.length qd]], [Res.row 44 4 (.slice b2 M c2) M (rcs RC)], [strsR qb qd x.body], [Res.cells (w.heap.size + 1) [.int .i64 0, .slice none 0 0]], [Res.cells w.heap.size [.int .i64 s.last, .slice (some ⟨g, 0, none⟩) s.items.length cap]]]) := ⟨by first | exact s4 | (rw [Nat.zero_add, List.nil_append] at s4; exact s4) | simpa using s4⟩
  clear s4 hown hg hat OW NW S3 u1 ul
  have x0 := (S4.out.cellsM 1 rfl).c 0 _ rfl
  have x1 := (S4.out.cellsM 1 rfl).c 1 _ rfl
  have x2 := (S4.out.cellsM 1 rfl).c 2 _ rfl
  have x3 := (S4.out.cellsM 1 rfl).c 3 _ rfl
  have x4 := (S4.out.cellsM 1 rfl).c 4 _ rfl
  have xl := (S4.out.cellsM 1 rfl).lt
  by_cases hM0 : 0 < M
  · have hMi : (0 : Int) < (M : Int) := by omega
    have S5 : Seal (Pt w (w5.alloc (.cells #[.int .i64 x.id, .string x.fu, .string x.fd, .slice b2 M c2, .slice qb x.body.length qd] 42)) [[Res.row 42 5 (.slice (some ⟨w5.heap.size, 0, none⟩) 1 1) 1 [.int .i64 x.id, .string x.fu, .string x.fd, .slice b2 M c2, .slice qb x.body.length qd]], [Res.row 42 5 (.slice b3 i c3) i (itemE.all (s.items.take i) (ps.take i))], [Res.cells L [.int .i64 x.id, .string x.fu, .string x.fd, .slice b2 M c2, .slice qb x.body.length qd]], [Res.row 44 4 (.slice b2 M c2) M (rcs RC)], [strsR qb qd x.body], [Res.cells (w.heap.size + 1) [.int .i64 0, .slice none 0 0]], [Res.cells w.heap.size [.int .i64 s.last, .slice (some ⟨g, 0, none⟩) s.items.length cap]]]) := ⟨Pt.built S4.out #[.int .i64 x.id, .string x.fu, .string x.fd, .slice b2 M c2, .slice qb x.body.length qd] 42 5 1 (by decide) rfl⟩
    have OW : Seal _ := ⟨Pt.row1 S5.out 1 rfl⟩
    have NW : Seal _ := ⟨own_news (Pt.row1 S5.out 0 rfl)⟩
    clear S4
    go_wp2_with (at_builtin; refine wpList_append_own_at _ rfl _ _ 23 rfl 0 42 iItem (.agg #[.int .i64 0, .string ByteArray.empty, .string ByteArray.empty, .slice none 0 0, .slice none 0 0]) 5 88 Tryd.underlying23 hiItem hz0Item hz1Item hz2Item rfl (by decide) _ i (itemE.all (s.items.take i) (ps.take i)) rfl OW.out ⟨w5.heap.size, 0, none⟩ 1 1 [.int .i64 x.id, .string x.fu, .string x.fd, .slice b2 M c2, .slice qb x.body.length qd] rfl rfl ?c1 ?c2 ?c3 ?c4 ?c5 ?_)
    case c1 => exact NW.out
    case c2 => intro u hu; simp only [List.mem_cons, List.not_mem_nil, or_false] at hu; rcases hu with rfl | rfl | rfl | rfl | rfl <;> rfl
    case c3 => unfold maxLen; omega
    case c4 => omega
    case c5 => exact Nat.zero_le _
    intro v' w6 hown hg _ hat
    have s6 := Pt.app (S5.out.bring 1 rfl) hown hg (by first | exact hat | (rw [World.size_alloc]; exact hat))
    obtain ⟨b4, c4, rfl, _⟩ := row_value (Pt.row1 s6 0 rfl)
    have S6 : Seal (Pt w w6 [[Res.row 42 5 (.slice b4 (i + 1) c4) (i + 1) (itemE.all (s.items.take i) (ps.take i) ++ [.int .i64 x.id, .string x.fu, .string x.fd, .slice b2 M c2, .slice qb x.body.length qd])], [Res.row 42 5 (.slice (some ⟨w5.heap.size, 0, none⟩) 1 1) 1 [.int .i64 x.id, .string x.fu, .string x.fd, .slice b2 M c2, .slice qb x.body.length qd]], [Res.cells L [.int .i64 x.id, .string x.fu, .string x.fd, .slice b2 M c2, .slice qb x.body.length qd]], [Res.row 44 4 (.slice b2 M c2) M (rcs RC)], [strsR qb qd x.body], [Res.cells (w.heap.size + 1) [.int .i64 0, .slice none 0 0]], [Res.cells w.heap.size [.int .i64 s.last, .slice (some ⟨g, 0, none⟩) s.items.length cap]]]) := ⟨s6⟩
    clear s6 hown hg hat OW NW S5 x0 x1 x2 x3 x4 xl
    have OW : Seal _ := ⟨Pt.row1 S6.out 0 rfl⟩
    have NW : Seal _ := ⟨rest_news (HS.out.later S6.out.below).head (i + 1) hik hic (ys := itemE.all (s.items.take i) (ps.take i) ++ itemL x p0) (by rw [HAS.out, List.append_assoc]) (by rw [List.length_append, HA1.out]; show i * 5 + 5 = (i + 1) * 5; omega) hA'⟩
    have u1 := (S6.out.cellsM 6 rfl).c 1 _ rfl
    have ul := (S6.out.cellsM 6 rfl).lt
    go_wp2_with (at_builtin; refine wpList_append_own_at _ rfl _ _ 23 rfl 0 42 iItem (.agg #[.int .i64 0, .string ByteArray.empty, .string ByteArray.empty, .slice none 0 0, .slice none 0 0]) 5 88 Tryd.underlying23 hiItem hz0Item hz1Item hz2Item rfl (by decide) _ ((i + 1)) _ rfl OW.out A' (s.items.length - (i + 1)) (cap - (i + 1)) (itemE.all (s.items.drop (i + 1)) (ps.drop (i + 1))) rfl HA2.out ?c1 ?c2 ?c3 ?c4 ?c5 ?_)
    case c1 => exact NW.out
    case c2 => exact items_all_one _ _
    case c3 => unfold maxLen; omega
    case c4 => omega
    try case c5 => exact Nat.zero_le _
    intro v' w7 hown hg _ hat
    have s7 := Pt.app S6.out hown hg hat
    obtain ⟨b5, c5, rfl, _⟩ := row_value (Pt.row1 s7 0 rfl)
    have S7 : Seal (Pt w w7 [[Res.row 42 5 (.slice b5 ((i + 1) + (s.items.length - (i + 1))) c5) ((i + 1) + (s.items.length - (i + 1))) (itemE.all (s.items.take i) (ps.take i) ++ ([.int .i64 x.id, .string x.fu, .string x.fd, .slice b2 M c2, .slice qb x.body.length qd] ++ itemE.all (s.items.drop (i + 1)) (ps.drop (i + 1))))], [Res.row 42 5 (.slice (some ⟨w5.heap.size, 0, none⟩) 1 1) 1 [.int .i64 x.id, .string x.fu, .string x.fd, .slice b2 M c2, .slice qb x.body.length qd]], [Res.cells L [.int .i64 x.id, .string x.fu, .string x.fd, .slice b2 M c2, .slice qb x.body.length qd]], [Res.row 44 4 (.slice b2 M c2) M (rcs RC)], [strsR qb qd x.body], [Res.cells (w.heap.size + 1) [.int .i64 0, .slice none 0 0]], [Res.cells w.heap.size [.int .i64 s.last, .slice (some ⟨g, 0, none⟩) s.items.length cap]]]) := ⟨s7⟩
    clear s7 hown hg hat OW NW S6 u1 ul
    have u1 := (S7.out.cellsM 6 rfl).c 1 _ rfl
    have uf := (S7.out.cellsM 6 rfl).f 1 (by simp)
    obtain ⟨N, hN⟩ : ∃ N, (i + 1) + (s.items.length - (i + 1)) = N := ⟨_, rfl⟩
    have HN : Seal _ := ⟨hN⟩
    rw [hN] at S7 ⊢
    clear hN
    have S8 : Seal (Pt w (w7.setCell ⟨w.heap.size, 1, none⟩ (.slice b5 N c5)) ([Res.cells w.heap.size [.int .i64 s.last, .slice b5 N c5]] :: [[Res.row 42 5 (.slice b5 N c5) N (itemE.all (s.items.take i) (ps.take i) ++ ([.int .i64 x.id, .string x.fu, .string x.fd, .slice b2 M c2, .slice qb x.body.length qd] ++ itemE.all (s.items.drop (i + 1)) (ps.drop (i + 1))))], [Res.row 42 5 (.slice (some ⟨w5.heap.size, 0, none⟩) 1 1) 1 [.int .i64 x.id, .string x.fu, .string x.fd, .slice b2 M c2, .slice qb x.body.length qd]], [Res.cells L [.int .i64 x.id, .string x.fu, .string x.fd, .slice b2 M c2, .slice qb x.body.length qd]], [Res.row 44 4 (.slice b2 M c2) M (rcs RC)], [strsR qb qd x.body], [Res.cells (w.heap.size + 1) [.int .i64 0, .slice none 0 0]]])) := ⟨(S7.out.bring 6 rfl).set 1 (.slice b5 N c5) (by simp)⟩
    go_upto_region 7 with fail
    clear S7 u1 uf
    generalize w7.setCell ⟨w.heap.size, 1, none⟩ (.slice b5 N c5) = w8 at *
    have u0 := (S8.out.cellsM 0 rfl).c 0 _ rfl
    have u1 := (S8.out.cellsM 0 rfl).c 1 _ rfl
    have ul := (S8.out.cellsM 0 rfl).lt
    have r0 := (S8.out.cellsM 6 rfl).c 0 _ rfl
    have r1 := (S8.out.cellsM 6 rfl).c 1 _ rfl
    have f0 := (S8.out.cellsM 6 rfl).f 0 (by simp)
    have f1 := (S8.out.cellsM 6 rfl).f 1 (by simp)
    go_wp2
    have hy : (doneI x k).rc = RC := HRC.out
    have hne : RC ≠ [] := by
      intro e
      have h := HML.out
      rw [e] at h
      simp at h
      omega
    have hD : Seal (doneS s i (doneI x k) = ⟨s.last, s.items.set i (doneI x k)⟩) := ⟨by unfold doneS; rw [hy, if_neg hne]⟩
    have hNn : s.items.length = N := by rw [← HN.out]; omega
    refine bodyPost_ret (v := .agg #[.int .i64 s.last, .slice b5 N c5]) (by simp [results, Tryd.results36, go_sem, r0, r1]) rfl ⟨b5, c5, ps.set i ⟨b2, c2, qb, qd⟩, by rw [hD.out, List.length_set, hNn], by rw [hD.out, List.length_set, List.length_set]; exact HL.out, ?_⟩
    rw [hD.out]
    have s9 := ((((((S8.out.bring 6 rfl).set 0 (.int .i64 s.last) (by simp)).set 1 (.slice b5 N c5) (by simp)).bring 6 rfl).bring 6 rfl).bring 4 rfl)
    have e9 : itemE.all (s.items.set i (doneI x k)) (ps.set i ⟨b2, c2, qb, qd⟩) = itemE.all (s.items.take i) (ps.take i) ++ ([.int .i64 x.id, .string x.fu, .string x.fd, .slice b2 M c2, .slice qb x.body.length qd] ++ itemE.all (s.items.drop (i + 1)) (ps.drop (i + 1))) := by
      have hps : i < ps.length := by rw [HL.out]; exact hik
      rw [List.set_eq_take_append_cons_drop, if_pos hik, List.set_eq_take_append_cons_drop, if_pos hps, itemE.all_split (by simp; omega)]
      show _ ++ (([Value.int .i64 x.id, Value.string x.fu, Value.string x.fd, Value.slice b2 (doneI x k).rc.length c2, Value.slice qb x.body.length qd] : List Value) ++ _) = _
      rw [hy, HML.out]
    have er : itemE.res (doneI x k) ⟨b2, c2, qb, qd⟩ = [Res.row 44 4 (.slice b2 M c2) M (rcs RC), strsR qb qd x.body] := by
      show [rcptsR b2 c2 (doneI x k).rc, strsR qb qd x.body] = _
      rw [hy]
      show [Res.row 44 4 (.slice b2 RC.length c2) RC.length (rcs RC), strsR qb qd x.body] = _
      rw [HML.out]
    have k5 := Pt.prefix (As := [[Res.row 42 5 (.slice b5 N c5) N (itemE.all (s.items.take i) (ps.take i) ++ ([.int .i64 x.id, .string x.fu, .string x.fd, .slice b2 M c2, .slice qb x.body.length qd] ++ itemE.all (s.items.drop (i + 1)) (ps.drop (i + 1))))], [Res.row 44 4 (.slice b2 M c2) M (rcs RC)], [strsR qb qd x.body]]) (Bs := _) s9
    rw [← e9] at k5
    exact done_set HS.out HL.out HX.out HP0.out hNn er k5
  · have hMz : M = 0 := by omega
    have hMi : ¬ (0 : Int) < (M : Int) := by omega
    clear x0 x1 x2 x4
    have OW : Seal _ := ⟨Pt.row1 S4.out 0 rfl⟩
    have NW : Seal _ := ⟨rest_news (HS.out.later S4.out.below).head (i + 1) hik hic (ys := itemE.all (s.items.take i) (ps.take i) ++ itemL x p0) (by rw [HAS.out, List.append_assoc]) (by rw [List.length_append, HA1.out]; show i * 5 + 5 = (i + 1) * 5; omega) hA'⟩
    have u1 := (S4.out.cellsM 5 rfl).c 1 _ rfl
    have ul := (S4.out.cellsM 5 rfl).lt
    go_wp2_with (at_builtin; refine wpList_append_own_at _ rfl _ _ 23 rfl 0 42 iItem (.agg #[.int .i64 0, .string ByteArray.empty, .string ByteArray.empty, .slice none 0 0, .slice none 0 0]) 5 88 Tryd.underlying23 hiItem hz0Item hz1Item hz2Item rfl (by decide) _ (i) _ rfl OW.out A' (s.items.length - (i + 1)) (cap - (i + 1)) (itemE.all (s.items.drop (i + 1)) (ps.drop (i + 1))) rfl HA2.out ?c1 ?c2 ?c3 ?c4 ?c5 ?_)
    case c1 => exact NW.out
    case c2 => exact items_all_one _ _
    case c3 => unfold maxLen; omega
    case c4 => omega
    try case c5 => exact Nat.zero_le _
    intro v' w7 hown hg _ hat
    have s7 := Pt.app S4.out hown hg hat
    obtain ⟨b5, c5, rfl, _⟩ := row_value (Pt.row1 s7 0 rfl)
    have S7 : Seal (Pt w w7 [[Res.row 42 5 (.slice b5 (i + (s.items.length - (i + 1))) c5) (i + (s.items.length - (i + 1))) (itemE.all (s.items.take i) (ps.take i) ++ itemE.all (s.items.drop (i + 1)) (ps.drop (i + 1)))], [Res.cells L [.int .i64 x.id, .string x.fu, .string x.fd, .slice b2 M c2, .slice qb x.body.length qd]], [Res.row 44 4 (.slice b2 M c2) M (rcs RC)], [strsR qb qd x.body], [Res.cells (w.heap.size + 1) [.int .i64 0, .slice none 0 0]], [Res.cells w.heap.size [.int .i64 s.last, .slice (some ⟨g, 0, none⟩) s.items.length cap]]]) := ⟨s7⟩
    clear s7 hown hg hat OW NW S4 u1 ul
    have u1 := (S7.out.cellsM 5 rfl).c 1 _ rfl
    have uf := (S7.out.cellsM 5 rfl).f 1 (by simp)
    obtain ⟨N, hN⟩ : ∃ N, i + (s.items.length - (i + 1)) = N := ⟨_, rfl⟩
    have HN : Seal _ := ⟨hN⟩
    rw [hN] at S7 ⊢
    clear hN
    have S8 : Seal (Pt w (w7.setCell ⟨w.heap.size, 1, none⟩ (.slice b5 N c5)) ([Res.cells w.heap.size [.int .i64 s.last, .slice b5 N c5]] :: [[Res.row 42 5 (.slice b5 N c5) N (itemE.all (s.items.take i) (ps.take i) ++ itemE.all (s.items.drop (i + 1)) (ps.drop (i + 1)))], [Res.cells L [.int .i64 x.id, .string x.fu, .string x.fd, .slice b2 M c2, .slice qb x.body.length qd]], [Res.row 44 4 (.slice b2 M c2) M (rcs RC)], [strsR qb qd x.body], [Res.cells (w.heap.size + 1) [.int .i64 0, .slice none 0 0]]])) := ⟨(S7.out.bring 5 rfl).set 1 (.slice b5 N c5) (by simp)⟩
    go_upto_region 7 with fail
    clear S7 u1 uf
    generalize w7.setCell ⟨w.heap.size, 1, none⟩ (.slice b5 N c5) = w8 at *
    have u0 := (S8.out.cellsM 0 rfl).c 0 _ rfl
    have u1 := (S8.out.cellsM 0 rfl).c 1 _ rfl
    have ul := (S8.out.cellsM 0 rfl).lt
    have r0 := (S8.out.cellsM 5 rfl).c 0 _ rfl
    have r1 := (S8.out.cellsM 5 rfl).c 1 _ rfl
    have f0 := (S8.out.cellsM 5 rfl).f 0 (by simp)
    have f1 := (S8.out.cellsM 5 rfl).f 1 (by simp)
    go_wp2
    have hy : (doneI x k).rc = [] := HRC.out.trans (List.eq_nil_of_length_eq_zero (HML.out.trans hMz))
    have hD : Seal (doneS s i (doneI x k) = ⟨s.last, s.items.take i ++ s.items.drop (i + 1)⟩) := ⟨by unfold doneS; rw [hy, if_pos rfl]⟩
    have hNn : (s.items.take i ++ s.items.drop (i + 1)).length = N := by rw [← HN.out, List.length_append, List.length_take, List.length_drop, Nat.min_eq_left (by omega)]
    refine bodyPost_ret (v := .agg #[.int .i64 s.last, .slice b5 N c5]) (by simp [results, Tryd.results36, go_sem, r0, r1]) rfl ⟨b5, c5, ps.take i ++ ps.drop (i + 1), by rw [hD.out, hNn], by rw [hD.out, hNn, ← HN.out, List.length_append, List.length_take, List.length_drop, HL.out, Nat.min_eq_left (by omega)], ?_⟩
    rw [hD.out]
    have s9 := (((S8.out.bring 5 rfl).set 0 (.int .i64 s.last) (by simp)).set 1 (.slice b5 N c5) (by simp)).bring 2 rfl
    have k5 := Pt.prefix (As := [[Res.row 42 5 (.slice b5 N c5) N (itemE.all (s.items.take i) (ps.take i) ++ itemE.all (s.items.drop (i + 1)) (ps.drop (i + 1)))]]) (Bs := _) s9
    exact done_cut HS.out HL.out HX.out HP0.out hNn k5

end Go.Proofs.YtcaknjdolfheaaaDoor
