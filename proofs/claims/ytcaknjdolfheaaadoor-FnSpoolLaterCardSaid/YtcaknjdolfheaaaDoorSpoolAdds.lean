/- Appends, PlainSpoolDo, SpoolAddS, SpoolAddK, SpoolAddI, SpoolAddJ. -/
import Derived.Test.YtcaknjdolfheaaaDoorTk
import Derived.Test.YtcaknjdolfheaaaDoorSpoolCopies
import Derived.Test.YtcaknjdolfheaaaDoorKindSpool
import Derived.Test.YtcaknjdolfheaaaDoorSpoolMarks
import Derived.Test.YtcaknjdolfheaaaDoorSpoolOks
import Derived.Deep.RegionHeld3
import Derived.Deep.DeepCutAuto
namespace Go.Proofs.YtcaknjdolfheaaaDoor
open Go Go.RowKit

theorem Pt.row1 {w0 w : World} {Ls : List (List Res)} (h : Pt w0 w Ls) (i : Nat) {e : TypeId} {size n : Nat} {v : Value} {xs : List Value} (hi : Ls[i]? = some [Res.row e size v n xs]) : w.ownsRow 0 e size v n xs := h.nth i hi _ (List.mem_singleton.2 rfl)
/-- A row just built. -/
theorem Pt.built {w0 w : World} {Ls : List (List Res)} (h : Pt w0 w Ls) (cs : Array Value) (T : TypeId) (size n : Nat) (hn : n ≤ 1) (hs : cs.size = n * size) :
    Pt w0 (w.alloc (.cells cs T)) ([Res.row T size (.slice (some ⟨w.heap.size, 0, none⟩) n n) n cs.toList] :: Ls) :=
  StX.row (l := Ls.flatten) h ((Below.refl _ _).alloc (Nat.le_refl _) _) ⟨by simpa using hs, .inr ⟨w.heap.size, n, cs, rfl, Nat.le_refl _, heap_alloc_new w _, Nat.le_refl _, by unfold maxLen; omega, hs, by
    rw [← hs, ← Array.length_toList, List.take_length]⟩⟩
theorem Pt.app {w0 w w' : World} {Ls : List (List Res)} {e : TypeId} {size : Nat} {v v' : Value} {n n' B : Nat} {xs xs' : List Value} (h : Pt w0 w ([Res.row e size v n xs] :: Ls)) (ho : w'.ownsRow B e size v' n' xs') (hg : w.grownBy w' v.ownBlock) (hat : v'.ownBlock = v.ownBlock ∨ v'.ownBlock = some w.heap.size) : Pt w0 w' ([Res.row e size v' n' xs'] :: Ls) :=
  StX.app (l := Ls.flatten) h ho hg hat
theorem strs_cells_one (xs : List ByteArray) : ∀ u ∈ xs.map Value.string, u.oneCell' = true := by
  intro u hu
  obtain ⟨x, _, rfl⟩ := List.mem_map.1 hu
  rfl
theorem rcpt_cells_one (x : RcptD) : ∀ u ∈ rcptL x, u.oneCell' = true := by
  intro u hu
  simp only [rcptL, List.mem_cons, List.not_mem_nil, or_false] at hu
  rcases hu with rfl | rfl | rfl | rfl <;> rfl
theorem items_all_one (xs : List ItemD) (ps : List ItemV) : ∀ u ∈ itemE.all xs ps, u.oneCell' = true := by
  unfold Elem.all
  intro u hu
  obtain ⟨l, hl, hul⟩ := List.mem_flatten.1 hu
  obtain ⟨k, hk⟩ := List.getElem?_of_mem hl
  rw [List.getElem?_zipWith] at hk
  cases hx : xs[k]? with
  | none => rw [hx] at hk; cases hk
  | some x =>
    cases hp : ps[k]? with
    | none => rw [hx, hp] at hk; cases hk
    | some p =>
      rw [hx, hp] at hk
      have e : itemL x p = l := Option.some.inj hk
      subst e
      exact items_one x p u hul

section
variable {w : World} {ops : Array Oper} {o : Oper} {a : Act} {K : Act → World → Prop} {Q : Exit → Act → World → Prop} {E : Prop}
/-- 'append' to a row without an element. -/
theorem step_append_first (hgd : o.guard = none) (s x : Operand) (t : TypeId)
    (ho : o.op = .call { callee := .builtin .append, args := #[s, x], argTypes := #[t, t] })
    (base : Nat) (e : TypeId) (i : TypeInfo) (z : Value) (size bytes : Nat) (ht : Tryd.prog.underlying t = some (.slice e)) (hi : Tryd.prog.info? e = some i) (hz : i.zero = some z)
    (hsize : i.size = size) (hby : i.bytes = bytes) (hzs : z.cells.size = size) (hsz : 0 < size)
    (v : Value) (hs : a.eval s = v) (hown : w.ownsRow base e size v 0 [])
    (ao : Option Addr) (m c : Nat) (news : List Value) (hx : a.eval x = .slice ao m c) (hsrc : w.ownsRow 0 e size (.slice ao m c) m news) (h1 : ∀ u ∈ news, u.oneCell' = true)
    (h63 : m ≤ maxLen) (hbytes : m * bytes ≤ 140737488355328) (hbase : base ≤ w.heap.size)
    (h : ∀ v' w', w'.ownsRow base e size v' m news → w.grownBy w' v.ownBlock → (v'.ownBlock = v.ownBlock ∨ v'.ownBlock = some w.heap.size) → K (a.put o.dst v') w') :
    if Region.wanted o (yielded ops a.tmps) = true then Oper.wp Tryd.prog o a w K Q else E :=
  step_append_any hgd s x t ho base e i z size bytes ht hi hz hsize hby hzs hsz v 0 [] hs hown ao m c news hx hsrc h1 (by rw [Nat.zero_add]; exact h63) (by rw [Nat.zero_add]; exact hbytes) hbase fun v' w' q1 q2 q3 => h v' w' (by rw [Nat.zero_add, List.nil_append] at q1; exact q1) q2 q3
end
end Go.Proofs.YtcaknjdolfheaaaDoor
namespace Go.Proofs.YtcaknjdolfheaaaDoor
open Go

def noSpoolD : SpoolD := ⟨0, []⟩
def newRcpt (now : Int) (p : ByteArray × ByteArray) : RcptD := ⟨p.1, p.2, 0, now⟩
def newItemD (id : Int) (m : MailD) (now : Int) : ItemD := ⟨id, m.fu, m.fd, m.rc.map (newRcpt now), m.body⟩
def addD (s : SpoolD) (m : MailD) (now : Int) : SpoolD := ⟨s.last + 1, s.items ++ [newItemD (s.last + 1) m now]⟩
def timeB (now : Int) : Bool := inB now 0 9999
def roomB (s : SpoolD) : Bool := decide ((s.items.length : Int) < 10) && decide (s.last < 999)
def mayAdd (s : SpoolD) (m : MailD) (now : Int) : Bool := mailB m && (timeB now && roomB s)
def addR (s : SpoolD) (m : MailD) (now : Int) : SpoolD × Bool := if spoolB s then (if mayAdd s m now then (addD s m now, true) else (s, false)) else (noSpoolD, false)
theorem addR_bad {s : SpoolD} {m : MailD} {now : Int} (h : spoolB s = false) : addR s m now = (noSpoolD, false) := by unfold addR; rw [h]; rfl
theorem addR_no {s : SpoolD} {m : MailD} {now : Int} (h : spoolB s = true) (h1 : mayAdd s m now = false) : addR s m now = (s, false) := by unfold addR; rw [h, h1]; rfl
theorem addR_yes {s : SpoolD} {m : MailD} {now : Int} (h : spoolB s = true) (h1 : mayAdd s m now = true) : addR s m now = (addD s m now, true) := by unfold addR; rw [h, h1]; rfl

/-! ### valid mails, items and spools are small -/
theorem domN_small {s : ByteArray} (h : domB s = true) : s.size ≤ 27 := by
  unfold domB at h
  rw [Bool.and_eq_true, decide_eq_true_eq] at h
  have := pieces_small 3 s h.1
  omega
theorem addr_small {u d : ByteArray} (h : addrB u d = true) : u.size + d.size ≤ 40 := by
  unfold addrB at h
  rw [Bool.and_eq_true] at h
  have h1 := word_size h.1
  have h2 := domN_small h.2
  omega
theorem sender_small {u d : ByteArray} (h : senderB u d = true) : u.size + d.size ≤ 40 := by
  unfold senderB at h
  rw [Bool.or_eq_true] at h
  rcases h with h | h
  · unfold nullB at h
    rw [Bool.and_eq_true, Lib.toList_data, Lib.toList_data] at h
    have h1 : u.data.toList = [] := by simpa using h.1
    have h2 : d.data.toList = [] := by simpa using h.2
    have e1 : u.size = 0 := by rw [Lib.size_eq, h1]; rfl
    have e2 : d.size = 0 := by rw [Lib.size_eq, h2]; rfl
    omega
  · exact addr_small h
theorem sumN_bound {α : Type} {f : α → Nat} {xs : List α} {n : Nat} (h : ∀ x ∈ xs, f x ≤ n) : sumN f xs ≤ xs.length * n := by
  induction xs with
  | nil => simp [sumN]
  | cons x xs ih =>
    have h1 := ih fun y hy => h y (List.mem_cons_of_mem _ hy)
    have h2 := h x List.mem_cons_self
    unfold sumN at h1 ⊢
    rw [List.map_cons, List.sum_cons, List.length_cons, Nat.succ_mul]
    omega
theorem bodyN_small {xs : List ByteArray} (h : bodyB xs = true) : rowN ByteArray.size xs ≤ 500 ∧ xs.length ≤ 12 := by
  unfold bodyB at h
  rw [Bool.and_eq_true, decide_eq_true_eq, List.all_eq_true] at h
  have h1 : sumN ByteArray.size xs ≤ xs.length * 40 := sumN_bound fun x hx => by
    have := h.1 x hx
    unfold lineB at this
    rw [Bool.and_eq_true, decide_eq_true_eq] at this
    exact this.2
  rw [rowN_eq]
  omega
theorem item_small {x : ItemD} (h : mailB (itemMail x) = true) : itemN x ≤ 1000 := by
  unfold mailB at h
  rw [Bool.and_eq_true, Bool.and_eq_true] at h
  have h1 := sender_small h.1
  have h2 := (bodyN_small h.2.2).1
  have h3 := h.2.1
  unfold toB at h3
  rw [Bool.and_eq_true, Bool.and_eq_true, decide_eq_true_eq, List.all_eq_true] at h3
  have h4 : x.rc.length ≤ 4 := by simpa using h3.1.2
  have h5 : sumN rcptN x.rc ≤ x.rc.length * 40 := sumN_bound fun y hy => by
    have := h3.2.1 (rcptPair y) (List.mem_map_of_mem hy)
    exact addr_small this
  unfold itemN
  rw [rowN_eq rcptN]
  simp only at h1 h2
  omega
theorem spool_small {s : SpoolD} (h : spoolB s = true) : spoolN s ≤ 10100 ∧ s.items.length ≤ 10 ∧ 0 ≤ s.last ∧ s.last ≤ 999 := by
  unfold spoolB at h
  rw [Bool.and_eq_true, Bool.and_eq_true, Bool.and_eq_true, decide_eq_true_eq, decide_eq_true_eq, List.all_eq_true] at h
  have h1 : sumN itemN s.items ≤ s.items.length * 1000 := sumN_bound fun x hx => by
    have := h.2.2.1 x hx
    unfold itemB at this
    rw [Bool.and_eq_true] at this
    exact item_small this.1
  unfold spoolN
  rw [rowN_eq]
  have := h.2.1
  omega
theorem newItem_mail (i : Int) (m : MailD) (now : Int) : itemMail (newItemD i m now) = m := by
  obtain ⟨fu, fd, rc, body⟩ := m
  have : (rc.map (newRcpt now)).map rcptPair = rc := by
    rw [List.map_map]
    have : (rcptPair ∘ newRcpt now) = id := by funext p; rfl
    rw [this, List.map_id]
  unfold newItemD itemMail
  rw [this]
theorem sumN_app {α : Type} (f : α → Nat) (xs ys : List α) : sumN f (xs ++ ys) = sumN f xs + sumN f ys := by
  unfold sumN; rw [List.map_append, List.sum_append]
theorem addD_small {s : SpoolD} {m : MailD} {now : Int} (h : spoolB s = true) (hm : mailB m = true) : spoolN (addD s m now) ≤ 12000 := by
  have h1 := (spool_small h).1
  have h2 := item_small (x := newItemD (s.last + 1) m now) (by rw [newItem_mail]; exact hm)
  unfold spoolN addD at *
  rw [rowN_eq] at *
  dsimp only
  rw [sumN_app, List.length_append]
  have e : sumN itemN [newItemD (s.last + 1) m now] = itemN (newItemD (s.last + 1) m now) := by simp [sumN]
  rw [e, List.length_singleton]
  omega
theorem addR_sz (s : SpoolD) (m : MailD) (now : Int) (hz : spoolN s ≤ 1048576) : spoolN (addR s m now).1 ≤ 1048576 := by
  cases h : spoolB s with
  | false => rw [addR_bad h]; decide
  | true =>
    cases h1 : mayAdd s m now with
    | false => rw [addR_no h h1]; exact hz
    | true =>
      rw [addR_yes h h1]
      unfold mayAdd at h1
      rw [Bool.and_eq_true] at h1
      exact Nat.le_trans (addD_small h h1.1) (by decide)
end Go.Proofs.YtcaknjdolfheaaaDoor
namespace Go.Proofs.YtcaknjdolfheaaaDoor
open Go Go.RowKit

theorem Pt.nothing {w0 w : World} {Ls : List (List Res)} (h : Pt w0 w Ls) (e : TypeId) (size : Nat) : Pt w0 w ([Res.row e size (.slice none 0 0) 0 []] :: Ls) := StX.nothing (l := Ls.flatten) h e size
theorem l5Room_any (s : SpoolD) (ao : Option Addr) (cap : Nat) (w : World) :
    Calls Tryd.prog 96 #[.agg (spoolV s ao cap)] w fun e w' => e = .returned (.bool (roomB s)) ∧ Below w.heap.size w w' := by
  have b0 : Seal (Below w.heap.size w (w.alloc (.cells (spoolV s ao cap) 25))) := ⟨(Below.refl _ _).alloc (Nat.le_refl _) _⟩
  by_cases h1 : (s.items.length : Int) < 10
  · by_cases h2 : s.last < 999
    · have hm : Seal (roomB s = true) := ⟨by unfold roomB; rw [decide_eq_true h1, decide_eq_true h2]; rfl⟩
      go_enter Tryd.func96, Tryd.ntmps96
      go_wp2
      go_ret
      exact ⟨ret_b hm.out.symm, b0.out⟩
    · have hm : Seal (roomB s = false) := ⟨by unfold roomB; rw [decide_eq_false h2]; simp⟩
      go_enter Tryd.func96, Tryd.ntmps96
      go_wp2
      go_ret
      exact ⟨ret_b hm.out.symm, b0.out⟩
  · have hm : Seal (roomB s = false) := ⟨by unfold roomB; rw [decide_eq_false h1]; rfl⟩
    go_enter Tryd.func96, Tryd.ntmps96
    go_wp2
    go_ret
    exact ⟨ret_b hm.out.symm, b0.out⟩

abbrev rcNew (now : Int) (ps : List (ByteArray × ByteArray)) : List Value := rcptE.all (ps.map (newRcpt now)) (ones (ps.map (newRcpt now)))
theorem rcNew_snoc {now : Int} {ps : List (ByteArray × ByteArray)} {k : Nat} {p : ByteArray × ByteArray} (hp : ps[k]? = some p) : rcNew now (ps.take k) ++ [.string p.1, .string p.2, .int .i64 0, .int .i64 now] = rcNew now (ps.take (k + 1)) := by
  obtain ⟨hk, e⟩ := List.getElem?_eq_some_iff.1 hp
  unfold rcNew
  rw [List.take_succ_eq_append_getElem hk, e, List.map_append, List.map_singleton]
  have h1 : ones (List.map (newRcpt now) (ps.take k) ++ [newRcpt now p]) = ones (List.map (newRcpt now) (ps.take k)) ++ [()] := by
    unfold ones
    rw [List.length_append, List.length_singleton, List.replicate_succ']
  rw [h1, rcptE.all_snoc (by simp)]
  rfl

set_option maxHeartbeats 12800000 in
set_option maxRecDepth 100000 in
theorem l5Add_any {X : Nat → Prop} (l : List Res) (s : SpoolD) (ao : Option Addr) (cap : Nat) (ps : List ItemV) (hl : ps.length = s.items.length) (m : MailD) (a1 : Option Addr) (c1 : Nat) (a2 : Option Addr) (c2 : Nat) (now : Int) (w0 w : World) (h : StX X w0 w (itemsR ao cap s.items ps ++ l)) (ho : MailOwn w 0 m a1 c1 a2 c2) (hz : s.items.length ≤ 1048576) (hmz : MailSz 1048576 m) (h0 : 0 ≤ s.last) (h1 : s.last ≤ 999) :
    Calls Tryd.prog 97 #[.agg (spoolV s ao cap), .agg (mailV m a1 c1 a2 c2), .int .i64 now] w fun e w' => ∃ bo c q, e = .returned (.agg (spoolV (addD s m now) bo c)) ∧ StX X w0 w' (itemsR bo c (addD s m now).items (ps ++ [q]) ++ l) := by
  obtain ⟨iItem, hiItem, hz0Item, hz1Item, hz2Item⟩ := info_parts infoItem
  obtain ⟨iRcpt, hiRcpt, hz0Rcpt, hz1Rcpt, hz2Rcpt⟩ := info_parts infoRcpt
  obtain ⟨istring, histring, hz0string, hz1string, hz2string⟩ := info_parts infoS
  have HS : Seal _ := ⟨h⟩
  have HL : Seal _ := ⟨hl⟩
  have HO : Seal _ := ⟨ho⟩
  have z1 := hmz.rcl
  have z2 := hmz.bol
  have hwr : IntKind.i64.wrap (s.last + 1) = s.last + 1 := IntWalk.i64_in _ (by omega)
  clear h hl ho hmz
  have S0 : Seal (Pt w (((w.alloc (.cells (spoolV s ao cap) 25)).alloc (.cells (mailV m a1 c1 a2 c2) 61)).alloc (.cells #[.int .i64 0, .slice none 0 0] 25)) [[Res.cells (w.heap.size + 1 + 1) [.int .i64 0, .slice none 0 0]], [Res.cells (w.heap.size + 1) [.string m.fu, .string m.fd, .slice a1 m.rc.length c1, .slice a2 m.body.length c2]], [Res.cells w.heap.size [.int .i64 s.last, .slice ao s.items.length cap]]]) := ⟨by
    have h := (((Pt.start w).alloc (spoolV s ao cap) 25).alloc (mailV m a1 c1 a2 c2) 61).alloc #[.int .i64 0, .slice none 0 0] 25
    simp only [World.size_alloc] at h
    exact h⟩
  go_enter Tryd.func97, Tryd.ntmps97
  go_upto_region 1 with fail
  generalize ((w.alloc (.cells (spoolV s ao cap) 25)).alloc (.cells (mailV m a1 c1 a2 c2) 61)).alloc (.cells #[.int .i64 0, .slice none 0 0] 25) = wq at *
  go_cut [7] (fun s7 wx => ∃ (k7 : Nat) (q2 : Option Addr) (d2 : Nat), s7 = .pointer (some ⟨k7, 0, none⟩) ∧ Pt w wx [[Res.cells k7 [.int .i64 (s.last + 1), .string m.fu, .string m.fd, .slice none 0 0, .slice q2 m.body.length d2]], [Res.row 9 1 (.slice q2 m.body.length d2) m.body.length (m.body.map Value.string)], [Res.cells (w.heap.size + 1 + 1) [.int .i64 0, .slice none 0 0]], [Res.cells (w.heap.size + 1) [.string m.fu, .string m.fd, .slice a1 m.rc.length c1, .slice a2 m.body.length c2]], [Res.cells (w.heap.size) [.int .i64 s.last, .slice ao s.items.length cap]]])
  case first =>
    have S1 : Seal (Pt w wq.drew [[Res.cells (w.heap.size + 1 + 1) [.int .i64 0, .slice none 0 0]], [Res.cells (w.heap.size + 1) [.string m.fu, .string m.fd, .slice a1 m.rc.length c1, .slice a2 m.body.length c2]], [Res.cells (w.heap.size) [.int .i64 s.last, .slice ao s.items.length cap]]]) := ⟨S0.out.drew⟩
    refine wp_region_held_drew (S := (fun w' => w'.cell? ⟨w.heap.size, 0, none⟩ = some (.int .i64 s.last) ∧ w'.cell? ⟨w.heap.size + 1, 0, none⟩ = some (.string m.fu) ∧ w'.cell? ⟨w.heap.size + 1, 1, none⟩ = some (.string m.fd) ∧ w'.cell? ⟨w.heap.size + 1, 3, none⟩ = some (.slice a2 m.body.length c2))) (by kernel_rfl) ⟨(S1.out.cellsM 2 rfl).c 0 _ rfl, (S1.out.cellsM 1 rfl).c 0 _ rfl, (S1.out.cellsM 1 rfl).c 1 _ rfl, (S1.out.cellsM 1 rfl).c 3 _ rfl⟩ (fun hHeld => ?_)
    refine tkH 0 (by assumption) (h := ?_)
    refine tkH 1 (by assumption) (h := ?_)
    refine tkH 2 (by assumption) (h := ?_)
    refine tkH 3 (by assumption) (h := ?_)
    refine tkH 4 (by assumption) (h := ?_)
    refine tkH 6 (by assumption) (h := ?_)
    refine tkH 7 (by assumption) (h := ?_)
    refine wpAnyH_ready (rs := [5, 10]) (by kernel_rfl) (by simp) ?_
    refine AllReadyH.cons rfl (fun K hK => ?_) (AllReadyH.cons rfl (fun K hK => ?_) AllReadyH.nil)
    · have S2 : Seal (Pt w (wq.alloc (.cells #[] 9)).drew [[Res.row 9 1 (.slice (some ⟨wq.heap.size, 0, none⟩) 0 0) (0) ([])], [Res.cells (w.heap.size + 1 + 1) [.int .i64 0, .slice none 0 0]], [Res.cells (w.heap.size + 1) [.string m.fu, .string m.fd, .slice a1 m.rc.length c1, .slice a2 m.body.length c2]], [Res.cells (w.heap.size) [.int .i64 s.last, .slice ao s.items.length cap]]]) := ⟨Pt.built S1.out #[] 9 1 0 (by decide) rfl⟩
      go_simp
      refine hK.out _ _ ⟨(S2.out.cellsM 3 rfl).c 0 _ rfl, (S2.out.cellsM 2 rfl).c 0 _ rfl, (S2.out.cellsM 2 rfl).c 1 _ rfl, (S2.out.cellsM 2 rfl).c 3 _ rfl⟩ (fun hHeld => ?_)
      clear hK K
      try simp only [Act.put, List.getElem_toArray, List.getElem_cons_succ, List.getElem_cons_zero, List.setIfInBounds_toArray, List.set_cons_zero, List.set_cons_succ]
      refine wpAnyH_ready (rs := [8, 10]) (by kernel_rfl) (by simp) ?_
      refine AllReadyH.cons rfl (fun K hK => ?_) (AllReadyH.cons rfl (fun K hK => ?_) AllReadyH.nil)
      · have SH2 : Seal (Pt w (wq.alloc (.cells #[] 9)).drew [[Res.row 9 1 (.slice (some ⟨wq.heap.size, 0, none⟩) 0 0) (0) ([])], [Res.cells (w.heap.size + 1 + 1) [.int .i64 0, .slice none 0 0]], [Res.cells (w.heap.size + 1) [.string m.fu, .string m.fd, .slice a1 m.rc.length c1, .slice a2 m.body.length c2]], [Res.cells (w.heap.size) [.int .i64 s.last, .slice ao s.items.length cap]]]) := ⟨S2.out.bring 0 rfl⟩
        have OW2 : Seal _ := ⟨Pt.row1 SH2.out 0 rfl⟩
        have SR2 : Seal _ := ⟨(row_zero (HO.out.later S2.out.below).body)⟩
        refine step_append_first rfl _ _ 40 rfl 0 9 istring (.string ByteArray.empty) 1 16 Tryd.underlying40 histring hz0string hz1string hz2string rfl (by decide) (.slice (some ⟨wq.heap.size, 0, none⟩) 0 0) (by rfl) OW2.out (a2) (m.body.length) (c2) (m.body.map Value.string) (by rfl) SR2.out (strs_cells_one _) (by unfold maxLen; omega) (by omega) (Nat.zero_le _) ?_
        intro v1 u2 hown hg hat
        have S3 : Seal (Pt w u2 [[Res.row 9 1 (v1) (m.body.length) (m.body.map Value.string)], [Res.cells (w.heap.size + 1 + 1) [.int .i64 0, .slice none 0 0]], [Res.cells (w.heap.size + 1) [.string m.fu, .string m.fd, .slice a1 m.rc.length c1, .slice a2 m.body.length c2]], [Res.cells (w.heap.size) [.int .i64 s.last, .slice ao s.items.length cap]]]) := ⟨Pt.app SH2.out hown hg (by simpa using hat)⟩
        obtain ⟨bo3, c4, rfl, _⟩ := row_value (Pt.row1 S3.out 0 rfl)
        clear hown hg hat SH2 OW2 SR2
        refine hK.out _ _ ⟨(S3.out.cellsM 3 rfl).c 0 _ rfl, (S3.out.cellsM 2 rfl).c 0 _ rfl, (S3.out.cellsM 2 rfl).c 1 _ rfl, (S3.out.cellsM 2 rfl).c 3 _ rfl⟩ (fun hHeld => ?_)
        clear hK K
        try simp only [Act.put, List.getElem_toArray, List.getElem_cons_succ, List.getElem_cons_zero, List.setIfInBounds_toArray, List.set_cons_zero, List.set_cons_succ]
        refine tkH 9 (by assumption) (h := ?_)
        refine wpAnyH_ready (rs := [10]) (by kernel_rfl) (by simp) ?_
        refine AllReadyH.cons rfl (fun K hK => ?_) AllReadyH.nil
        have S4 : Seal (Pt w (u2.alloc (.cells #[.int .i64 0, .string { data := #[] }, .string { data := #[] }, .slice none 0 0, .slice none 0 0] 42)) [[Res.cells (u2.heap.size) [.int .i64 0, .string { data := #[] }, .string { data := #[] }, .slice none 0 0, .slice none 0 0]], [Res.row 9 1 (.slice bo3 (m.body.length) c4) (m.body.length) (m.body.map Value.string)], [Res.cells (w.heap.size + 1 + 1) [.int .i64 0, .slice none 0 0]], [Res.cells (w.heap.size + 1) [.string m.fu, .string m.fd, .slice a1 m.rc.length c1, .slice a2 m.body.length c2]], [Res.cells (w.heap.size) [.int .i64 s.last, .slice ao s.items.length cap]]]) := ⟨S3.out.alloc #[.int .i64 0, .string { data := #[] }, .string { data := #[] }, .slice none 0 0, .slice none 0 0] 42⟩
        go_simp
        refine hK.out _ _ ⟨(S4.out.cellsM 4 rfl).c 0 _ rfl, (S4.out.cellsM 3 rfl).c 0 _ rfl, (S4.out.cellsM 3 rfl).c 1 _ rfl, (S4.out.cellsM 3 rfl).c 3 _ rfl⟩ (fun hHeld => ?_)
        clear hK K
        try simp only [Act.put, List.getElem_toArray, List.getElem_cons_succ, List.getElem_cons_zero, List.setIfInBounds_toArray, List.set_cons_zero, List.set_cons_succ]
        refine wpAnyH_ready (rs := [11]) (by kernel_rfl) (by simp) ?_
        refine AllReadyH.cons rfl (fun K hK => ?_) AllReadyH.nil
        have S5 : Seal (Pt w (u2.alloc (.cells #[.int .i64 (s.last + 1), .string m.fu, .string m.fd, .slice none 0 0, .slice bo3 (m.body.length) c4] 42)) [[Res.cells (u2.heap.size) [.int .i64 (s.last + 1), .string m.fu, .string m.fd, .slice none 0 0, .slice bo3 (m.body.length) c4]], [Res.row 9 1 (.slice bo3 (m.body.length) c4) (m.body.length) (m.body.map Value.string)], [Res.cells (w.heap.size + 1 + 1) [.int .i64 0, .slice none 0 0]], [Res.cells (w.heap.size + 1) [.string m.fu, .string m.fd, .slice a1 m.rc.length c1, .slice a2 m.body.length c2]], [Res.cells (w.heap.size) [.int .i64 s.last, .slice ao s.items.length cap]]]) := ⟨S3.out.alloc #[.int .i64 (s.last + 1), .string m.fu, .string m.fd, .slice none 0 0, .slice bo3 (m.body.length) c4] 42⟩
        go_simp
        refine hK.out _ _ ⟨(S5.out.cellsM 4 rfl).c 0 _ rfl, (S5.out.cellsM 3 rfl).c 0 _ rfl, (S5.out.cellsM 3 rfl).c 1 _ rfl, (S5.out.cellsM 3 rfl).c 3 _ rfl⟩ (fun hHeld => ?_)
        clear hK K
        try simp only [Act.put, List.getElem_toArray, List.getElem_cons_succ, List.getElem_cons_zero, List.setIfInBounds_toArray, List.set_cons_zero, List.set_cons_succ]
        refine wpAnyH_done (by kernel_rfl) ?_ _
        go_wp2_with fail
        go_meet
        exact ⟨u2.heap.size, bo3, c4, rfl, (Pt.bring ((Pt.bring ((Pt.bring ((Pt.bring ((Pt.bring (S5.out) 4 rfl)) 4 rfl)) 4 rfl)) 4 rfl)) 4 rfl)⟩
      · have S3 : Seal (Pt w ((wq.alloc (.cells #[] 9)).alloc (.cells #[.int .i64 0, .string { data := #[] }, .string { data := #[] }, .slice none 0 0, .slice none 0 0] 42)).drew [[Res.cells (wq.heap.size + 1) [.int .i64 0, .string { data := #[] }, .string { data := #[] }, .slice none 0 0, .slice none 0 0]], [Res.row 9 1 (.slice (some ⟨wq.heap.size, 0, none⟩) 0 0) (0) ([])], [Res.cells (w.heap.size + 1 + 1) [.int .i64 0, .slice none 0 0]], [Res.cells (w.heap.size + 1) [.string m.fu, .string m.fd, .slice a1 m.rc.length c1, .slice a2 m.body.length c2]], [Res.cells (w.heap.size) [.int .i64 s.last, .slice ao s.items.length cap]]]) := ⟨by have h := S2.out.alloc #[.int .i64 0, .string { data := #[] }, .string { data := #[] }, .slice none 0 0, .slice none 0 0] 42; simp only [World.size_alloc, World.size_drew'] at h; exact h⟩
        go_simp
        refine hK.out _ _ ⟨(S3.out.cellsM 4 rfl).c 0 _ rfl, (S3.out.cellsM 3 rfl).c 0 _ rfl, (S3.out.cellsM 3 rfl).c 1 _ rfl, (S3.out.cellsM 3 rfl).c 3 _ rfl⟩ (fun hHeld => ?_)
        clear hK K
        try simp only [Act.put, List.getElem_toArray, List.getElem_cons_succ, List.getElem_cons_zero, List.setIfInBounds_toArray, List.set_cons_zero, List.set_cons_succ]
        refine wpAnyH_ready (rs := [8]) (by kernel_rfl) (by simp) ?_
        refine AllReadyH.cons rfl (fun K hK => ?_) AllReadyH.nil
        have SH3 : Seal (Pt w ((wq.alloc (.cells #[] 9)).alloc (.cells #[.int .i64 0, .string { data := #[] }, .string { data := #[] }, .slice none 0 0, .slice none 0 0] 42)).drew [[Res.row 9 1 (.slice (some ⟨wq.heap.size, 0, none⟩) 0 0) (0) ([])], [Res.cells (wq.heap.size + 1) [.int .i64 0, .string { data := #[] }, .string { data := #[] }, .slice none 0 0, .slice none 0 0]], [Res.cells (w.heap.size + 1 + 1) [.int .i64 0, .slice none 0 0]], [Res.cells (w.heap.size + 1) [.string m.fu, .string m.fd, .slice a1 m.rc.length c1, .slice a2 m.body.length c2]], [Res.cells (w.heap.size) [.int .i64 s.last, .slice ao s.items.length cap]]]) := ⟨S3.out.bring 1 rfl⟩
        have OW3 : Seal _ := ⟨Pt.row1 SH3.out 0 rfl⟩
        have SR3 : Seal _ := ⟨(row_zero (HO.out.later S3.out.below).body)⟩
        refine step_append_first rfl _ _ 40 rfl 0 9 istring (.string ByteArray.empty) 1 16 Tryd.underlying40 histring hz0string hz1string hz2string rfl (by decide) (.slice (some ⟨wq.heap.size, 0, none⟩) 0 0) (by rfl) OW3.out (a2) (m.body.length) (c2) (m.body.map Value.string) (by rfl) SR3.out (strs_cells_one _) (by unfold maxLen; omega) (by omega) (Nat.zero_le _) ?_
        intro v5 u6 hown hg hat
        have S4 : Seal (Pt w u6 [[Res.row 9 1 (v5) (m.body.length) (m.body.map Value.string)], [Res.cells (wq.heap.size + 1) [.int .i64 0, .string { data := #[] }, .string { data := #[] }, .slice none 0 0, .slice none 0 0]], [Res.cells (w.heap.size + 1 + 1) [.int .i64 0, .slice none 0 0]], [Res.cells (w.heap.size + 1) [.string m.fu, .string m.fd, .slice a1 m.rc.length c1, .slice a2 m.body.length c2]], [Res.cells (w.heap.size) [.int .i64 s.last, .slice ao s.items.length cap]]]) := ⟨Pt.app SH3.out hown hg (by simpa using hat)⟩
        obtain ⟨bo7, c8, rfl, _⟩ := row_value (Pt.row1 S4.out 0 rfl)
        clear hown hg hat SH3 OW3 SR3
        refine hK.out _ _ ⟨(S4.out.cellsM 4 rfl).c 0 _ rfl, (S4.out.cellsM 3 rfl).c 0 _ rfl, (S4.out.cellsM 3 rfl).c 1 _ rfl, (S4.out.cellsM 3 rfl).c 3 _ rfl⟩ (fun hHeld => ?_)
        clear hK K
        try simp only [Act.put, List.getElem_toArray, List.getElem_cons_succ, List.getElem_cons_zero, List.setIfInBounds_toArray, List.set_cons_zero, List.set_cons_succ]
        refine tkH 9 (by assumption) (h := ?_)
        refine wpAnyH_ready (rs := [11]) (by kernel_rfl) (by simp) ?_
        refine AllReadyH.cons rfl (fun K hK => ?_) AllReadyH.nil
        have S5 : Seal (Pt w u6 [[Res.cells (wq.heap.size + 1) [.int .i64 0, .string { data := #[] }, .string { data := #[] }, .slice none 0 0, .slice none 0 0]], [Res.row 9 1 (.slice bo7 (m.body.length) c8) (m.body.length) (m.body.map Value.string)], [Res.cells (w.heap.size + 1 + 1) [.int .i64 0, .slice none 0 0]], [Res.cells (w.heap.size + 1) [.string m.fu, .string m.fd, .slice a1 m.rc.length c1, .slice a2 m.body.length c2]], [Res.cells (w.heap.size) [.int .i64 s.last, .slice ao s.items.length cap]]]) := ⟨S4.out.bring 1 rfl⟩
        have oc0 := (S5.out.cellsM 0 rfl).c 0 _ rfl
        have of0 := (S5.out.cellsM 0 rfl).f 0 (by simp)
        have oc1 := (S5.out.cellsM 0 rfl).c 1 _ rfl
        have of1 := (S5.out.cellsM 0 rfl).f 1 (by simp)
        have oc2 := (S5.out.cellsM 0 rfl).c 2 _ rfl
        have of2 := (S5.out.cellsM 0 rfl).f 2 (by simp)
        have oc3 := (S5.out.cellsM 0 rfl).c 3 _ rfl
        have of3 := (S5.out.cellsM 0 rfl).f 3 (by simp)
        have oc4 := (S5.out.cellsM 0 rfl).c 4 _ rfl
        have of4 := (S5.out.cellsM 0 rfl).f 4 (by simp)
        have S6 : Seal (Pt w (((((u6.setCell ⟨wq.heap.size + 1, 0, none⟩ (.int .i64 (s.last + 1))).setCell ⟨wq.heap.size + 1, 1, none⟩ (.string m.fu)).setCell ⟨wq.heap.size + 1, 2, none⟩ (.string m.fd)).setCell ⟨wq.heap.size + 1, 3, none⟩ (.slice none 0 0)).setCell ⟨wq.heap.size + 1, 4, none⟩ (.slice bo7 (m.body.length) c8)) [[Res.cells (wq.heap.size + 1) [.int .i64 (s.last + 1), .string m.fu, .string m.fd, .slice none 0 0, .slice bo7 (m.body.length) c8]], [Res.row 9 1 (.slice bo7 (m.body.length) c8) (m.body.length) (m.body.map Value.string)], [Res.cells (w.heap.size + 1 + 1) [.int .i64 0, .slice none 0 0]], [Res.cells (w.heap.size + 1) [.string m.fu, .string m.fd, .slice a1 m.rc.length c1, .slice a2 m.body.length c2]], [Res.cells (w.heap.size) [.int .i64 s.last, .slice ao s.items.length cap]]]) := ⟨(((((S5.out).set 0 (.int .i64 (s.last + 1)) (by simp)).set 1 (.string m.fu) (by simp)).set 2 (.string m.fd) (by simp)).set 3 (.slice none 0 0) (by simp)).set 4 (.slice bo7 (m.body.length) c8) (by simp)⟩
        go_simp
        refine hK.out _ _ ⟨(S6.out.cellsM 4 rfl).c 0 _ rfl, (S6.out.cellsM 3 rfl).c 0 _ rfl, (S6.out.cellsM 3 rfl).c 1 _ rfl, (S6.out.cellsM 3 rfl).c 3 _ rfl⟩ (fun hHeld => ?_)
        clear hK K
        try simp only [Act.put, List.getElem_toArray, List.getElem_cons_succ, List.getElem_cons_zero, List.setIfInBounds_toArray, List.set_cons_zero, List.set_cons_succ]
        clear oc0 of0 oc1 of1 oc2 of2 oc3 of3 oc4 of4
        refine wpAnyH_done (by kernel_rfl) ?_ _
        go_wp2_with fail
        go_meet
        exact ⟨wq.heap.size + 1, bo7, c8, rfl, (Pt.bring ((Pt.bring ((Pt.bring ((Pt.bring ((Pt.bring (S6.out) 4 rfl)) 4 rfl)) 4 rfl)) 4 rfl)) 4 rfl)⟩
    · have S2 : Seal (Pt w (wq.alloc (.cells #[.int .i64 0, .string { data := #[] }, .string { data := #[] }, .slice none 0 0, .slice none 0 0] 42)).drew [[Res.cells (wq.heap.size) [.int .i64 0, .string { data := #[] }, .string { data := #[] }, .slice none 0 0, .slice none 0 0]], [Res.cells (w.heap.size + 1 + 1) [.int .i64 0, .slice none 0 0]], [Res.cells (w.heap.size + 1) [.string m.fu, .string m.fd, .slice a1 m.rc.length c1, .slice a2 m.body.length c2]], [Res.cells (w.heap.size) [.int .i64 s.last, .slice ao s.items.length cap]]]) := ⟨S1.out.alloc #[.int .i64 0, .string { data := #[] }, .string { data := #[] }, .slice none 0 0, .slice none 0 0] 42⟩
      go_simp
      refine hK.out _ _ ⟨(S2.out.cellsM 3 rfl).c 0 _ rfl, (S2.out.cellsM 2 rfl).c 0 _ rfl, (S2.out.cellsM 2 rfl).c 1 _ rfl, (S2.out.cellsM 2 rfl).c 3 _ rfl⟩ (fun hHeld => ?_)
      clear hK K
      try simp only [Act.put, List.getElem_toArray, List.getElem_cons_succ, List.getElem_cons_zero, List.setIfInBounds_toArray, List.set_cons_zero, List.set_cons_succ]
      refine wpAnyH_ready (rs := [5]) (by kernel_rfl) (by simp) ?_
      refine AllReadyH.cons rfl (fun K hK => ?_) AllReadyH.nil
      have S3 : Seal (Pt w ((wq.alloc (.cells #[.int .i64 0, .string { data := #[] }, .string { data := #[] }, .slice none 0 0, .slice none 0 0] 42)).alloc (.cells #[] 9)).drew [[Res.row 9 1 (.slice (some ⟨wq.heap.size + 1, 0, none⟩) 0 0) (0) ([])], [Res.cells (wq.heap.size) [.int .i64 0, .string { data := #[] }, .string { data := #[] }, .slice none 0 0, .slice none 0 0]], [Res.cells (w.heap.size + 1 + 1) [.int .i64 0, .slice none 0 0]], [Res.cells (w.heap.size + 1) [.string m.fu, .string m.fd, .slice a1 m.rc.length c1, .slice a2 m.body.length c2]], [Res.cells (w.heap.size) [.int .i64 s.last, .slice ao s.items.length cap]]]) := ⟨by have h := Pt.built S2.out #[] 9 1 0 (by decide) rfl; simp only [World.size_alloc, World.size_drew'] at h; exact h⟩
      go_simp
      refine hK.out _ _ ⟨(S3.out.cellsM 4 rfl).c 0 _ rfl, (S3.out.cellsM 3 rfl).c 0 _ rfl, (S3.out.cellsM 3 rfl).c 1 _ rfl, (S3.out.cellsM 3 rfl).c 3 _ rfl⟩ (fun hHeld => ?_)
      clear hK K
      try simp only [Act.put, List.getElem_toArray, List.getElem_cons_succ, List.getElem_cons_zero, List.setIfInBounds_toArray, List.set_cons_zero, List.set_cons_succ]
      refine wpAnyH_ready (rs := [8]) (by kernel_rfl) (by simp) ?_
      refine AllReadyH.cons rfl (fun K hK => ?_) AllReadyH.nil
      have SH3 : Seal (Pt w ((wq.alloc (.cells #[.int .i64 0, .string { data := #[] }, .string { data := #[] }, .slice none 0 0, .slice none 0 0] 42)).alloc (.cells #[] 9)).drew [[Res.row 9 1 (.slice (some ⟨wq.heap.size + 1, 0, none⟩) 0 0) (0) ([])], [Res.cells (wq.heap.size) [.int .i64 0, .string { data := #[] }, .string { data := #[] }, .slice none 0 0, .slice none 0 0]], [Res.cells (w.heap.size + 1 + 1) [.int .i64 0, .slice none 0 0]], [Res.cells (w.heap.size + 1) [.string m.fu, .string m.fd, .slice a1 m.rc.length c1, .slice a2 m.body.length c2]], [Res.cells (w.heap.size) [.int .i64 s.last, .slice ao s.items.length cap]]]) := ⟨S3.out.bring 0 rfl⟩
      have OW3 : Seal _ := ⟨Pt.row1 SH3.out 0 rfl⟩
      have SR3 : Seal _ := ⟨(row_zero (HO.out.later S3.out.below).body)⟩
      refine step_append_first rfl _ _ 40 rfl 0 9 istring (.string ByteArray.empty) 1 16 Tryd.underlying40 histring hz0string hz1string hz2string rfl (by decide) (.slice (some ⟨wq.heap.size + 1, 0, none⟩) 0 0) (by rfl) OW3.out (a2) (m.body.length) (c2) (m.body.map Value.string) (by rfl) SR3.out (strs_cells_one _) (by unfold maxLen; omega) (by omega) (Nat.zero_le _) ?_
      intro v9 u10 hown hg hat
      have S4 : Seal (Pt w u10 [[Res.row 9 1 (v9) (m.body.length) (m.body.map Value.string)], [Res.cells (wq.heap.size) [.int .i64 0, .string { data := #[] }, .string { data := #[] }, .slice none 0 0, .slice none 0 0]], [Res.cells (w.heap.size + 1 + 1) [.int .i64 0, .slice none 0 0]], [Res.cells (w.heap.size + 1) [.string m.fu, .string m.fd, .slice a1 m.rc.length c1, .slice a2 m.body.length c2]], [Res.cells (w.heap.size) [.int .i64 s.last, .slice ao s.items.length cap]]]) := ⟨Pt.app SH3.out hown hg (by simpa using hat)⟩
      obtain ⟨bo11, c12, rfl, _⟩ := row_value (Pt.row1 S4.out 0 rfl)
      clear hown hg hat SH3 OW3 SR3
      refine hK.out _ _ ⟨(S4.out.cellsM 4 rfl).c 0 _ rfl, (S4.out.cellsM 3 rfl).c 0 _ rfl, (S4.out.cellsM 3 rfl).c 1 _ rfl, (S4.out.cellsM 3 rfl).c 3 _ rfl⟩ (fun hHeld => ?_)
      clear hK K
      try simp only [Act.put, List.getElem_toArray, List.getElem_cons_succ, List.getElem_cons_zero, List.setIfInBounds_toArray, List.set_cons_zero, List.set_cons_succ]
      refine tkH 9 (by assumption) (h := ?_)
      refine wpAnyH_ready (rs := [11]) (by kernel_rfl) (by simp) ?_
      refine AllReadyH.cons rfl (fun K hK => ?_) AllReadyH.nil
      have S5 : Seal (Pt w u10 [[Res.cells (wq.heap.size) [.int .i64 0, .string { data := #[] }, .string { data := #[] }, .slice none 0 0, .slice none 0 0]], [Res.row 9 1 (.slice bo11 (m.body.length) c12) (m.body.length) (m.body.map Value.string)], [Res.cells (w.heap.size + 1 + 1) [.int .i64 0, .slice none 0 0]], [Res.cells (w.heap.size + 1) [.string m.fu, .string m.fd, .slice a1 m.rc.length c1, .slice a2 m.body.length c2]], [Res.cells (w.heap.size) [.int .i64 s.last, .slice ao s.items.length cap]]]) := ⟨S4.out.bring 1 rfl⟩
      have oc0 := (S5.out.cellsM 0 rfl).c 0 _ rfl
      have of0 := (S5.out.cellsM 0 rfl).f 0 (by simp)
      have oc1 := (S5.out.cellsM 0 rfl).c 1 _ rfl
      have of1 := (S5.out.cellsM 0 rfl).f 1 (by simp)
      have oc2 := (S5.out.cellsM 0 rfl).c 2 _ rfl
      have of2 := (S5.out.cellsM 0 rfl).f 2 (by simp)
      have oc3 := (S5.out.cellsM 0 rfl).c 3 _ rfl
      have of3 := (S5.out.cellsM 0 rfl).f 3 (by simp)
      have oc4 := (S5.out.cellsM 0 rfl).c 4 _ rfl
      have of4 := (S5.out.cellsM 0 rfl).f 4 (by simp)
      have S6 : Seal (Pt w (((((u10.setCell ⟨wq.heap.size, 0, none⟩ (.int .i64 (s.last + 1))).setCell ⟨wq.heap.size, 1, none⟩ (.string m.fu)).setCell ⟨wq.heap.size, 2, none⟩ (.string m.fd)).setCell ⟨wq.heap.size, 3, none⟩ (.slice none 0 0)).setCell ⟨wq.heap.size, 4, none⟩ (.slice bo11 (m.body.length) c12)) [[Res.cells (wq.heap.size) [.int .i64 (s.last + 1), .string m.fu, .string m.fd, .slice none 0 0, .slice bo11 (m.body.length) c12]], [Res.row 9 1 (.slice bo11 (m.body.length) c12) (m.body.length) (m.body.map Value.string)], [Res.cells (w.heap.size + 1 + 1) [.int .i64 0, .slice none 0 0]], [Res.cells (w.heap.size + 1) [.string m.fu, .string m.fd, .slice a1 m.rc.length c1, .slice a2 m.body.length c2]], [Res.cells (w.heap.size) [.int .i64 s.last, .slice ao s.items.length cap]]]) := ⟨(((((S5.out).set 0 (.int .i64 (s.last + 1)) (by simp)).set 1 (.string m.fu) (by simp)).set 2 (.string m.fd) (by simp)).set 3 (.slice none 0 0) (by simp)).set 4 (.slice bo11 (m.body.length) c12) (by simp)⟩
      go_simp
      refine hK.out _ _ ⟨(S6.out.cellsM 4 rfl).c 0 _ rfl, (S6.out.cellsM 3 rfl).c 0 _ rfl, (S6.out.cellsM 3 rfl).c 1 _ rfl, (S6.out.cellsM 3 rfl).c 3 _ rfl⟩ (fun hHeld => ?_)
      clear hK K
      try simp only [Act.put, List.getElem_toArray, List.getElem_cons_succ, List.getElem_cons_zero, List.setIfInBounds_toArray, List.set_cons_zero, List.set_cons_succ]
      clear oc0 of0 oc1 of1 oc2 of2 oc3 of3 oc4 of4
      refine wpAnyH_done (by kernel_rfl) ?_ _
      go_wp2_with fail
      go_meet
      exact ⟨wq.heap.size, bo11, c12, rfl, (Pt.bring ((Pt.bring ((Pt.bring ((Pt.bring ((Pt.bring (S6.out) 4 rfl)) 4 rfl)) 4 rfl)) 4 rfl)) 4 rfl)⟩
  case rest =>
  obtain ⟨k7, q2, d2, rfl, hS⟩ := hcut
  have S2 : Seal (Pt w wc [[Res.cells (k7) [.int .i64 (s.last + 1), .string m.fu, .string m.fd, .slice none 0 0, .slice q2 m.body.length d2]], [Res.row 9 1 (.slice q2 m.body.length d2) (m.body.length) (m.body.map Value.string)], [Res.cells (w.heap.size + 1 + 1) [.int .i64 0, .slice none 0 0]], [Res.cells (w.heap.size + 1) [.string m.fu, .string m.fd, .slice a1 m.rc.length c1, .slice a2 m.body.length c2]], [Res.cells (w.heap.size) [.int .i64 s.last, .slice ao s.items.length cap]]]) := ⟨hS⟩
  clear hS S0
  generalize wc = w2 at *
  have g0 := (S2.out.cellsM 3 rfl).c 0 _ rfl
  have g1 := (S2.out.cellsM 3 rfl).c 1 _ rfl
  have g2 := (S2.out.cellsM 3 rfl).c 2 _ rfl
  have g3 := (S2.out.cellsM 3 rfl).c 3 _ rfl
  go_wp2
  go_loopw [8] (fun i wr => ∃ (k : Nat) (ro : Option Addr) (rc : Nat), k ≤ m.rc.length ∧ i = .int .i64 k ∧ Seal (Pt w wr [[Res.cells k7 [.int .i64 (s.last + 1), .string m.fu, .string m.fd, .slice ro k rc, .slice q2 m.body.length d2]], [Res.row 44 4 (.slice ro k rc) k (rcNew now (m.rc.take k))], [Res.row 9 1 (.slice q2 m.body.length d2) (m.body.length) (m.body.map Value.string)], [Res.cells (w.heap.size + 1 + 1) [.int .i64 0, .slice none 0 0]], [Res.cells (w.heap.size + 1) [.string m.fu, .string m.fd, .slice a1 m.rc.length c1, .slice a2 m.body.length c2]], [Res.cells (w.heap.size) [.int .i64 s.last, .slice ao s.items.length cap]]])) (fun i _ => m.rc.length - (intOf i).toNat)
  case atStart => exact ⟨0, none, 0, Nat.zero_le _, rfl, ⟨((S2.out.nothing 44 4).bring 1 rfl)⟩⟩
  case round =>
    obtain ⟨k, ro, rc, hk, rfl, S⟩ := hrel
    clear S2 g0 g1 g2 g3
    have g2 := (S.out.cellsM 4 rfl).c 2 _ rfl
    by_cases hlt : k < m.rc.length
    · obtain ⟨p, hp⟩ : ∃ p, m.rc[k]? = some p := ⟨_, List.getElem?_eq_getElem hlt⟩
      obtain ⟨b, off, rfl, c0, c1'⟩ := HO.out.at.rc k p hp
      have HE : Seal _ := ⟨rcNew_snoc (now := now) hp⟩
      have hi0 : (0 : Int) ≤ (k : Int) := by omega
      have hi1 : (k : Int) < (m.rc.length : Int) := by omega
      clear hp
      have S3 : Seal (Pt w wr [[Res.cells (k7) [.int .i64 (s.last + 1), .string m.fu, .string m.fd, .slice ro k rc, .slice q2 m.body.length d2]], [Res.row 44 4 (.slice ro k rc) (k) (rcNew now (m.rc.take k))], [Res.row 9 1 (.slice q2 m.body.length d2) (m.body.length) (m.body.map Value.string)], [Res.cells (w.heap.size + 1 + 1) [.int .i64 0, .slice none 0 0]], [Res.cells (w.heap.size + 1) [.string m.fu, .string m.fd, .slice (some ⟨b, off, none⟩) m.rc.length c1, .slice a2 m.body.length c2]], [Res.cells (w.heap.size) [.int .i64 s.last, .slice ao s.items.length cap]]]) := S
      clear S g2
      have g2 := (S3.out.cellsM 4 rfl).c 2 _ rfl
      go_upto_region 5 with fail
      clear g2
      have S4 : Seal (Pt w wr.drew [[Res.cells (k7) [.int .i64 (s.last + 1), .string m.fu, .string m.fd, .slice ro k rc, .slice q2 m.body.length d2]], [Res.row 44 4 (.slice ro k rc) (k) (rcNew now (m.rc.take k))], [Res.row 9 1 (.slice q2 m.body.length d2) (m.body.length) (m.body.map Value.string)], [Res.cells (w.heap.size + 1 + 1) [.int .i64 0, .slice none 0 0]], [Res.cells (w.heap.size + 1) [.string m.fu, .string m.fd, .slice (some ⟨b, off, none⟩) m.rc.length c1, .slice a2 m.body.length c2]], [Res.cells (w.heap.size) [.int .i64 s.last, .slice ao s.items.length cap]]]) := ⟨S3.out.drew⟩
      refine wp_region_held_drew (S := (fun w' => w'.cell? ⟨w.heap.size + 1, 2, none⟩ = some (.slice (some ⟨b, off, none⟩) m.rc.length c1) ∧ w'.cell? ⟨b, off + k * 2, none⟩ = some (.string p.1) ∧ w'.cell? ⟨b, off + k * 2 + 1, none⟩ = some (.string p.2))) (by kernel_rfl) ⟨(S4.out.cellsM 4 rfl).c 2 _ rfl, (heldc c0 S4.out.below), (heldc c1' S4.out.below)⟩ (fun hHeld => ?_)
      refine tkH 0 (by assumption) (h := ?_)
      refine tkH 2 (by assumption) (h := ?_)
      refine tkH 3 (by assumption) (h := ?_)
      refine tkH 4 (by assumption) (h := ?_)
      refine tkH 5 (by assumption) (h := ?_)
      refine tkH 6 (by assumption) (h := ?_)
      refine tkH 7 (by assumption) (h := ?_)
      refine tkH 8 (by assumption) (h := ?_)
      refine wpAnyH_ready (rs := [1, 9]) (by kernel_rfl) (by simp) ?_
      refine AllReadyH.cons rfl (fun K hK => ?_) (AllReadyH.cons rfl (fun K hK => ?_) AllReadyH.nil)
      · have ol0 := (S4.out.cellsM 0 rfl).c 3 _ rfl
        go_simp
        refine hK.out _ _ ⟨(S4.out.cellsM 4 rfl).c 2 _ rfl, (heldc c0 S4.out.below), (heldc c1' S4.out.below)⟩ (fun hHeld => ?_)
        clear hK K
        try simp only [Act.put, List.getElem_toArray, List.getElem_cons_succ, List.getElem_cons_zero, List.setIfInBounds_toArray, List.set_cons_zero, List.set_cons_succ]
        clear ol0
        refine wpAnyH_ready (rs := [9]) (by kernel_rfl) (by simp) ?_
        refine AllReadyH.cons rfl (fun K hK => ?_) AllReadyH.nil
        have S5 : Seal (Pt w (wr.alloc (.cells #[.string p.1, .string p.2, .int .i64 0, .int .i64 now] 44)).drew [[Res.row 44 4 (.slice (some ⟨wr.heap.size, 0, none⟩) 1 1) (1) ([.string p.1, .string p.2, .int .i64 0, .int .i64 now])], [Res.cells (k7) [.int .i64 (s.last + 1), .string m.fu, .string m.fd, .slice ro k rc, .slice q2 m.body.length d2]], [Res.row 44 4 (.slice ro k rc) (k) (rcNew now (m.rc.take k))], [Res.row 9 1 (.slice q2 m.body.length d2) (m.body.length) (m.body.map Value.string)], [Res.cells (w.heap.size + 1 + 1) [.int .i64 0, .slice none 0 0]], [Res.cells (w.heap.size + 1) [.string m.fu, .string m.fd, .slice (some ⟨b, off, none⟩) m.rc.length c1, .slice a2 m.body.length c2]], [Res.cells (w.heap.size) [.int .i64 s.last, .slice ao s.items.length cap]]]) := ⟨Pt.built S4.out #[.string p.1, .string p.2, .int .i64 0, .int .i64 now] 44 4 1 (by decide) rfl⟩
        go_simp
        refine hK.out _ _ ⟨(S5.out.cellsM 5 rfl).c 2 _ rfl, (heldc c0 S5.out.below), (heldc c1' S5.out.below)⟩ (fun hHeld => ?_)
        clear hK K
        try simp only [Act.put, List.getElem_toArray, List.getElem_cons_succ, List.getElem_cons_zero, List.setIfInBounds_toArray, List.set_cons_zero, List.set_cons_succ]
        refine wpAnyH_ready (rs := [10]) (by kernel_rfl) (by simp) ?_
        refine AllReadyH.cons rfl (fun K hK => ?_) AllReadyH.nil
        have SH5 : Seal (Pt w (wr.alloc (.cells #[.string p.1, .string p.2, .int .i64 0, .int .i64 now] 44)).drew [[Res.row 44 4 (.slice ro k rc) (k) (rcNew now (m.rc.take k))], [Res.row 44 4 (.slice (some ⟨wr.heap.size, 0, none⟩) 1 1) (1) ([.string p.1, .string p.2, .int .i64 0, .int .i64 now])], [Res.cells (k7) [.int .i64 (s.last + 1), .string m.fu, .string m.fd, .slice ro k rc, .slice q2 m.body.length d2]], [Res.row 9 1 (.slice q2 m.body.length d2) (m.body.length) (m.body.map Value.string)], [Res.cells (w.heap.size + 1 + 1) [.int .i64 0, .slice none 0 0]], [Res.cells (w.heap.size + 1) [.string m.fu, .string m.fd, .slice (some ⟨b, off, none⟩) m.rc.length c1, .slice a2 m.body.length c2]], [Res.cells (w.heap.size) [.int .i64 s.last, .slice ao s.items.length cap]]]) := ⟨S5.out.bring 2 rfl⟩
        have OW5 : Seal _ := ⟨Pt.row1 SH5.out 0 rfl⟩
        have SR5 : Seal _ := ⟨(Pt.row1 S5.out 0 rfl)⟩
        refine step_append_any rfl _ _ 39 rfl 0 44 iRcpt (.agg #[.string ByteArray.empty, .string ByteArray.empty, .int .i64 0, .int .i64 0]) 4 48 Tryd.underlying39 hiRcpt hz0Rcpt hz1Rcpt hz2Rcpt rfl (by decide) (.slice ro k rc) (k) (rcNew now (m.rc.take k)) (by rfl) OW5.out ((some ⟨wr.heap.size, 0, none⟩)) (1) (1) ([.string p.1, .string p.2, .int .i64 0, .int .i64 now]) (by rfl) SR5.out (rcpt_cells_one (newRcpt now p)) (by unfold maxLen; omega) (by omega) (Nat.zero_le _) ?_
        intro v13 u14 hown hg hat
        have S6 : Seal (Pt w u14 [[Res.row 44 4 (v13) (k + 1) (rcNew now (m.rc.take k) ++ [.string p.1, .string p.2, .int .i64 0, .int .i64 now])], [Res.row 44 4 (.slice (some ⟨wr.heap.size, 0, none⟩) 1 1) (1) ([.string p.1, .string p.2, .int .i64 0, .int .i64 now])], [Res.cells (k7) [.int .i64 (s.last + 1), .string m.fu, .string m.fd, .slice ro k rc, .slice q2 m.body.length d2]], [Res.row 9 1 (.slice q2 m.body.length d2) (m.body.length) (m.body.map Value.string)], [Res.cells (w.heap.size + 1 + 1) [.int .i64 0, .slice none 0 0]], [Res.cells (w.heap.size + 1) [.string m.fu, .string m.fd, .slice (some ⟨b, off, none⟩) m.rc.length c1, .slice a2 m.body.length c2]], [Res.cells (w.heap.size) [.int .i64 s.last, .slice ao s.items.length cap]]]) := ⟨Pt.app SH5.out hown hg (by simpa using hat)⟩
        obtain ⟨bo15, c16, rfl, _⟩ := row_value (Pt.row1 S6.out 0 rfl)
        clear hown hg hat SH5 OW5 SR5
        refine hK.out _ _ ⟨(S6.out.cellsM 5 rfl).c 2 _ rfl, (heldc c0 S6.out.below), (heldc c1' S6.out.below)⟩ (fun hHeld => ?_)
        clear hK K
        try simp only [Act.put, List.getElem_toArray, List.getElem_cons_succ, List.getElem_cons_zero, List.setIfInBounds_toArray, List.set_cons_zero, List.set_cons_succ]
        refine tkH 11 (by assumption) (h := ?_)
        refine wpAnyH_ready (rs := [12]) (by kernel_rfl) (by simp) ?_
        refine AllReadyH.cons rfl (fun K hK => ?_) AllReadyH.nil
        have S7 : Seal (Pt w u14 [[Res.cells (k7) [.int .i64 (s.last + 1), .string m.fu, .string m.fd, .slice ro k rc, .slice q2 m.body.length d2]], [Res.row 44 4 (.slice bo15 (k + 1) c16) (k + 1) (rcNew now (m.rc.take k) ++ [.string p.1, .string p.2, .int .i64 0, .int .i64 now])], [Res.row 44 4 (.slice (some ⟨wr.heap.size, 0, none⟩) 1 1) (1) ([.string p.1, .string p.2, .int .i64 0, .int .i64 now])], [Res.row 9 1 (.slice q2 m.body.length d2) (m.body.length) (m.body.map Value.string)], [Res.cells (w.heap.size + 1 + 1) [.int .i64 0, .slice none 0 0]], [Res.cells (w.heap.size + 1) [.string m.fu, .string m.fd, .slice (some ⟨b, off, none⟩) m.rc.length c1, .slice a2 m.body.length c2]], [Res.cells (w.heap.size) [.int .i64 s.last, .slice ao s.items.length cap]]]) := ⟨S6.out.bring 2 rfl⟩
        have oc0 := (S7.out.cellsM 0 rfl).c 3 _ rfl
        have of0 := (S7.out.cellsM 0 rfl).f 3 (by simp)
        have S8 : Seal (Pt w (u14.setCell ⟨k7, 3, none⟩ (.slice bo15 (k + 1) c16)) [[Res.cells (k7) [.int .i64 (s.last + 1), .string m.fu, .string m.fd, .slice bo15 (k + 1) c16, .slice q2 m.body.length d2]], [Res.row 44 4 (.slice bo15 (k + 1) c16) (k + 1) (rcNew now (m.rc.take k) ++ [.string p.1, .string p.2, .int .i64 0, .int .i64 now])], [Res.row 44 4 (.slice (some ⟨wr.heap.size, 0, none⟩) 1 1) (1) ([.string p.1, .string p.2, .int .i64 0, .int .i64 now])], [Res.row 9 1 (.slice q2 m.body.length d2) (m.body.length) (m.body.map Value.string)], [Res.cells (w.heap.size + 1 + 1) [.int .i64 0, .slice none 0 0]], [Res.cells (w.heap.size + 1) [.string m.fu, .string m.fd, .slice (some ⟨b, off, none⟩) m.rc.length c1, .slice a2 m.body.length c2]], [Res.cells (w.heap.size) [.int .i64 s.last, .slice ao s.items.length cap]]]) := ⟨(S7.out).set 3 (.slice bo15 (k + 1) c16) (by simp)⟩
        go_simp
        refine hK.out _ _ ⟨(S8.out.cellsM 5 rfl).c 2 _ rfl, (heldc c0 S8.out.below), (heldc c1' S8.out.below)⟩ (fun hHeld => ?_)
        clear hK K
        try simp only [Act.put, List.getElem_toArray, List.getElem_cons_succ, List.getElem_cons_zero, List.setIfInBounds_toArray, List.set_cons_zero, List.set_cons_succ]
        clear oc0 of0
        refine wpAnyH_done (by kernel_rfl) ?_ _
        have SZ : Seal (Pt w _ [[Res.cells k7 [.int .i64 (s.last + 1), .string m.fu, .string m.fd, .slice bo15 (k + 1) c16, .slice q2 m.body.length d2]], [Res.row 44 4 (.slice bo15 (k + 1) c16) (k + 1) (rcNew now (m.rc.take (k + 1)))], [Res.row 9 1 (.slice q2 m.body.length d2) (m.body.length) (m.body.map Value.string)], [Res.cells (w.heap.size + 1 + 1) [.int .i64 0, .slice none 0 0]], [Res.cells (w.heap.size + 1) [.string m.fu, .string m.fd, .slice (some ⟨b, off, none⟩) m.rc.length c1, .slice a2 m.body.length c2]], [Res.cells (w.heap.size) [.int .i64 s.last, .slice ao s.items.length cap]]]) := ⟨by rw [← HE.out]; exact (Pt.prefix (As := [[Res.cells (k7) [.int .i64 (s.last + 1), .string m.fu, .string m.fd, .slice bo15 (k + 1) c16, .slice q2 m.body.length d2]], [Res.row 44 4 (.slice bo15 (k + 1) c16) (k + 1) (rcNew now (m.rc.take k) ++ [.string p.1, .string p.2, .int .i64 0, .int .i64 now])], [Res.row 9 1 (.slice q2 m.body.length d2) (m.body.length) (m.body.map Value.string)], [Res.cells (w.heap.size + 1 + 1) [.int .i64 0, .slice none 0 0]], [Res.cells (w.heap.size + 1) [.string m.fu, .string m.fd, .slice (some ⟨b, off, none⟩) m.rc.length c1, .slice a2 m.body.length c2]], [Res.cells (w.heap.size) [.int .i64 s.last, .slice ao s.items.length cap]]]) (Bs := [[Res.row 44 4 (.slice (some ⟨wr.heap.size, 0, none⟩) 1 1) (1) ([.string p.1, .string p.2, .int .i64 0, .int .i64 now])]]) (Pt.bring ((Pt.bring ((Pt.bring ((Pt.bring ((Pt.bring ((Pt.bring (S8.out) 6 rfl)) 6 rfl)) 6 rfl)) 6 rfl)) 5 rfl)) 5 rfl))⟩
        go_wp2
        go_roundw
        case rel => exact ⟨k + 1, bo15, c16, by omega, by go_num, SZ⟩
        case measure => simp [intOf]; omega
      · have S5 : Seal (Pt w (wr.alloc (.cells #[.string p.1, .string p.2, .int .i64 0, .int .i64 now] 44)).drew [[Res.row 44 4 (.slice (some ⟨wr.heap.size, 0, none⟩) 1 1) (1) ([.string p.1, .string p.2, .int .i64 0, .int .i64 now])], [Res.cells (k7) [.int .i64 (s.last + 1), .string m.fu, .string m.fd, .slice ro k rc, .slice q2 m.body.length d2]], [Res.row 44 4 (.slice ro k rc) (k) (rcNew now (m.rc.take k))], [Res.row 9 1 (.slice q2 m.body.length d2) (m.body.length) (m.body.map Value.string)], [Res.cells (w.heap.size + 1 + 1) [.int .i64 0, .slice none 0 0]], [Res.cells (w.heap.size + 1) [.string m.fu, .string m.fd, .slice (some ⟨b, off, none⟩) m.rc.length c1, .slice a2 m.body.length c2]], [Res.cells (w.heap.size) [.int .i64 s.last, .slice ao s.items.length cap]]]) := ⟨Pt.built S4.out #[.string p.1, .string p.2, .int .i64 0, .int .i64 now] 44 4 1 (by decide) rfl⟩
        go_simp
        refine hK.out _ _ ⟨(S5.out.cellsM 5 rfl).c 2 _ rfl, (heldc c0 S5.out.below), (heldc c1' S5.out.below)⟩ (fun hHeld => ?_)
        clear hK K
        try simp only [Act.put, List.getElem_toArray, List.getElem_cons_succ, List.getElem_cons_zero, List.setIfInBounds_toArray, List.set_cons_zero, List.set_cons_succ]
        refine wpAnyH_ready (rs := [1]) (by kernel_rfl) (by simp) ?_
        refine AllReadyH.cons rfl (fun K hK => ?_) AllReadyH.nil
        have ol0 := (S5.out.cellsM 1 rfl).c 3 _ rfl
        go_simp
        refine hK.out _ _ ⟨(S5.out.cellsM 5 rfl).c 2 _ rfl, (heldc c0 S5.out.below), (heldc c1' S5.out.below)⟩ (fun hHeld => ?_)
        clear hK K
        try simp only [Act.put, List.getElem_toArray, List.getElem_cons_succ, List.getElem_cons_zero, List.setIfInBounds_toArray, List.set_cons_zero, List.set_cons_succ]
        clear ol0
        refine wpAnyH_ready (rs := [10]) (by kernel_rfl) (by simp) ?_
        refine AllReadyH.cons rfl (fun K hK => ?_) AllReadyH.nil
        have SH5 : Seal (Pt w (wr.alloc (.cells #[.string p.1, .string p.2, .int .i64 0, .int .i64 now] 44)).drew [[Res.row 44 4 (.slice ro k rc) (k) (rcNew now (m.rc.take k))], [Res.row 44 4 (.slice (some ⟨wr.heap.size, 0, none⟩) 1 1) (1) ([.string p.1, .string p.2, .int .i64 0, .int .i64 now])], [Res.cells (k7) [.int .i64 (s.last + 1), .string m.fu, .string m.fd, .slice ro k rc, .slice q2 m.body.length d2]], [Res.row 9 1 (.slice q2 m.body.length d2) (m.body.length) (m.body.map Value.string)], [Res.cells (w.heap.size + 1 + 1) [.int .i64 0, .slice none 0 0]], [Res.cells (w.heap.size + 1) [.string m.fu, .string m.fd, .slice (some ⟨b, off, none⟩) m.rc.length c1, .slice a2 m.body.length c2]], [Res.cells (w.heap.size) [.int .i64 s.last, .slice ao s.items.length cap]]]) := ⟨S5.out.bring 2 rfl⟩
        have OW5 : Seal _ := ⟨Pt.row1 SH5.out 0 rfl⟩
        have SR5 : Seal _ := ⟨(Pt.row1 S5.out 0 rfl)⟩
        refine step_append_any rfl _ _ 39 rfl 0 44 iRcpt (.agg #[.string ByteArray.empty, .string ByteArray.empty, .int .i64 0, .int .i64 0]) 4 48 Tryd.underlying39 hiRcpt hz0Rcpt hz1Rcpt hz2Rcpt rfl (by decide) (.slice ro k rc) (k) (rcNew now (m.rc.take k)) (by rfl) OW5.out ((some ⟨wr.heap.size, 0, none⟩)) (1) (1) ([.string p.1, .string p.2, .int .i64 0, .int .i64 now]) (by rfl) SR5.out (rcpt_cells_one (newRcpt now p)) (by unfold maxLen; omega) (by omega) (Nat.zero_le _) ?_
        intro v17 u18 hown hg hat
        have S6 : Seal (Pt w u18 [[Res.row 44 4 (v17) (k + 1) (rcNew now (m.rc.take k) ++ [.string p.1, .string p.2, .int .i64 0, .int .i64 now])], [Res.row 44 4 (.slice (some ⟨wr.heap.size, 0, none⟩) 1 1) (1) ([.string p.1, .string p.2, .int .i64 0, .int .i64 now])], [Res.cells (k7) [.int .i64 (s.last + 1), .string m.fu, .string m.fd, .slice ro k rc, .slice q2 m.body.length d2]], [Res.row 9 1 (.slice q2 m.body.length d2) (m.body.length) (m.body.map Value.string)], [Res.cells (w.heap.size + 1 + 1) [.int .i64 0, .slice none 0 0]], [Res.cells (w.heap.size + 1) [.string m.fu, .string m.fd, .slice (some ⟨b, off, none⟩) m.rc.length c1, .slice a2 m.body.length c2]], [Res.cells (w.heap.size) [.int .i64 s.last, .slice ao s.items.length cap]]]) := ⟨Pt.app SH5.out hown hg (by simpa using hat)⟩
        obtain ⟨bo19, c20, rfl, _⟩ := row_value (Pt.row1 S6.out 0 rfl)
        clear hown hg hat SH5 OW5 SR5
        refine hK.out _ _ ⟨(S6.out.cellsM 5 rfl).c 2 _ rfl, (heldc c0 S6.out.below), (heldc c1' S6.out.below)⟩ (fun hHeld => ?_)
        clear hK K
        try simp only [Act.put, List.getElem_toArray, List.getElem_cons_succ, List.getElem_cons_zero, List.setIfInBounds_toArray, List.set_cons_zero, List.set_cons_succ]
        refine tkH 11 (by assumption) (h := ?_)
        refine wpAnyH_ready (rs := [12]) (by kernel_rfl) (by simp) ?_
        refine AllReadyH.cons rfl (fun K hK => ?_) AllReadyH.nil
        have S7 : Seal (Pt w u18 [[Res.cells (k7) [.int .i64 (s.last + 1), .string m.fu, .string m.fd, .slice ro k rc, .slice q2 m.body.length d2]], [Res.row 44 4 (.slice bo19 (k + 1) c20) (k + 1) (rcNew now (m.rc.take k) ++ [.string p.1, .string p.2, .int .i64 0, .int .i64 now])], [Res.row 44 4 (.slice (some ⟨wr.heap.size, 0, none⟩) 1 1) (1) ([.string p.1, .string p.2, .int .i64 0, .int .i64 now])], [Res.row 9 1 (.slice q2 m.body.length d2) (m.body.length) (m.body.map Value.string)], [Res.cells (w.heap.size + 1 + 1) [.int .i64 0, .slice none 0 0]], [Res.cells (w.heap.size + 1) [.string m.fu, .string m.fd, .slice (some ⟨b, off, none⟩) m.rc.length c1, .slice a2 m.body.length c2]], [Res.cells (w.heap.size) [.int .i64 s.last, .slice ao s.items.length cap]]]) := ⟨S6.out.bring 2 rfl⟩
        have oc0 := (S7.out.cellsM 0 rfl).c 3 _ rfl
        have of0 := (S7.out.cellsM 0 rfl).f 3 (by simp)
        have S8 : Seal (Pt w (u18.setCell ⟨k7, 3, none⟩ (.slice bo19 (k + 1) c20)) [[Res.cells (k7) [.int .i64 (s.last + 1), .string m.fu, .string m.fd, .slice bo19 (k + 1) c20, .slice q2 m.body.length d2]], [Res.row 44 4 (.slice bo19 (k + 1) c20) (k + 1) (rcNew now (m.rc.take k) ++ [.string p.1, .string p.2, .int .i64 0, .int .i64 now])], [Res.row 44 4 (.slice (some ⟨wr.heap.size, 0, none⟩) 1 1) (1) ([.string p.1, .string p.2, .int .i64 0, .int .i64 now])], [Res.row 9 1 (.slice q2 m.body.length d2) (m.body.length) (m.body.map Value.string)], [Res.cells (w.heap.size + 1 + 1) [.int .i64 0, .slice none 0 0]], [Res.cells (w.heap.size + 1) [.string m.fu, .string m.fd, .slice (some ⟨b, off, none⟩) m.rc.length c1, .slice a2 m.body.length c2]], [Res.cells (w.heap.size) [.int .i64 s.last, .slice ao s.items.length cap]]]) := ⟨(S7.out).set 3 (.slice bo19 (k + 1) c20) (by simp)⟩
        go_simp
        refine hK.out _ _ ⟨(S8.out.cellsM 5 rfl).c 2 _ rfl, (heldc c0 S8.out.below), (heldc c1' S8.out.below)⟩ (fun hHeld => ?_)
        clear hK K
        try simp only [Act.put, List.getElem_toArray, List.getElem_cons_succ, List.getElem_cons_zero, List.setIfInBounds_toArray, List.set_cons_zero, List.set_cons_succ]
        clear oc0 of0
        refine wpAnyH_done (by kernel_rfl) ?_ _
        have SZ : Seal (Pt w _ [[Res.cells k7 [.int .i64 (s.last + 1), .string m.fu, .string m.fd, .slice bo19 (k + 1) c20, .slice q2 m.body.length d2]], [Res.row 44 4 (.slice bo19 (k + 1) c20) (k + 1) (rcNew now (m.rc.take (k + 1)))], [Res.row 9 1 (.slice q2 m.body.length d2) (m.body.length) (m.body.map Value.string)], [Res.cells (w.heap.size + 1 + 1) [.int .i64 0, .slice none 0 0]], [Res.cells (w.heap.size + 1) [.string m.fu, .string m.fd, .slice (some ⟨b, off, none⟩) m.rc.length c1, .slice a2 m.body.length c2]], [Res.cells (w.heap.size) [.int .i64 s.last, .slice ao s.items.length cap]]]) := ⟨by rw [← HE.out]; exact (Pt.prefix (As := [[Res.cells (k7) [.int .i64 (s.last + 1), .string m.fu, .string m.fd, .slice bo19 (k + 1) c20, .slice q2 m.body.length d2]], [Res.row 44 4 (.slice bo19 (k + 1) c20) (k + 1) (rcNew now (m.rc.take k) ++ [.string p.1, .string p.2, .int .i64 0, .int .i64 now])], [Res.row 9 1 (.slice q2 m.body.length d2) (m.body.length) (m.body.map Value.string)], [Res.cells (w.heap.size + 1 + 1) [.int .i64 0, .slice none 0 0]], [Res.cells (w.heap.size + 1) [.string m.fu, .string m.fd, .slice (some ⟨b, off, none⟩) m.rc.length c1, .slice a2 m.body.length c2]], [Res.cells (w.heap.size) [.int .i64 s.last, .slice ao s.items.length cap]]]) (Bs := [[Res.row 44 4 (.slice (some ⟨wr.heap.size, 0, none⟩) 1 1) (1) ([.string p.1, .string p.2, .int .i64 0, .int .i64 now])]]) (Pt.bring ((Pt.bring ((Pt.bring ((Pt.bring ((Pt.bring ((Pt.bring (S8.out) 6 rfl)) 6 rfl)) 6 rfl)) 6 rfl)) 5 rfl)) 5 rfl))⟩
        go_wp2
        go_roundw
        case rel => exact ⟨k + 1, bo19, c20, by omega, by go_num, SZ⟩
        case measure => simp [intOf]; omega
    · obtain rfl : k = m.rc.length := by omega
      have S4 : Seal (Pt w wr [[Res.cells (k7) [.int .i64 (s.last + 1), .string m.fu, .string m.fd, .slice ro m.rc.length rc, .slice q2 m.body.length d2]], [Res.row 44 4 (.slice ro m.rc.length rc) (m.rc.length) (rcNew now m.rc)], [Res.row 9 1 (.slice q2 m.body.length d2) (m.body.length) (m.body.map Value.string)], [Res.cells (w.heap.size + 1 + 1) [.int .i64 0, .slice none 0 0]], [Res.cells (w.heap.size + 1) [.string m.fu, .string m.fd, .slice a1 m.rc.length c1, .slice a2 m.body.length c2]], [Res.cells (w.heap.size) [.int .i64 s.last, .slice ao s.items.length cap]]]) := ⟨by have h := S.out; rw [List.take_length] at h; exact h⟩
      clear S
      have o0 := (S4.out.cellsM 5 rfl).c 0 _ rfl
      have f0 := (S4.out.cellsM 5 rfl).f 0 (by simp)
      have o1 := (S4.out.cellsM 5 rfl).c 1 _ rfl
      have S5 : Seal (Pt w (wr.setCell ⟨w.heap.size, 0, none⟩ (.int .i64 (s.last + 1))) [[Res.cells (w.heap.size) [.int .i64 (s.last + 1), .slice ao s.items.length cap]], [Res.cells (k7) [.int .i64 (s.last + 1), .string m.fu, .string m.fd, .slice ro m.rc.length rc, .slice q2 m.body.length d2]], [Res.row 44 4 (.slice ro m.rc.length rc) (m.rc.length) (rcNew now m.rc)], [Res.row 9 1 (.slice q2 m.body.length d2) (m.body.length) (m.body.map Value.string)], [Res.cells (w.heap.size + 1 + 1) [.int .i64 0, .slice none 0 0]], [Res.cells (w.heap.size + 1) [.string m.fu, .string m.fd, .slice a1 m.rc.length c1, .slice a2 m.body.length c2]]]) := ⟨(S4.out.bring 5 rfl).set 0 (.int .i64 (s.last + 1)) (by simp)⟩
      go_upto_region 7 with fail
      clear o0 f0 o1 g2 S4
      generalize wr.setCell ⟨w.heap.size, 0, none⟩ (.int .i64 (s.last + 1)) = w5 at *
      go_cut [] (fun wx => ∃ (bo : Option Addr) (c : Nat), Pt w wx [[Res.cells w.heap.size [.int .i64 (s.last + 1), .slice bo (s.items.length + 1) c]], [Res.row 42 5 (.slice bo (s.items.length + 1) c) (s.items.length + 1) (itemE.all s.items ps ++ [.int .i64 (s.last + 1), .string m.fu, .string m.fd, .slice ro m.rc.length rc, .slice q2 m.body.length d2])], [Res.cells (k7) [.int .i64 (s.last + 1), .string m.fu, .string m.fd, .slice ro m.rc.length rc, .slice q2 m.body.length d2]], [Res.row 44 4 (.slice ro m.rc.length rc) (m.rc.length) (rcNew now m.rc)], [Res.row 9 1 (.slice q2 m.body.length d2) (m.body.length) (m.body.map Value.string)], [Res.cells (w.heap.size + 1) [.string m.fu, .string m.fd, .slice a1 m.rc.length c1, .slice a2 m.body.length c2]], [Res.cells (w.heap.size + 1 + 1) [.int .i64 0, .slice none 0 0]]])
      case first =>
        have S6 : Seal (Pt w w5.drew [[Res.cells (w.heap.size) [.int .i64 (s.last + 1), .slice ao s.items.length cap]], [Res.cells (k7) [.int .i64 (s.last + 1), .string m.fu, .string m.fd, .slice ro m.rc.length rc, .slice q2 m.body.length d2]], [Res.row 44 4 (.slice ro m.rc.length rc) (m.rc.length) (rcNew now m.rc)], [Res.row 9 1 (.slice q2 m.body.length d2) (m.body.length) (m.body.map Value.string)], [Res.cells (w.heap.size + 1 + 1) [.int .i64 0, .slice none 0 0]], [Res.cells (w.heap.size + 1) [.string m.fu, .string m.fd, .slice a1 m.rc.length c1, .slice a2 m.body.length c2]]]) := ⟨S5.out.drew⟩
        refine wp_region_held_drew (S := (fun w' => w'.cell? ⟨k7, 0, none⟩ = some (.int .i64 (s.last + 1)) ∧ w'.cell? ⟨k7, 1, none⟩ = some (.string m.fu) ∧ w'.cell? ⟨k7, 2, none⟩ = some (.string m.fd) ∧ w'.cell? ⟨k7, 3, none⟩ = some (.slice ro m.rc.length rc) ∧ w'.cell? ⟨k7, 4, none⟩ = some (.slice q2 m.body.length d2))) (by kernel_rfl) ⟨(S6.out.cellsM 1 rfl).c 0 _ rfl, (S6.out.cellsM 1 rfl).c 1 _ rfl, (S6.out.cellsM 1 rfl).c 2 _ rfl, (S6.out.cellsM 1 rfl).c 3 _ rfl, (S6.out.cellsM 1 rfl).c 4 _ rfl⟩ (fun hHeld => ?_)
        refine tkH 1 (by assumption) (h := ?_)
        refine tkH 4 (by assumption) (h := ?_)
        refine wpAnyH_ready (rs := [0, 2, 5]) (by kernel_rfl) (by simp) ?_
        refine AllReadyH.cons rfl (fun K hK => ?_) (AllReadyH.cons rfl (fun K hK => ?_) (AllReadyH.cons rfl (fun K hK => ?_) AllReadyH.nil))
        · have S7 : Seal (Pt w (w5.alloc (.cells #[] 42)).drew [[Res.row 42 5 (.slice (some ⟨w5.heap.size, 0, none⟩) 0 0) (0) ([])], [Res.cells (w.heap.size) [.int .i64 (s.last + 1), .slice ao s.items.length cap]], [Res.cells (k7) [.int .i64 (s.last + 1), .string m.fu, .string m.fd, .slice ro m.rc.length rc, .slice q2 m.body.length d2]], [Res.row 44 4 (.slice ro m.rc.length rc) (m.rc.length) (rcNew now m.rc)], [Res.row 9 1 (.slice q2 m.body.length d2) (m.body.length) (m.body.map Value.string)], [Res.cells (w.heap.size + 1 + 1) [.int .i64 0, .slice none 0 0]], [Res.cells (w.heap.size + 1) [.string m.fu, .string m.fd, .slice a1 m.rc.length c1, .slice a2 m.body.length c2]]]) := ⟨Pt.built S6.out #[] 42 5 0 (by decide) rfl⟩
          go_simp
          refine hK.out _ _ ⟨(S7.out.cellsM 2 rfl).c 0 _ rfl, (S7.out.cellsM 2 rfl).c 1 _ rfl, (S7.out.cellsM 2 rfl).c 2 _ rfl, (S7.out.cellsM 2 rfl).c 3 _ rfl, (S7.out.cellsM 2 rfl).c 4 _ rfl⟩ (fun hHeld => ?_)
          clear hK K
          try simp only [Act.put, List.getElem_toArray, List.getElem_cons_succ, List.getElem_cons_zero, List.setIfInBounds_toArray, List.set_cons_zero, List.set_cons_succ]
          refine wpAnyH_ready (rs := [2, 5]) (by kernel_rfl) (by simp) ?_
          refine AllReadyH.cons rfl (fun K hK => ?_) (AllReadyH.cons rfl (fun K hK => ?_) AllReadyH.nil)
          · have ol0 := (S7.out.cellsM 1 rfl).c 1 _ rfl
            go_simp
            refine hK.out _ _ ⟨(S7.out.cellsM 2 rfl).c 0 _ rfl, (S7.out.cellsM 2 rfl).c 1 _ rfl, (S7.out.cellsM 2 rfl).c 2 _ rfl, (S7.out.cellsM 2 rfl).c 3 _ rfl, (S7.out.cellsM 2 rfl).c 4 _ rfl⟩ (fun hHeld => ?_)
            clear hK K
            try simp only [Act.put, List.getElem_toArray, List.getElem_cons_succ, List.getElem_cons_zero, List.setIfInBounds_toArray, List.set_cons_zero, List.set_cons_succ]
            clear ol0
            refine wpAnyH_ready (rs := [3, 5]) (by kernel_rfl) (by simp) ?_
            refine AllReadyH.cons rfl (fun K hK => ?_) (AllReadyH.cons rfl (fun K hK => ?_) AllReadyH.nil)
            · have SH7 : Seal (Pt w (w5.alloc (.cells #[] 42)).drew [[Res.row 42 5 (.slice (some ⟨w5.heap.size, 0, none⟩) 0 0) (0) ([])], [Res.cells (w.heap.size) [.int .i64 (s.last + 1), .slice ao s.items.length cap]], [Res.cells (k7) [.int .i64 (s.last + 1), .string m.fu, .string m.fd, .slice ro m.rc.length rc, .slice q2 m.body.length d2]], [Res.row 44 4 (.slice ro m.rc.length rc) (m.rc.length) (rcNew now m.rc)], [Res.row 9 1 (.slice q2 m.body.length d2) (m.body.length) (m.body.map Value.string)], [Res.cells (w.heap.size + 1 + 1) [.int .i64 0, .slice none 0 0]], [Res.cells (w.heap.size + 1) [.string m.fu, .string m.fd, .slice a1 m.rc.length c1, .slice a2 m.body.length c2]]]) := ⟨S7.out.bring 0 rfl⟩
              have OW7 : Seal _ := ⟨Pt.row1 SH7.out 0 rfl⟩
              have SR7 : Seal _ := ⟨((HS.out.later S7.out.below).get List.mem_cons_self)⟩
              refine step_append_first rfl _ _ 23 rfl 0 42 iItem (.agg #[.int .i64 0, .string ByteArray.empty, .string ByteArray.empty, .slice none 0 0, .slice none 0 0]) 5 88 Tryd.underlying23 hiItem hz0Item hz1Item hz2Item rfl (by decide) (.slice (some ⟨w5.heap.size, 0, none⟩) 0 0) (by rfl) OW7.out (ao) (s.items.length) (cap) (itemE.all s.items ps) (by rfl) SR7.out (by first | exact items_all_one _ _ | (intro u hu; simp only [List.mem_cons, List.not_mem_nil, or_false] at hu; rcases hu with rfl | rfl | rfl | rfl | rfl <;> rfl)) (by unfold maxLen; omega) (by omega) (Nat.zero_le _) ?_
              intro v21 u22 hown hg hat
              have S8 : Seal (Pt w u22 [[Res.row 42 5 (v21) (s.items.length) (itemE.all s.items ps)], [Res.cells (w.heap.size) [.int .i64 (s.last + 1), .slice ao s.items.length cap]], [Res.cells (k7) [.int .i64 (s.last + 1), .string m.fu, .string m.fd, .slice ro m.rc.length rc, .slice q2 m.body.length d2]], [Res.row 44 4 (.slice ro m.rc.length rc) (m.rc.length) (rcNew now m.rc)], [Res.row 9 1 (.slice q2 m.body.length d2) (m.body.length) (m.body.map Value.string)], [Res.cells (w.heap.size + 1 + 1) [.int .i64 0, .slice none 0 0]], [Res.cells (w.heap.size + 1) [.string m.fu, .string m.fd, .slice a1 m.rc.length c1, .slice a2 m.body.length c2]]]) := ⟨Pt.app SH7.out hown hg (by simpa using hat)⟩
              obtain ⟨bo23, c24, rfl, _⟩ := row_value (Pt.row1 S8.out 0 rfl)
              clear hown hg hat SH7 OW7 SR7
              refine hK.out _ _ ⟨(S8.out.cellsM 2 rfl).c 0 _ rfl, (S8.out.cellsM 2 rfl).c 1 _ rfl, (S8.out.cellsM 2 rfl).c 2 _ rfl, (S8.out.cellsM 2 rfl).c 3 _ rfl, (S8.out.cellsM 2 rfl).c 4 _ rfl⟩ (fun hHeld => ?_)
              clear hK K
              try simp only [Act.put, List.getElem_toArray, List.getElem_cons_succ, List.getElem_cons_zero, List.setIfInBounds_toArray, List.set_cons_zero, List.set_cons_succ]
              refine wpAnyH_ready (rs := [5]) (by kernel_rfl) (by simp) ?_
              refine AllReadyH.cons rfl (fun K hK => ?_) AllReadyH.nil
              have S9 : Seal (Pt w (u22.alloc (.cells #[.int .i64 (s.last + 1), .string m.fu, .string m.fd, .slice ro m.rc.length rc, .slice q2 m.body.length d2] 42)) [[Res.row 42 5 (.slice (some ⟨u22.heap.size, 0, none⟩) 1 1) (1) ([.int .i64 (s.last + 1), .string m.fu, .string m.fd, .slice ro m.rc.length rc, .slice q2 m.body.length d2])], [Res.row 42 5 (.slice bo23 (s.items.length) c24) (s.items.length) (itemE.all s.items ps)], [Res.cells (w.heap.size) [.int .i64 (s.last + 1), .slice ao s.items.length cap]], [Res.cells (k7) [.int .i64 (s.last + 1), .string m.fu, .string m.fd, .slice ro m.rc.length rc, .slice q2 m.body.length d2]], [Res.row 44 4 (.slice ro m.rc.length rc) (m.rc.length) (rcNew now m.rc)], [Res.row 9 1 (.slice q2 m.body.length d2) (m.body.length) (m.body.map Value.string)], [Res.cells (w.heap.size + 1 + 1) [.int .i64 0, .slice none 0 0]], [Res.cells (w.heap.size + 1) [.string m.fu, .string m.fd, .slice a1 m.rc.length c1, .slice a2 m.body.length c2]]]) := ⟨Pt.built S8.out #[.int .i64 (s.last + 1), .string m.fu, .string m.fd, .slice ro m.rc.length rc, .slice q2 m.body.length d2] 42 5 1 (by decide) rfl⟩
              go_simp
              refine hK.out _ _ ⟨(S9.out.cellsM 3 rfl).c 0 _ rfl, (S9.out.cellsM 3 rfl).c 1 _ rfl, (S9.out.cellsM 3 rfl).c 2 _ rfl, (S9.out.cellsM 3 rfl).c 3 _ rfl, (S9.out.cellsM 3 rfl).c 4 _ rfl⟩ (fun hHeld => ?_)
              clear hK K
              try simp only [Act.put, List.getElem_toArray, List.getElem_cons_succ, List.getElem_cons_zero, List.setIfInBounds_toArray, List.set_cons_zero, List.set_cons_succ]
              refine wpAnyH_ready (rs := [6]) (by kernel_rfl) (by simp) ?_
              refine AllReadyH.cons rfl (fun K hK => ?_) AllReadyH.nil
              have SH9 : Seal (Pt w (u22.alloc (.cells #[.int .i64 (s.last + 1), .string m.fu, .string m.fd, .slice ro m.rc.length rc, .slice q2 m.body.length d2] 42)) [[Res.row 42 5 (.slice bo23 (s.items.length) c24) (s.items.length) (itemE.all s.items ps)], [Res.row 42 5 (.slice (some ⟨u22.heap.size, 0, none⟩) 1 1) (1) ([.int .i64 (s.last + 1), .string m.fu, .string m.fd, .slice ro m.rc.length rc, .slice q2 m.body.length d2])], [Res.cells (w.heap.size) [.int .i64 (s.last + 1), .slice ao s.items.length cap]], [Res.cells (k7) [.int .i64 (s.last + 1), .string m.fu, .string m.fd, .slice ro m.rc.length rc, .slice q2 m.body.length d2]], [Res.row 44 4 (.slice ro m.rc.length rc) (m.rc.length) (rcNew now m.rc)], [Res.row 9 1 (.slice q2 m.body.length d2) (m.body.length) (m.body.map Value.string)], [Res.cells (w.heap.size + 1 + 1) [.int .i64 0, .slice none 0 0]], [Res.cells (w.heap.size + 1) [.string m.fu, .string m.fd, .slice a1 m.rc.length c1, .slice a2 m.body.length c2]]]) := ⟨S9.out.bring 1 rfl⟩
              have OW9 : Seal _ := ⟨Pt.row1 SH9.out 0 rfl⟩
              have SR9 : Seal _ := ⟨(Pt.row1 S9.out 0 rfl)⟩
              refine step_append_any rfl _ _ 23 rfl 0 42 iItem (.agg #[.int .i64 0, .string ByteArray.empty, .string ByteArray.empty, .slice none 0 0, .slice none 0 0]) 5 88 Tryd.underlying23 hiItem hz0Item hz1Item hz2Item rfl (by decide) (.slice bo23 (s.items.length) c24) (s.items.length) (itemE.all s.items ps) (by rfl) OW9.out ((some ⟨u22.heap.size, 0, none⟩)) (1) (1) ([.int .i64 (s.last + 1), .string m.fu, .string m.fd, .slice ro m.rc.length rc, .slice q2 m.body.length d2]) (by rfl) SR9.out (by first | exact items_all_one _ _ | (intro u hu; simp only [List.mem_cons, List.not_mem_nil, or_false] at hu; rcases hu with rfl | rfl | rfl | rfl | rfl <;> rfl)) (by unfold maxLen; omega) (by omega) (Nat.zero_le _) ?_
              intro v25 u26 hown hg hat
              have S10 : Seal (Pt w u26 [[Res.row 42 5 (v25) (s.items.length + 1) (itemE.all s.items ps ++ [.int .i64 (s.last + 1), .string m.fu, .string m.fd, .slice ro m.rc.length rc, .slice q2 m.body.length d2])], [Res.row 42 5 (.slice (some ⟨u22.heap.size, 0, none⟩) 1 1) (1) ([.int .i64 (s.last + 1), .string m.fu, .string m.fd, .slice ro m.rc.length rc, .slice q2 m.body.length d2])], [Res.cells (w.heap.size) [.int .i64 (s.last + 1), .slice ao s.items.length cap]], [Res.cells (k7) [.int .i64 (s.last + 1), .string m.fu, .string m.fd, .slice ro m.rc.length rc, .slice q2 m.body.length d2]], [Res.row 44 4 (.slice ro m.rc.length rc) (m.rc.length) (rcNew now m.rc)], [Res.row 9 1 (.slice q2 m.body.length d2) (m.body.length) (m.body.map Value.string)], [Res.cells (w.heap.size + 1 + 1) [.int .i64 0, .slice none 0 0]], [Res.cells (w.heap.size + 1) [.string m.fu, .string m.fd, .slice a1 m.rc.length c1, .slice a2 m.body.length c2]]]) := ⟨Pt.app SH9.out hown hg (by simpa using hat)⟩
              obtain ⟨bo27, c28, rfl, _⟩ := row_value (Pt.row1 S10.out 0 rfl)
              clear hown hg hat SH9 OW9 SR9
              refine hK.out _ _ ⟨(S10.out.cellsM 3 rfl).c 0 _ rfl, (S10.out.cellsM 3 rfl).c 1 _ rfl, (S10.out.cellsM 3 rfl).c 2 _ rfl, (S10.out.cellsM 3 rfl).c 3 _ rfl, (S10.out.cellsM 3 rfl).c 4 _ rfl⟩ (fun hHeld => ?_)
              clear hK K
              try simp only [Act.put, List.getElem_toArray, List.getElem_cons_succ, List.getElem_cons_zero, List.setIfInBounds_toArray, List.set_cons_zero, List.set_cons_succ]
              refine tkH 7 (by assumption) (h := ?_)
              refine wpAnyH_ready (rs := [8]) (by kernel_rfl) (by simp) ?_
              refine AllReadyH.cons rfl (fun K hK => ?_) AllReadyH.nil
              have S11 : Seal (Pt w u26 [[Res.cells (w.heap.size) [.int .i64 (s.last + 1), .slice ao s.items.length cap]], [Res.row 42 5 (.slice bo27 (s.items.length + 1) c28) (s.items.length + 1) (itemE.all s.items ps ++ [.int .i64 (s.last + 1), .string m.fu, .string m.fd, .slice ro m.rc.length rc, .slice q2 m.body.length d2])], [Res.row 42 5 (.slice (some ⟨u22.heap.size, 0, none⟩) 1 1) (1) ([.int .i64 (s.last + 1), .string m.fu, .string m.fd, .slice ro m.rc.length rc, .slice q2 m.body.length d2])], [Res.cells (k7) [.int .i64 (s.last + 1), .string m.fu, .string m.fd, .slice ro m.rc.length rc, .slice q2 m.body.length d2]], [Res.row 44 4 (.slice ro m.rc.length rc) (m.rc.length) (rcNew now m.rc)], [Res.row 9 1 (.slice q2 m.body.length d2) (m.body.length) (m.body.map Value.string)], [Res.cells (w.heap.size + 1 + 1) [.int .i64 0, .slice none 0 0]], [Res.cells (w.heap.size + 1) [.string m.fu, .string m.fd, .slice a1 m.rc.length c1, .slice a2 m.body.length c2]]]) := ⟨S10.out.bring 2 rfl⟩
              have oc0 := (S11.out.cellsM 0 rfl).c 1 _ rfl
              have of0 := (S11.out.cellsM 0 rfl).f 1 (by simp)
              have S12 : Seal (Pt w (u26.setCell ⟨w.heap.size, 1, none⟩ (.slice bo27 (s.items.length + 1) c28)) [[Res.cells (w.heap.size) [.int .i64 (s.last + 1), .slice bo27 (s.items.length + 1) c28]], [Res.row 42 5 (.slice bo27 (s.items.length + 1) c28) (s.items.length + 1) (itemE.all s.items ps ++ [.int .i64 (s.last + 1), .string m.fu, .string m.fd, .slice ro m.rc.length rc, .slice q2 m.body.length d2])], [Res.row 42 5 (.slice (some ⟨u22.heap.size, 0, none⟩) 1 1) (1) ([.int .i64 (s.last + 1), .string m.fu, .string m.fd, .slice ro m.rc.length rc, .slice q2 m.body.length d2])], [Res.cells (k7) [.int .i64 (s.last + 1), .string m.fu, .string m.fd, .slice ro m.rc.length rc, .slice q2 m.body.length d2]], [Res.row 44 4 (.slice ro m.rc.length rc) (m.rc.length) (rcNew now m.rc)], [Res.row 9 1 (.slice q2 m.body.length d2) (m.body.length) (m.body.map Value.string)], [Res.cells (w.heap.size + 1 + 1) [.int .i64 0, .slice none 0 0]], [Res.cells (w.heap.size + 1) [.string m.fu, .string m.fd, .slice a1 m.rc.length c1, .slice a2 m.body.length c2]]]) := ⟨(S11.out).set 1 (.slice bo27 (s.items.length + 1) c28) (by simp)⟩
              go_simp
              refine hK.out _ _ ⟨(S12.out.cellsM 3 rfl).c 0 _ rfl, (S12.out.cellsM 3 rfl).c 1 _ rfl, (S12.out.cellsM 3 rfl).c 2 _ rfl, (S12.out.cellsM 3 rfl).c 3 _ rfl, (S12.out.cellsM 3 rfl).c 4 _ rfl⟩ (fun hHeld => ?_)
              clear hK K
              try simp only [Act.put, List.getElem_toArray, List.getElem_cons_succ, List.getElem_cons_zero, List.setIfInBounds_toArray, List.set_cons_zero, List.set_cons_succ]
              clear oc0 of0
              refine wpAnyH_done (by kernel_rfl) ?_ _
              go_wp2_with fail
              go_meet
              exact ⟨bo27, c28, (Pt.prefix (As := [[Res.cells (w.heap.size) [.int .i64 (s.last + 1), .slice bo27 (s.items.length + 1) c28]], [Res.row 42 5 (.slice bo27 (s.items.length + 1) c28) (s.items.length + 1) (itemE.all s.items ps ++ [.int .i64 (s.last + 1), .string m.fu, .string m.fd, .slice ro m.rc.length rc, .slice q2 m.body.length d2])], [Res.cells (k7) [.int .i64 (s.last + 1), .string m.fu, .string m.fd, .slice ro m.rc.length rc, .slice q2 m.body.length d2]], [Res.row 44 4 (.slice ro m.rc.length rc) (m.rc.length) (rcNew now m.rc)], [Res.row 9 1 (.slice q2 m.body.length d2) (m.body.length) (m.body.map Value.string)], [Res.cells (w.heap.size + 1) [.string m.fu, .string m.fd, .slice a1 m.rc.length c1, .slice a2 m.body.length c2]], [Res.cells (w.heap.size + 1 + 1) [.int .i64 0, .slice none 0 0]]]) (Bs := [[Res.row 42 5 (.slice (some ⟨u22.heap.size, 0, none⟩) 1 1) (1) ([.int .i64 (s.last + 1), .string m.fu, .string m.fd, .slice ro m.rc.length rc, .slice q2 m.body.length d2])]]) (Pt.bring ((Pt.bring ((Pt.bring ((Pt.bring ((Pt.bring ((Pt.bring ((Pt.bring (S12.out) 6 rfl)) 7 rfl)) 7 rfl)) 7 rfl)) 7 rfl)) 6 rfl)) 6 rfl))⟩
            · have S8 : Seal (Pt w ((w5.alloc (.cells #[] 42)).alloc (.cells #[.int .i64 (s.last + 1), .string m.fu, .string m.fd, .slice ro m.rc.length rc, .slice q2 m.body.length d2] 42)).drew [[Res.row 42 5 (.slice (some ⟨w5.heap.size + 1, 0, none⟩) 1 1) (1) ([.int .i64 (s.last + 1), .string m.fu, .string m.fd, .slice ro m.rc.length rc, .slice q2 m.body.length d2])], [Res.row 42 5 (.slice (some ⟨w5.heap.size, 0, none⟩) 0 0) (0) ([])], [Res.cells (w.heap.size) [.int .i64 (s.last + 1), .slice ao s.items.length cap]], [Res.cells (k7) [.int .i64 (s.last + 1), .string m.fu, .string m.fd, .slice ro m.rc.length rc, .slice q2 m.body.length d2]], [Res.row 44 4 (.slice ro m.rc.length rc) (m.rc.length) (rcNew now m.rc)], [Res.row 9 1 (.slice q2 m.body.length d2) (m.body.length) (m.body.map Value.string)], [Res.cells (w.heap.size + 1 + 1) [.int .i64 0, .slice none 0 0]], [Res.cells (w.heap.size + 1) [.string m.fu, .string m.fd, .slice a1 m.rc.length c1, .slice a2 m.body.length c2]]]) := ⟨by have h := Pt.built S7.out #[.int .i64 (s.last + 1), .string m.fu, .string m.fd, .slice ro m.rc.length rc, .slice q2 m.body.length d2] 42 5 1 (by decide) rfl; simp only [World.size_alloc, World.size_drew'] at h; exact h⟩
              go_simp
              refine hK.out _ _ ⟨(S8.out.cellsM 3 rfl).c 0 _ rfl, (S8.out.cellsM 3 rfl).c 1 _ rfl, (S8.out.cellsM 3 rfl).c 2 _ rfl, (S8.out.cellsM 3 rfl).c 3 _ rfl, (S8.out.cellsM 3 rfl).c 4 _ rfl⟩ (fun hHeld => ?_)
              clear hK K
              try simp only [Act.put, List.getElem_toArray, List.getElem_cons_succ, List.getElem_cons_zero, List.setIfInBounds_toArray, List.set_cons_zero, List.set_cons_succ]
              refine wpAnyH_ready (rs := [3]) (by kernel_rfl) (by simp) ?_
              refine AllReadyH.cons rfl (fun K hK => ?_) AllReadyH.nil
              have SH8 : Seal (Pt w ((w5.alloc (.cells #[] 42)).alloc (.cells #[.int .i64 (s.last + 1), .string m.fu, .string m.fd, .slice ro m.rc.length rc, .slice q2 m.body.length d2] 42)).drew [[Res.row 42 5 (.slice (some ⟨w5.heap.size, 0, none⟩) 0 0) (0) ([])], [Res.row 42 5 (.slice (some ⟨w5.heap.size + 1, 0, none⟩) 1 1) (1) ([.int .i64 (s.last + 1), .string m.fu, .string m.fd, .slice ro m.rc.length rc, .slice q2 m.body.length d2])], [Res.cells (w.heap.size) [.int .i64 (s.last + 1), .slice ao s.items.length cap]], [Res.cells (k7) [.int .i64 (s.last + 1), .string m.fu, .string m.fd, .slice ro m.rc.length rc, .slice q2 m.body.length d2]], [Res.row 44 4 (.slice ro m.rc.length rc) (m.rc.length) (rcNew now m.rc)], [Res.row 9 1 (.slice q2 m.body.length d2) (m.body.length) (m.body.map Value.string)], [Res.cells (w.heap.size + 1 + 1) [.int .i64 0, .slice none 0 0]], [Res.cells (w.heap.size + 1) [.string m.fu, .string m.fd, .slice a1 m.rc.length c1, .slice a2 m.body.length c2]]]) := ⟨S8.out.bring 1 rfl⟩
              have OW8 : Seal _ := ⟨Pt.row1 SH8.out 0 rfl⟩
              have SR8 : Seal _ := ⟨((HS.out.later S8.out.below).get List.mem_cons_self)⟩
              refine step_append_first rfl _ _ 23 rfl 0 42 iItem (.agg #[.int .i64 0, .string ByteArray.empty, .string ByteArray.empty, .slice none 0 0, .slice none 0 0]) 5 88 Tryd.underlying23 hiItem hz0Item hz1Item hz2Item rfl (by decide) (.slice (some ⟨w5.heap.size, 0, none⟩) 0 0) (by rfl) OW8.out (ao) (s.items.length) (cap) (itemE.all s.items ps) (by rfl) SR8.out (by first | exact items_all_one _ _ | (intro u hu; simp only [List.mem_cons, List.not_mem_nil, or_false] at hu; rcases hu with rfl | rfl | rfl | rfl | rfl <;> rfl)) (by unfold maxLen; omega) (by omega) (Nat.zero_le _) ?_
              intro v29 u30 hown hg hat
              have S9 : Seal (Pt w u30 [[Res.row 42 5 (v29) (s.items.length) (itemE.all s.items ps)], [Res.row 42 5 (.slice (some ⟨w5.heap.size + 1, 0, none⟩) 1 1) (1) ([.int .i64 (s.last + 1), .string m.fu, .string m.fd, .slice ro m.rc.length rc, .slice q2 m.body.length d2])], [Res.cells (w.heap.size) [.int .i64 (s.last + 1), .slice ao s.items.length cap]], [Res.cells (k7) [.int .i64 (s.last + 1), .string m.fu, .string m.fd, .slice ro m.rc.length rc, .slice q2 m.body.length d2]], [Res.row 44 4 (.slice ro m.rc.length rc) (m.rc.length) (rcNew now m.rc)], [Res.row 9 1 (.slice q2 m.body.length d2) (m.body.length) (m.body.map Value.string)], [Res.cells (w.heap.size + 1 + 1) [.int .i64 0, .slice none 0 0]], [Res.cells (w.heap.size + 1) [.string m.fu, .string m.fd, .slice a1 m.rc.length c1, .slice a2 m.body.length c2]]]) := ⟨Pt.app SH8.out hown hg (by simpa using hat)⟩
              obtain ⟨bo31, c32, rfl, _⟩ := row_value (Pt.row1 S9.out 0 rfl)
              clear hown hg hat SH8 OW8 SR8
              refine hK.out _ _ ⟨(S9.out.cellsM 3 rfl).c 0 _ rfl, (S9.out.cellsM 3 rfl).c 1 _ rfl, (S9.out.cellsM 3 rfl).c 2 _ rfl, (S9.out.cellsM 3 rfl).c 3 _ rfl, (S9.out.cellsM 3 rfl).c 4 _ rfl⟩ (fun hHeld => ?_)
              clear hK K
              try simp only [Act.put, List.getElem_toArray, List.getElem_cons_succ, List.getElem_cons_zero, List.setIfInBounds_toArray, List.set_cons_zero, List.set_cons_succ]
              refine wpAnyH_ready (rs := [6]) (by kernel_rfl) (by simp) ?_
              refine AllReadyH.cons rfl (fun K hK => ?_) AllReadyH.nil
              have SH9 : Seal (Pt w u30 [[Res.row 42 5 (.slice bo31 (s.items.length) c32) (s.items.length) (itemE.all s.items ps)], [Res.row 42 5 (.slice (some ⟨w5.heap.size + 1, 0, none⟩) 1 1) (1) ([.int .i64 (s.last + 1), .string m.fu, .string m.fd, .slice ro m.rc.length rc, .slice q2 m.body.length d2])], [Res.cells (w.heap.size) [.int .i64 (s.last + 1), .slice ao s.items.length cap]], [Res.cells (k7) [.int .i64 (s.last + 1), .string m.fu, .string m.fd, .slice ro m.rc.length rc, .slice q2 m.body.length d2]], [Res.row 44 4 (.slice ro m.rc.length rc) (m.rc.length) (rcNew now m.rc)], [Res.row 9 1 (.slice q2 m.body.length d2) (m.body.length) (m.body.map Value.string)], [Res.cells (w.heap.size + 1 + 1) [.int .i64 0, .slice none 0 0]], [Res.cells (w.heap.size + 1) [.string m.fu, .string m.fd, .slice a1 m.rc.length c1, .slice a2 m.body.length c2]]]) := ⟨S9.out.bring 0 rfl⟩
              have OW9 : Seal _ := ⟨Pt.row1 SH9.out 0 rfl⟩
              have SR9 : Seal _ := ⟨(Pt.row1 S9.out 1 rfl)⟩
              refine step_append_any rfl _ _ 23 rfl 0 42 iItem (.agg #[.int .i64 0, .string ByteArray.empty, .string ByteArray.empty, .slice none 0 0, .slice none 0 0]) 5 88 Tryd.underlying23 hiItem hz0Item hz1Item hz2Item rfl (by decide) (.slice bo31 (s.items.length) c32) (s.items.length) (itemE.all s.items ps) (by rfl) OW9.out ((some ⟨w5.heap.size + 1, 0, none⟩)) (1) (1) ([.int .i64 (s.last + 1), .string m.fu, .string m.fd, .slice ro m.rc.length rc, .slice q2 m.body.length d2]) (by rfl) SR9.out (by first | exact items_all_one _ _ | (intro u hu; simp only [List.mem_cons, List.not_mem_nil, or_false] at hu; rcases hu with rfl | rfl | rfl | rfl | rfl <;> rfl)) (by unfold maxLen; omega) (by omega) (Nat.zero_le _) ?_
              intro v33 u34 hown hg hat
              have S10 : Seal (Pt w u34 [[Res.row 42 5 (v33) (s.items.length + 1) (itemE.all s.items ps ++ [.int .i64 (s.last + 1), .string m.fu, .string m.fd, .slice ro m.rc.length rc, .slice q2 m.body.length d2])], [Res.row 42 5 (.slice (some ⟨w5.heap.size + 1, 0, none⟩) 1 1) (1) ([.int .i64 (s.last + 1), .string m.fu, .string m.fd, .slice ro m.rc.length rc, .slice q2 m.body.length d2])], [Res.cells (w.heap.size) [.int .i64 (s.last + 1), .slice ao s.items.length cap]], [Res.cells (k7) [.int .i64 (s.last + 1), .string m.fu, .string m.fd, .slice ro m.rc.length rc, .slice q2 m.body.length d2]], [Res.row 44 4 (.slice ro m.rc.length rc) (m.rc.length) (rcNew now m.rc)], [Res.row 9 1 (.slice q2 m.body.length d2) (m.body.length) (m.body.map Value.string)], [Res.cells (w.heap.size + 1 + 1) [.int .i64 0, .slice none 0 0]], [Res.cells (w.heap.size + 1) [.string m.fu, .string m.fd, .slice a1 m.rc.length c1, .slice a2 m.body.length c2]]]) := ⟨Pt.app SH9.out hown hg (by simpa using hat)⟩
              obtain ⟨bo35, c36, rfl, _⟩ := row_value (Pt.row1 S10.out 0 rfl)
              clear hown hg hat SH9 OW9 SR9
              refine hK.out _ _ ⟨(S10.out.cellsM 3 rfl).c 0 _ rfl, (S10.out.cellsM 3 rfl).c 1 _ rfl, (S10.out.cellsM 3 rfl).c 2 _ rfl, (S10.out.cellsM 3 rfl).c 3 _ rfl, (S10.out.cellsM 3 rfl).c 4 _ rfl⟩ (fun hHeld => ?_)
              clear hK K
              try simp only [Act.put, List.getElem_toArray, List.getElem_cons_succ, List.getElem_cons_zero, List.setIfInBounds_toArray, List.set_cons_zero, List.set_cons_succ]
              refine tkH 7 (by assumption) (h := ?_)
              refine wpAnyH_ready (rs := [8]) (by kernel_rfl) (by simp) ?_
              refine AllReadyH.cons rfl (fun K hK => ?_) AllReadyH.nil
              have S11 : Seal (Pt w u34 [[Res.cells (w.heap.size) [.int .i64 (s.last + 1), .slice ao s.items.length cap]], [Res.row 42 5 (.slice bo35 (s.items.length + 1) c36) (s.items.length + 1) (itemE.all s.items ps ++ [.int .i64 (s.last + 1), .string m.fu, .string m.fd, .slice ro m.rc.length rc, .slice q2 m.body.length d2])], [Res.row 42 5 (.slice (some ⟨w5.heap.size + 1, 0, none⟩) 1 1) (1) ([.int .i64 (s.last + 1), .string m.fu, .string m.fd, .slice ro m.rc.length rc, .slice q2 m.body.length d2])], [Res.cells (k7) [.int .i64 (s.last + 1), .string m.fu, .string m.fd, .slice ro m.rc.length rc, .slice q2 m.body.length d2]], [Res.row 44 4 (.slice ro m.rc.length rc) (m.rc.length) (rcNew now m.rc)], [Res.row 9 1 (.slice q2 m.body.length d2) (m.body.length) (m.body.map Value.string)], [Res.cells (w.heap.size + 1 + 1) [.int .i64 0, .slice none 0 0]], [Res.cells (w.heap.size + 1) [.string m.fu, .string m.fd, .slice a1 m.rc.length c1, .slice a2 m.body.length c2]]]) := ⟨S10.out.bring 2 rfl⟩
              have oc0 := (S11.out.cellsM 0 rfl).c 1 _ rfl
              have of0 := (S11.out.cellsM 0 rfl).f 1 (by simp)
              have S12 : Seal (Pt w (u34.setCell ⟨w.heap.size, 1, none⟩ (.slice bo35 (s.items.length + 1) c36)) [[Res.cells (w.heap.size) [.int .i64 (s.last + 1), .slice bo35 (s.items.length + 1) c36]], [Res.row 42 5 (.slice bo35 (s.items.length + 1) c36) (s.items.length + 1) (itemE.all s.items ps ++ [.int .i64 (s.last + 1), .string m.fu, .string m.fd, .slice ro m.rc.length rc, .slice q2 m.body.length d2])], [Res.row 42 5 (.slice (some ⟨w5.heap.size + 1, 0, none⟩) 1 1) (1) ([.int .i64 (s.last + 1), .string m.fu, .string m.fd, .slice ro m.rc.length rc, .slice q2 m.body.length d2])], [Res.cells (k7) [.int .i64 (s.last + 1), .string m.fu, .string m.fd, .slice ro m.rc.length rc, .slice q2 m.body.length d2]], [Res.row 44 4 (.slice ro m.rc.length rc) (m.rc.length) (rcNew now m.rc)], [Res.row 9 1 (.slice q2 m.body.length d2) (m.body.length) (m.body.map Value.string)], [Res.cells (w.heap.size + 1 + 1) [.int .i64 0, .slice none 0 0]], [Res.cells (w.heap.size + 1) [.string m.fu, .string m.fd, .slice a1 m.rc.length c1, .slice a2 m.body.length c2]]]) := ⟨(S11.out).set 1 (.slice bo35 (s.items.length + 1) c36) (by simp)⟩
              go_simp
              refine hK.out _ _ ⟨(S12.out.cellsM 3 rfl).c 0 _ rfl, (S12.out.cellsM 3 rfl).c 1 _ rfl, (S12.out.cellsM 3 rfl).c 2 _ rfl, (S12.out.cellsM 3 rfl).c 3 _ rfl, (S12.out.cellsM 3 rfl).c 4 _ rfl⟩ (fun hHeld => ?_)
              clear hK K
              try simp only [Act.put, List.getElem_toArray, List.getElem_cons_succ, List.getElem_cons_zero, List.setIfInBounds_toArray, List.set_cons_zero, List.set_cons_succ]
              clear oc0 of0
              refine wpAnyH_done (by kernel_rfl) ?_ _
              go_wp2_with fail
              go_meet
              exact ⟨bo35, c36, (Pt.prefix (As := [[Res.cells (w.heap.size) [.int .i64 (s.last + 1), .slice bo35 (s.items.length + 1) c36]], [Res.row 42 5 (.slice bo35 (s.items.length + 1) c36) (s.items.length + 1) (itemE.all s.items ps ++ [.int .i64 (s.last + 1), .string m.fu, .string m.fd, .slice ro m.rc.length rc, .slice q2 m.body.length d2])], [Res.cells (k7) [.int .i64 (s.last + 1), .string m.fu, .string m.fd, .slice ro m.rc.length rc, .slice q2 m.body.length d2]], [Res.row 44 4 (.slice ro m.rc.length rc) (m.rc.length) (rcNew now m.rc)], [Res.row 9 1 (.slice q2 m.body.length d2) (m.body.length) (m.body.map Value.string)], [Res.cells (w.heap.size + 1) [.string m.fu, .string m.fd, .slice a1 m.rc.length c1, .slice a2 m.body.length c2]], [Res.cells (w.heap.size + 1 + 1) [.int .i64 0, .slice none 0 0]]]) (Bs := [[Res.row 42 5 (.slice (some ⟨w5.heap.size + 1, 0, none⟩) 1 1) (1) ([.int .i64 (s.last + 1), .string m.fu, .string m.fd, .slice ro m.rc.length rc, .slice q2 m.body.length d2])]]) (Pt.bring ((Pt.bring ((Pt.bring ((Pt.bring ((Pt.bring ((Pt.bring ((Pt.bring (S12.out) 6 rfl)) 7 rfl)) 7 rfl)) 7 rfl)) 7 rfl)) 6 rfl)) 6 rfl))⟩
          · have S8 : Seal (Pt w ((w5.alloc (.cells #[] 42)).alloc (.cells #[.int .i64 (s.last + 1), .string m.fu, .string m.fd, .slice ro m.rc.length rc, .slice q2 m.body.length d2] 42)).drew [[Res.row 42 5 (.slice (some ⟨w5.heap.size + 1, 0, none⟩) 1 1) (1) ([.int .i64 (s.last + 1), .string m.fu, .string m.fd, .slice ro m.rc.length rc, .slice q2 m.body.length d2])], [Res.row 42 5 (.slice (some ⟨w5.heap.size, 0, none⟩) 0 0) (0) ([])], [Res.cells (w.heap.size) [.int .i64 (s.last + 1), .slice ao s.items.length cap]], [Res.cells (k7) [.int .i64 (s.last + 1), .string m.fu, .string m.fd, .slice ro m.rc.length rc, .slice q2 m.body.length d2]], [Res.row 44 4 (.slice ro m.rc.length rc) (m.rc.length) (rcNew now m.rc)], [Res.row 9 1 (.slice q2 m.body.length d2) (m.body.length) (m.body.map Value.string)], [Res.cells (w.heap.size + 1 + 1) [.int .i64 0, .slice none 0 0]], [Res.cells (w.heap.size + 1) [.string m.fu, .string m.fd, .slice a1 m.rc.length c1, .slice a2 m.body.length c2]]]) := ⟨by have h := Pt.built S7.out #[.int .i64 (s.last + 1), .string m.fu, .string m.fd, .slice ro m.rc.length rc, .slice q2 m.body.length d2] 42 5 1 (by decide) rfl; simp only [World.size_alloc, World.size_drew'] at h; exact h⟩
            go_simp
            refine hK.out _ _ ⟨(S8.out.cellsM 3 rfl).c 0 _ rfl, (S8.out.cellsM 3 rfl).c 1 _ rfl, (S8.out.cellsM 3 rfl).c 2 _ rfl, (S8.out.cellsM 3 rfl).c 3 _ rfl, (S8.out.cellsM 3 rfl).c 4 _ rfl⟩ (fun hHeld => ?_)
            clear hK K
            try simp only [Act.put, List.getElem_toArray, List.getElem_cons_succ, List.getElem_cons_zero, List.setIfInBounds_toArray, List.set_cons_zero, List.set_cons_succ]
            refine wpAnyH_ready (rs := [2]) (by kernel_rfl) (by simp) ?_
            refine AllReadyH.cons rfl (fun K hK => ?_) AllReadyH.nil
            have ol0 := (S8.out.cellsM 2 rfl).c 1 _ rfl
            go_simp
            refine hK.out _ _ ⟨(S8.out.cellsM 3 rfl).c 0 _ rfl, (S8.out.cellsM 3 rfl).c 1 _ rfl, (S8.out.cellsM 3 rfl).c 2 _ rfl, (S8.out.cellsM 3 rfl).c 3 _ rfl, (S8.out.cellsM 3 rfl).c 4 _ rfl⟩ (fun hHeld => ?_)
            clear hK K
            try simp only [Act.put, List.getElem_toArray, List.getElem_cons_succ, List.getElem_cons_zero, List.setIfInBounds_toArray, List.set_cons_zero, List.set_cons_succ]
            clear ol0
            refine wpAnyH_ready (rs := [3]) (by kernel_rfl) (by simp) ?_
            refine AllReadyH.cons rfl (fun K hK => ?_) AllReadyH.nil
            have SH8 : Seal (Pt w ((w5.alloc (.cells #[] 42)).alloc (.cells #[.int .i64 (s.last + 1), .string m.fu, .string m.fd, .slice ro m.rc.length rc, .slice q2 m.body.length d2] 42)).drew [[Res.row 42 5 (.slice (some ⟨w5.heap.size, 0, none⟩) 0 0) (0) ([])], [Res.row 42 5 (.slice (some ⟨w5.heap.size + 1, 0, none⟩) 1 1) (1) ([.int .i64 (s.last + 1), .string m.fu, .string m.fd, .slice ro m.rc.length rc, .slice q2 m.body.length d2])], [Res.cells (w.heap.size) [.int .i64 (s.last + 1), .slice ao s.items.length cap]], [Res.cells (k7) [.int .i64 (s.last + 1), .string m.fu, .string m.fd, .slice ro m.rc.length rc, .slice q2 m.body.length d2]], [Res.row 44 4 (.slice ro m.rc.length rc) (m.rc.length) (rcNew now m.rc)], [Res.row 9 1 (.slice q2 m.body.length d2) (m.body.length) (m.body.map Value.string)], [Res.cells (w.heap.size + 1 + 1) [.int .i64 0, .slice none 0 0]], [Res.cells (w.heap.size + 1) [.string m.fu, .string m.fd, .slice a1 m.rc.length c1, .slice a2 m.body.length c2]]]) := ⟨S8.out.bring 1 rfl⟩
            have OW8 : Seal _ := ⟨Pt.row1 SH8.out 0 rfl⟩
            have SR8 : Seal _ := ⟨((HS.out.later S8.out.below).get List.mem_cons_self)⟩
            refine step_append_first rfl _ _ 23 rfl 0 42 iItem (.agg #[.int .i64 0, .string ByteArray.empty, .string ByteArray.empty, .slice none 0 0, .slice none 0 0]) 5 88 Tryd.underlying23 hiItem hz0Item hz1Item hz2Item rfl (by decide) (.slice (some ⟨w5.heap.size, 0, none⟩) 0 0) (by rfl) OW8.out (ao) (s.items.length) (cap) (itemE.all s.items ps) (by rfl) SR8.out (by first | exact items_all_one _ _ | (intro u hu; simp only [List.mem_cons, List.not_mem_nil, or_false] at hu; rcases hu with rfl | rfl | rfl | rfl | rfl <;> rfl)) (by unfold maxLen; omega) (by omega) (Nat.zero_le _) ?_
            intro v37 u38 hown hg hat
            have S9 : Seal (Pt w u38 [[Res.row 42 5 (v37) (s.items.length) (itemE.all s.items ps)], [Res.row 42 5 (.slice (some ⟨w5.heap.size + 1, 0, none⟩) 1 1) (1) ([.int .i64 (s.last + 1), .string m.fu, .string m.fd, .slice ro m.rc.length rc, .slice q2 m.body.length d2])], [Res.cells (w.heap.size) [.int .i64 (s.last + 1), .slice ao s.items.length cap]], [Res.cells (k7) [.int .i64 (s.last + 1), .string m.fu, .string m.fd, .slice ro m.rc.length rc, .slice q2 m.body.length d2]], [Res.row 44 4 (.slice ro m.rc.length rc) (m.rc.length) (rcNew now m.rc)], [Res.row 9 1 (.slice q2 m.body.length d2) (m.body.length) (m.body.map Value.string)], [Res.cells (w.heap.size + 1 + 1) [.int .i64 0, .slice none 0 0]], [Res.cells (w.heap.size + 1) [.string m.fu, .string m.fd, .slice a1 m.rc.length c1, .slice a2 m.body.length c2]]]) := ⟨Pt.app SH8.out hown hg (by simpa using hat)⟩
            obtain ⟨bo39, c40, rfl, _⟩ := row_value (Pt.row1 S9.out 0 rfl)
            clear hown hg hat SH8 OW8 SR8
            refine hK.out _ _ ⟨(S9.out.cellsM 3 rfl).c 0 _ rfl, (S9.out.cellsM 3 rfl).c 1 _ rfl, (S9.out.cellsM 3 rfl).c 2 _ rfl, (S9.out.cellsM 3 rfl).c 3 _ rfl, (S9.out.cellsM 3 rfl).c 4 _ rfl⟩ (fun hHeld => ?_)
            clear hK K
            try simp only [Act.put, List.getElem_toArray, List.getElem_cons_succ, List.getElem_cons_zero, List.setIfInBounds_toArray, List.set_cons_zero, List.set_cons_succ]
            refine wpAnyH_ready (rs := [6]) (by kernel_rfl) (by simp) ?_
            refine AllReadyH.cons rfl (fun K hK => ?_) AllReadyH.nil
            have SH9 : Seal (Pt w u38 [[Res.row 42 5 (.slice bo39 (s.items.length) c40) (s.items.length) (itemE.all s.items ps)], [Res.row 42 5 (.slice (some ⟨w5.heap.size + 1, 0, none⟩) 1 1) (1) ([.int .i64 (s.last + 1), .string m.fu, .string m.fd, .slice ro m.rc.length rc, .slice q2 m.body.length d2])], [Res.cells (w.heap.size) [.int .i64 (s.last + 1), .slice ao s.items.length cap]], [Res.cells (k7) [.int .i64 (s.last + 1), .string m.fu, .string m.fd, .slice ro m.rc.length rc, .slice q2 m.body.length d2]], [Res.row 44 4 (.slice ro m.rc.length rc) (m.rc.length) (rcNew now m.rc)], [Res.row 9 1 (.slice q2 m.body.length d2) (m.body.length) (m.body.map Value.string)], [Res.cells (w.heap.size + 1 + 1) [.int .i64 0, .slice none 0 0]], [Res.cells (w.heap.size + 1) [.string m.fu, .string m.fd, .slice a1 m.rc.length c1, .slice a2 m.body.length c2]]]) := ⟨S9.out.bring 0 rfl⟩
            have OW9 : Seal _ := ⟨Pt.row1 SH9.out 0 rfl⟩
            have SR9 : Seal _ := ⟨(Pt.row1 S9.out 1 rfl)⟩
            refine step_append_any rfl _ _ 23 rfl 0 42 iItem (.agg #[.int .i64 0, .string ByteArray.empty, .string ByteArray.empty, .slice none 0 0, .slice none 0 0]) 5 88 Tryd.underlying23 hiItem hz0Item hz1Item hz2Item rfl (by decide) (.slice bo39 (s.items.length) c40) (s.items.length) (itemE.all s.items ps) (by rfl) OW9.out ((some ⟨w5.heap.size + 1, 0, none⟩)) (1) (1) ([.int .i64 (s.last + 1), .string m.fu, .string m.fd, .slice ro m.rc.length rc, .slice q2 m.body.length d2]) (by rfl) SR9.out (by first | exact items_all_one _ _ | (intro u hu; simp only [List.mem_cons, List.not_mem_nil, or_false] at hu; rcases hu with rfl | rfl | rfl | rfl | rfl <;> rfl)) (by unfold maxLen; omega) (by omega) (Nat.zero_le _) ?_
            intro v41 u42 hown hg hat
            have S10 : Seal (Pt w u42 [[Res.row 42 5 (v41) (s.items.length + 1) (itemE.all s.items ps ++ [.int .i64 (s.last + 1), .string m.fu, .string m.fd, .slice ro m.rc.length rc, .slice q2 m.body.length d2])], [Res.row 42 5 (.slice (some ⟨w5.heap.size + 1, 0, none⟩) 1 1) (1) ([.int .i64 (s.last + 1), .string m.fu, .string m.fd, .slice ro m.rc.length rc, .slice q2 m.body.length d2])], [Res.cells (w.heap.size) [.int .i64 (s.last + 1), .slice ao s.items.length cap]], [Res.cells (k7) [.int .i64 (s.last + 1), .string m.fu, .string m.fd, .slice ro m.rc.length rc, .slice q2 m.body.length d2]], [Res.row 44 4 (.slice ro m.rc.length rc) (m.rc.length) (rcNew now m.rc)], [Res.row 9 1 (.slice q2 m.body.length d2) (m.body.length) (m.body.map Value.string)], [Res.cells (w.heap.size + 1 + 1) [.int .i64 0, .slice none 0 0]], [Res.cells (w.heap.size + 1) [.string m.fu, .string m.fd, .slice a1 m.rc.length c1, .slice a2 m.body.length c2]]]) := ⟨Pt.app SH9.out hown hg (by simpa using hat)⟩
            obtain ⟨bo43, c44, rfl, _⟩ := row_value (Pt.row1 S10.out 0 rfl)
            clear hown hg hat SH9 OW9 SR9
            refine hK.out _ _ ⟨(S10.out.cellsM 3 rfl).c 0 _ rfl, (S10.out.cellsM 3 rfl).c 1 _ rfl, (S10.out.cellsM 3 rfl).c 2 _ rfl, (S10.out.cellsM 3 rfl).c 3 _ rfl, (S10.out.cellsM 3 rfl).c 4 _ rfl⟩ (fun hHeld => ?_)
            clear hK K
            try simp only [Act.put, List.getElem_toArray, List.getElem_cons_succ, List.getElem_cons_zero, List.setIfInBounds_toArray, List.set_cons_zero, List.set_cons_succ]
            refine tkH 7 (by assumption) (h := ?_)
            refine wpAnyH_ready (rs := [8]) (by kernel_rfl) (by simp) ?_
            refine AllReadyH.cons rfl (fun K hK => ?_) AllReadyH.nil
            have S11 : Seal (Pt w u42 [[Res.cells (w.heap.size) [.int .i64 (s.last + 1), .slice ao s.items.length cap]], [Res.row 42 5 (.slice bo43 (s.items.length + 1) c44) (s.items.length + 1) (itemE.all s.items ps ++ [.int .i64 (s.last + 1), .string m.fu, .string m.fd, .slice ro m.rc.length rc, .slice q2 m.body.length d2])], [Res.row 42 5 (.slice (some ⟨w5.heap.size + 1, 0, none⟩) 1 1) (1) ([.int .i64 (s.last + 1), .string m.fu, .string m.fd, .slice ro m.rc.length rc, .slice q2 m.body.length d2])], [Res.cells (k7) [.int .i64 (s.last + 1), .string m.fu, .string m.fd, .slice ro m.rc.length rc, .slice q2 m.body.length d2]], [Res.row 44 4 (.slice ro m.rc.length rc) (m.rc.length) (rcNew now m.rc)], [Res.row 9 1 (.slice q2 m.body.length d2) (m.body.length) (m.body.map Value.string)], [Res.cells (w.heap.size + 1 + 1) [.int .i64 0, .slice none 0 0]], [Res.cells (w.heap.size + 1) [.string m.fu, .string m.fd, .slice a1 m.rc.length c1, .slice a2 m.body.length c2]]]) := ⟨S10.out.bring 2 rfl⟩
            have oc0 := (S11.out.cellsM 0 rfl).c 1 _ rfl
            have of0 := (S11.out.cellsM 0 rfl).f 1 (by simp)
            have S12 : Seal (Pt w (u42.setCell ⟨w.heap.size, 1, none⟩ (.slice bo43 (s.items.length + 1) c44)) [[Res.cells (w.heap.size) [.int .i64 (s.last + 1), .slice bo43 (s.items.length + 1) c44]], [Res.row 42 5 (.slice bo43 (s.items.length + 1) c44) (s.items.length + 1) (itemE.all s.items ps ++ [.int .i64 (s.last + 1), .string m.fu, .string m.fd, .slice ro m.rc.length rc, .slice q2 m.body.length d2])], [Res.row 42 5 (.slice (some ⟨w5.heap.size + 1, 0, none⟩) 1 1) (1) ([.int .i64 (s.last + 1), .string m.fu, .string m.fd, .slice ro m.rc.length rc, .slice q2 m.body.length d2])], [Res.cells (k7) [.int .i64 (s.last + 1), .string m.fu, .string m.fd, .slice ro m.rc.length rc, .slice q2 m.body.length d2]], [Res.row 44 4 (.slice ro m.rc.length rc) (m.rc.length) (rcNew now m.rc)], [Res.row 9 1 (.slice q2 m.body.length d2) (m.body.length) (m.body.map Value.string)], [Res.cells (w.heap.size + 1 + 1) [.int .i64 0, .slice none 0 0]], [Res.cells (w.heap.size + 1) [.string m.fu, .string m.fd, .slice a1 m.rc.length c1, .slice a2 m.body.length c2]]]) := ⟨(S11.out).set 1 (.slice bo43 (s.items.length + 1) c44) (by simp)⟩
            go_simp
            refine hK.out _ _ ⟨(S12.out.cellsM 3 rfl).c 0 _ rfl, (S12.out.cellsM 3 rfl).c 1 _ rfl, (S12.out.cellsM 3 rfl).c 2 _ rfl, (S12.out.cellsM 3 rfl).c 3 _ rfl, (S12.out.cellsM 3 rfl).c 4 _ rfl⟩ (fun hHeld => ?_)
            clear hK K
            try simp only [Act.put, List.getElem_toArray, List.getElem_cons_succ, List.getElem_cons_zero, List.setIfInBounds_toArray, List.set_cons_zero, List.set_cons_succ]
            clear oc0 of0
            refine wpAnyH_done (by kernel_rfl) ?_ _
            go_wp2_with fail
            go_meet
            exact ⟨bo43, c44, (Pt.prefix (As := [[Res.cells (w.heap.size) [.int .i64 (s.last + 1), .slice bo43 (s.items.length + 1) c44]], [Res.row 42 5 (.slice bo43 (s.items.length + 1) c44) (s.items.length + 1) (itemE.all s.items ps ++ [.int .i64 (s.last + 1), .string m.fu, .string m.fd, .slice ro m.rc.length rc, .slice q2 m.body.length d2])], [Res.cells (k7) [.int .i64 (s.last + 1), .string m.fu, .string m.fd, .slice ro m.rc.length rc, .slice q2 m.body.length d2]], [Res.row 44 4 (.slice ro m.rc.length rc) (m.rc.length) (rcNew now m.rc)], [Res.row 9 1 (.slice q2 m.body.length d2) (m.body.length) (m.body.map Value.string)], [Res.cells (w.heap.size + 1) [.string m.fu, .string m.fd, .slice a1 m.rc.length c1, .slice a2 m.body.length c2]], [Res.cells (w.heap.size + 1 + 1) [.int .i64 0, .slice none 0 0]]]) (Bs := [[Res.row 42 5 (.slice (some ⟨w5.heap.size + 1, 0, none⟩) 1 1) (1) ([.int .i64 (s.last + 1), .string m.fu, .string m.fd, .slice ro m.rc.length rc, .slice q2 m.body.length d2])]]) (Pt.bring ((Pt.bring ((Pt.bring ((Pt.bring ((Pt.bring ((Pt.bring ((Pt.bring (S12.out) 6 rfl)) 7 rfl)) 7 rfl)) 7 rfl)) 7 rfl)) 6 rfl)) 6 rfl))⟩
        · have ol0 := (S6.out.cellsM 0 rfl).c 1 _ rfl
          go_simp
          refine hK.out _ _ ⟨(S6.out.cellsM 1 rfl).c 0 _ rfl, (S6.out.cellsM 1 rfl).c 1 _ rfl, (S6.out.cellsM 1 rfl).c 2 _ rfl, (S6.out.cellsM 1 rfl).c 3 _ rfl, (S6.out.cellsM 1 rfl).c 4 _ rfl⟩ (fun hHeld => ?_)
          clear hK K
          try simp only [Act.put, List.getElem_toArray, List.getElem_cons_succ, List.getElem_cons_zero, List.setIfInBounds_toArray, List.set_cons_zero, List.set_cons_succ]
          clear ol0
          refine wpAnyH_ready (rs := [0, 5]) (by kernel_rfl) (by simp) ?_
          refine AllReadyH.cons rfl (fun K hK => ?_) (AllReadyH.cons rfl (fun K hK => ?_) AllReadyH.nil)
          · have S7 : Seal (Pt w (w5.alloc (.cells #[] 42)).drew [[Res.row 42 5 (.slice (some ⟨w5.heap.size, 0, none⟩) 0 0) (0) ([])], [Res.cells (w.heap.size) [.int .i64 (s.last + 1), .slice ao s.items.length cap]], [Res.cells (k7) [.int .i64 (s.last + 1), .string m.fu, .string m.fd, .slice ro m.rc.length rc, .slice q2 m.body.length d2]], [Res.row 44 4 (.slice ro m.rc.length rc) (m.rc.length) (rcNew now m.rc)], [Res.row 9 1 (.slice q2 m.body.length d2) (m.body.length) (m.body.map Value.string)], [Res.cells (w.heap.size + 1 + 1) [.int .i64 0, .slice none 0 0]], [Res.cells (w.heap.size + 1) [.string m.fu, .string m.fd, .slice a1 m.rc.length c1, .slice a2 m.body.length c2]]]) := ⟨Pt.built S6.out #[] 42 5 0 (by decide) rfl⟩
            go_simp
            refine hK.out _ _ ⟨(S7.out.cellsM 2 rfl).c 0 _ rfl, (S7.out.cellsM 2 rfl).c 1 _ rfl, (S7.out.cellsM 2 rfl).c 2 _ rfl, (S7.out.cellsM 2 rfl).c 3 _ rfl, (S7.out.cellsM 2 rfl).c 4 _ rfl⟩ (fun hHeld => ?_)
            clear hK K
            try simp only [Act.put, List.getElem_toArray, List.getElem_cons_succ, List.getElem_cons_zero, List.setIfInBounds_toArray, List.set_cons_zero, List.set_cons_succ]
            refine wpAnyH_ready (rs := [3, 5]) (by kernel_rfl) (by simp) ?_
            refine AllReadyH.cons rfl (fun K hK => ?_) (AllReadyH.cons rfl (fun K hK => ?_) AllReadyH.nil)
            · have SH7 : Seal (Pt w (w5.alloc (.cells #[] 42)).drew [[Res.row 42 5 (.slice (some ⟨w5.heap.size, 0, none⟩) 0 0) (0) ([])], [Res.cells (w.heap.size) [.int .i64 (s.last + 1), .slice ao s.items.length cap]], [Res.cells (k7) [.int .i64 (s.last + 1), .string m.fu, .string m.fd, .slice ro m.rc.length rc, .slice q2 m.body.length d2]], [Res.row 44 4 (.slice ro m.rc.length rc) (m.rc.length) (rcNew now m.rc)], [Res.row 9 1 (.slice q2 m.body.length d2) (m.body.length) (m.body.map Value.string)], [Res.cells (w.heap.size + 1 + 1) [.int .i64 0, .slice none 0 0]], [Res.cells (w.heap.size + 1) [.string m.fu, .string m.fd, .slice a1 m.rc.length c1, .slice a2 m.body.length c2]]]) := ⟨S7.out.bring 0 rfl⟩
              have OW7 : Seal _ := ⟨Pt.row1 SH7.out 0 rfl⟩
              have SR7 : Seal _ := ⟨((HS.out.later S7.out.below).get List.mem_cons_self)⟩
              refine step_append_first rfl _ _ 23 rfl 0 42 iItem (.agg #[.int .i64 0, .string ByteArray.empty, .string ByteArray.empty, .slice none 0 0, .slice none 0 0]) 5 88 Tryd.underlying23 hiItem hz0Item hz1Item hz2Item rfl (by decide) (.slice (some ⟨w5.heap.size, 0, none⟩) 0 0) (by rfl) OW7.out (ao) (s.items.length) (cap) (itemE.all s.items ps) (by rfl) SR7.out (by first | exact items_all_one _ _ | (intro u hu; simp only [List.mem_cons, List.not_mem_nil, or_false] at hu; rcases hu with rfl | rfl | rfl | rfl | rfl <;> rfl)) (by unfold maxLen; omega) (by omega) (Nat.zero_le _) ?_
              intro v45 u46 hown hg hat
              have S8 : Seal (Pt w u46 [[Res.row 42 5 (v45) (s.items.length) (itemE.all s.items ps)], [Res.cells (w.heap.size) [.int .i64 (s.last + 1), .slice ao s.items.length cap]], [Res.cells (k7) [.int .i64 (s.last + 1), .string m.fu, .string m.fd, .slice ro m.rc.length rc, .slice q2 m.body.length d2]], [Res.row 44 4 (.slice ro m.rc.length rc) (m.rc.length) (rcNew now m.rc)], [Res.row 9 1 (.slice q2 m.body.length d2) (m.body.length) (m.body.map Value.string)], [Res.cells (w.heap.size + 1 + 1) [.int .i64 0, .slice none 0 0]], [Res.cells (w.heap.size + 1) [.string m.fu, .string m.fd, .slice a1 m.rc.length c1, .slice a2 m.body.length c2]]]) := ⟨Pt.app SH7.out hown hg (by simpa using hat)⟩
              obtain ⟨bo47, c48, rfl, _⟩ := row_value (Pt.row1 S8.out 0 rfl)
              clear hown hg hat SH7 OW7 SR7
              refine hK.out _ _ ⟨(S8.out.cellsM 2 rfl).c 0 _ rfl, (S8.out.cellsM 2 rfl).c 1 _ rfl, (S8.out.cellsM 2 rfl).c 2 _ rfl, (S8.out.cellsM 2 rfl).c 3 _ rfl, (S8.out.cellsM 2 rfl).c 4 _ rfl⟩ (fun hHeld => ?_)
              clear hK K
              try simp only [Act.put, List.getElem_toArray, List.getElem_cons_succ, List.getElem_cons_zero, List.setIfInBounds_toArray, List.set_cons_zero, List.set_cons_succ]
              refine wpAnyH_ready (rs := [5]) (by kernel_rfl) (by simp) ?_
              refine AllReadyH.cons rfl (fun K hK => ?_) AllReadyH.nil
              have S9 : Seal (Pt w (u46.alloc (.cells #[.int .i64 (s.last + 1), .string m.fu, .string m.fd, .slice ro m.rc.length rc, .slice q2 m.body.length d2] 42)) [[Res.row 42 5 (.slice (some ⟨u46.heap.size, 0, none⟩) 1 1) (1) ([.int .i64 (s.last + 1), .string m.fu, .string m.fd, .slice ro m.rc.length rc, .slice q2 m.body.length d2])], [Res.row 42 5 (.slice bo47 (s.items.length) c48) (s.items.length) (itemE.all s.items ps)], [Res.cells (w.heap.size) [.int .i64 (s.last + 1), .slice ao s.items.length cap]], [Res.cells (k7) [.int .i64 (s.last + 1), .string m.fu, .string m.fd, .slice ro m.rc.length rc, .slice q2 m.body.length d2]], [Res.row 44 4 (.slice ro m.rc.length rc) (m.rc.length) (rcNew now m.rc)], [Res.row 9 1 (.slice q2 m.body.length d2) (m.body.length) (m.body.map Value.string)], [Res.cells (w.heap.size + 1 + 1) [.int .i64 0, .slice none 0 0]], [Res.cells (w.heap.size + 1) [.string m.fu, .string m.fd, .slice a1 m.rc.length c1, .slice a2 m.body.length c2]]]) := ⟨Pt.built S8.out #[.int .i64 (s.last + 1), .string m.fu, .string m.fd, .slice ro m.rc.length rc, .slice q2 m.body.length d2] 42 5 1 (by decide) rfl⟩
              go_simp
              refine hK.out _ _ ⟨(S9.out.cellsM 3 rfl).c 0 _ rfl, (S9.out.cellsM 3 rfl).c 1 _ rfl, (S9.out.cellsM 3 rfl).c 2 _ rfl, (S9.out.cellsM 3 rfl).c 3 _ rfl, (S9.out.cellsM 3 rfl).c 4 _ rfl⟩ (fun hHeld => ?_)
              clear hK K
              try simp only [Act.put, List.getElem_toArray, List.getElem_cons_succ, List.getElem_cons_zero, List.setIfInBounds_toArray, List.set_cons_zero, List.set_cons_succ]
              refine wpAnyH_ready (rs := [6]) (by kernel_rfl) (by simp) ?_
              refine AllReadyH.cons rfl (fun K hK => ?_) AllReadyH.nil
              have SH9 : Seal (Pt w (u46.alloc (.cells #[.int .i64 (s.last + 1), .string m.fu, .string m.fd, .slice ro m.rc.length rc, .slice q2 m.body.length d2] 42)) [[Res.row 42 5 (.slice bo47 (s.items.length) c48) (s.items.length) (itemE.all s.items ps)], [Res.row 42 5 (.slice (some ⟨u46.heap.size, 0, none⟩) 1 1) (1) ([.int .i64 (s.last + 1), .string m.fu, .string m.fd, .slice ro m.rc.length rc, .slice q2 m.body.length d2])], [Res.cells (w.heap.size) [.int .i64 (s.last + 1), .slice ao s.items.length cap]], [Res.cells (k7) [.int .i64 (s.last + 1), .string m.fu, .string m.fd, .slice ro m.rc.length rc, .slice q2 m.body.length d2]], [Res.row 44 4 (.slice ro m.rc.length rc) (m.rc.length) (rcNew now m.rc)], [Res.row 9 1 (.slice q2 m.body.length d2) (m.body.length) (m.body.map Value.string)], [Res.cells (w.heap.size + 1 + 1) [.int .i64 0, .slice none 0 0]], [Res.cells (w.heap.size + 1) [.string m.fu, .string m.fd, .slice a1 m.rc.length c1, .slice a2 m.body.length c2]]]) := ⟨S9.out.bring 1 rfl⟩
              have OW9 : Seal _ := ⟨Pt.row1 SH9.out 0 rfl⟩
              have SR9 : Seal _ := ⟨(Pt.row1 S9.out 0 rfl)⟩
              refine step_append_any rfl _ _ 23 rfl 0 42 iItem (.agg #[.int .i64 0, .string ByteArray.empty, .string ByteArray.empty, .slice none 0 0, .slice none 0 0]) 5 88 Tryd.underlying23 hiItem hz0Item hz1Item hz2Item rfl (by decide) (.slice bo47 (s.items.length) c48) (s.items.length) (itemE.all s.items ps) (by rfl) OW9.out ((some ⟨u46.heap.size, 0, none⟩)) (1) (1) ([.int .i64 (s.last + 1), .string m.fu, .string m.fd, .slice ro m.rc.length rc, .slice q2 m.body.length d2]) (by rfl) SR9.out (by first | exact items_all_one _ _ | (intro u hu; simp only [List.mem_cons, List.not_mem_nil, or_false] at hu; rcases hu with rfl | rfl | rfl | rfl | rfl <;> rfl)) (by unfold maxLen; omega) (by omega) (Nat.zero_le _) ?_
              intro v49 u50 hown hg hat
              have S10 : Seal (Pt w u50 [[Res.row 42 5 (v49) (s.items.length + 1) (itemE.all s.items ps ++ [.int .i64 (s.last + 1), .string m.fu, .string m.fd, .slice ro m.rc.length rc, .slice q2 m.body.length d2])], [Res.row 42 5 (.slice (some ⟨u46.heap.size, 0, none⟩) 1 1) (1) ([.int .i64 (s.last + 1), .string m.fu, .string m.fd, .slice ro m.rc.length rc, .slice q2 m.body.length d2])], [Res.cells (w.heap.size) [.int .i64 (s.last + 1), .slice ao s.items.length cap]], [Res.cells (k7) [.int .i64 (s.last + 1), .string m.fu, .string m.fd, .slice ro m.rc.length rc, .slice q2 m.body.length d2]], [Res.row 44 4 (.slice ro m.rc.length rc) (m.rc.length) (rcNew now m.rc)], [Res.row 9 1 (.slice q2 m.body.length d2) (m.body.length) (m.body.map Value.string)], [Res.cells (w.heap.size + 1 + 1) [.int .i64 0, .slice none 0 0]], [Res.cells (w.heap.size + 1) [.string m.fu, .string m.fd, .slice a1 m.rc.length c1, .slice a2 m.body.length c2]]]) := ⟨Pt.app SH9.out hown hg (by simpa using hat)⟩
              obtain ⟨bo51, c52, rfl, _⟩ := row_value (Pt.row1 S10.out 0 rfl)
              clear hown hg hat SH9 OW9 SR9
              refine hK.out _ _ ⟨(S10.out.cellsM 3 rfl).c 0 _ rfl, (S10.out.cellsM 3 rfl).c 1 _ rfl, (S10.out.cellsM 3 rfl).c 2 _ rfl, (S10.out.cellsM 3 rfl).c 3 _ rfl, (S10.out.cellsM 3 rfl).c 4 _ rfl⟩ (fun hHeld => ?_)
              clear hK K
              try simp only [Act.put, List.getElem_toArray, List.getElem_cons_succ, List.getElem_cons_zero, List.setIfInBounds_toArray, List.set_cons_zero, List.set_cons_succ]
              refine tkH 7 (by assumption) (h := ?_)
              refine wpAnyH_ready (rs := [8]) (by kernel_rfl) (by simp) ?_
              refine AllReadyH.cons rfl (fun K hK => ?_) AllReadyH.nil
              have S11 : Seal (Pt w u50 [[Res.cells (w.heap.size) [.int .i64 (s.last + 1), .slice ao s.items.length cap]], [Res.row 42 5 (.slice bo51 (s.items.length + 1) c52) (s.items.length + 1) (itemE.all s.items ps ++ [.int .i64 (s.last + 1), .string m.fu, .string m.fd, .slice ro m.rc.length rc, .slice q2 m.body.length d2])], [Res.row 42 5 (.slice (some ⟨u46.heap.size, 0, none⟩) 1 1) (1) ([.int .i64 (s.last + 1), .string m.fu, .string m.fd, .slice ro m.rc.length rc, .slice q2 m.body.length d2])], [Res.cells (k7) [.int .i64 (s.last + 1), .string m.fu, .string m.fd, .slice ro m.rc.length rc, .slice q2 m.body.length d2]], [Res.row 44 4 (.slice ro m.rc.length rc) (m.rc.length) (rcNew now m.rc)], [Res.row 9 1 (.slice q2 m.body.length d2) (m.body.length) (m.body.map Value.string)], [Res.cells (w.heap.size + 1 + 1) [.int .i64 0, .slice none 0 0]], [Res.cells (w.heap.size + 1) [.string m.fu, .string m.fd, .slice a1 m.rc.length c1, .slice a2 m.body.length c2]]]) := ⟨S10.out.bring 2 rfl⟩
              have oc0 := (S11.out.cellsM 0 rfl).c 1 _ rfl
              have of0 := (S11.out.cellsM 0 rfl).f 1 (by simp)
              have S12 : Seal (Pt w (u50.setCell ⟨w.heap.size, 1, none⟩ (.slice bo51 (s.items.length + 1) c52)) [[Res.cells (w.heap.size) [.int .i64 (s.last + 1), .slice bo51 (s.items.length + 1) c52]], [Res.row 42 5 (.slice bo51 (s.items.length + 1) c52) (s.items.length + 1) (itemE.all s.items ps ++ [.int .i64 (s.last + 1), .string m.fu, .string m.fd, .slice ro m.rc.length rc, .slice q2 m.body.length d2])], [Res.row 42 5 (.slice (some ⟨u46.heap.size, 0, none⟩) 1 1) (1) ([.int .i64 (s.last + 1), .string m.fu, .string m.fd, .slice ro m.rc.length rc, .slice q2 m.body.length d2])], [Res.cells (k7) [.int .i64 (s.last + 1), .string m.fu, .string m.fd, .slice ro m.rc.length rc, .slice q2 m.body.length d2]], [Res.row 44 4 (.slice ro m.rc.length rc) (m.rc.length) (rcNew now m.rc)], [Res.row 9 1 (.slice q2 m.body.length d2) (m.body.length) (m.body.map Value.string)], [Res.cells (w.heap.size + 1 + 1) [.int .i64 0, .slice none 0 0]], [Res.cells (w.heap.size + 1) [.string m.fu, .string m.fd, .slice a1 m.rc.length c1, .slice a2 m.body.length c2]]]) := ⟨(S11.out).set 1 (.slice bo51 (s.items.length + 1) c52) (by simp)⟩
              go_simp
              refine hK.out _ _ ⟨(S12.out.cellsM 3 rfl).c 0 _ rfl, (S12.out.cellsM 3 rfl).c 1 _ rfl, (S12.out.cellsM 3 rfl).c 2 _ rfl, (S12.out.cellsM 3 rfl).c 3 _ rfl, (S12.out.cellsM 3 rfl).c 4 _ rfl⟩ (fun hHeld => ?_)
              clear hK K
              try simp only [Act.put, List.getElem_toArray, List.getElem_cons_succ, List.getElem_cons_zero, List.setIfInBounds_toArray, List.set_cons_zero, List.set_cons_succ]
              clear oc0 of0
              refine wpAnyH_done (by kernel_rfl) ?_ _
              go_wp2_with fail
              go_meet
              exact ⟨bo51, c52, (Pt.prefix (As := [[Res.cells (w.heap.size) [.int .i64 (s.last + 1), .slice bo51 (s.items.length + 1) c52]], [Res.row 42 5 (.slice bo51 (s.items.length + 1) c52) (s.items.length + 1) (itemE.all s.items ps ++ [.int .i64 (s.last + 1), .string m.fu, .string m.fd, .slice ro m.rc.length rc, .slice q2 m.body.length d2])], [Res.cells (k7) [.int .i64 (s.last + 1), .string m.fu, .string m.fd, .slice ro m.rc.length rc, .slice q2 m.body.length d2]], [Res.row 44 4 (.slice ro m.rc.length rc) (m.rc.length) (rcNew now m.rc)], [Res.row 9 1 (.slice q2 m.body.length d2) (m.body.length) (m.body.map Value.string)], [Res.cells (w.heap.size + 1) [.string m.fu, .string m.fd, .slice a1 m.rc.length c1, .slice a2 m.body.length c2]], [Res.cells (w.heap.size + 1 + 1) [.int .i64 0, .slice none 0 0]]]) (Bs := [[Res.row 42 5 (.slice (some ⟨u46.heap.size, 0, none⟩) 1 1) (1) ([.int .i64 (s.last + 1), .string m.fu, .string m.fd, .slice ro m.rc.length rc, .slice q2 m.body.length d2])]]) (Pt.bring ((Pt.bring ((Pt.bring ((Pt.bring ((Pt.bring ((Pt.bring ((Pt.bring (S12.out) 6 rfl)) 7 rfl)) 7 rfl)) 7 rfl)) 7 rfl)) 6 rfl)) 6 rfl))⟩
            · have S8 : Seal (Pt w ((w5.alloc (.cells #[] 42)).alloc (.cells #[.int .i64 (s.last + 1), .string m.fu, .string m.fd, .slice ro m.rc.length rc, .slice q2 m.body.length d2] 42)).drew [[Res.row 42 5 (.slice (some ⟨w5.heap.size + 1, 0, none⟩) 1 1) (1) ([.int .i64 (s.last + 1), .string m.fu, .string m.fd, .slice ro m.rc.length rc, .slice q2 m.body.length d2])], [Res.row 42 5 (.slice (some ⟨w5.heap.size, 0, none⟩) 0 0) (0) ([])], [Res.cells (w.heap.size) [.int .i64 (s.last + 1), .slice ao s.items.length cap]], [Res.cells (k7) [.int .i64 (s.last + 1), .string m.fu, .string m.fd, .slice ro m.rc.length rc, .slice q2 m.body.length d2]], [Res.row 44 4 (.slice ro m.rc.length rc) (m.rc.length) (rcNew now m.rc)], [Res.row 9 1 (.slice q2 m.body.length d2) (m.body.length) (m.body.map Value.string)], [Res.cells (w.heap.size + 1 + 1) [.int .i64 0, .slice none 0 0]], [Res.cells (w.heap.size + 1) [.string m.fu, .string m.fd, .slice a1 m.rc.length c1, .slice a2 m.body.length c2]]]) := ⟨by have h := Pt.built S7.out #[.int .i64 (s.last + 1), .string m.fu, .string m.fd, .slice ro m.rc.length rc, .slice q2 m.body.length d2] 42 5 1 (by decide) rfl; simp only [World.size_alloc, World.size_drew'] at h; exact h⟩
              go_simp
              refine hK.out _ _ ⟨(S8.out.cellsM 3 rfl).c 0 _ rfl, (S8.out.cellsM 3 rfl).c 1 _ rfl, (S8.out.cellsM 3 rfl).c 2 _ rfl, (S8.out.cellsM 3 rfl).c 3 _ rfl, (S8.out.cellsM 3 rfl).c 4 _ rfl⟩ (fun hHeld => ?_)
              clear hK K
              try simp only [Act.put, List.getElem_toArray, List.getElem_cons_succ, List.getElem_cons_zero, List.setIfInBounds_toArray, List.set_cons_zero, List.set_cons_succ]
              refine wpAnyH_ready (rs := [3]) (by kernel_rfl) (by simp) ?_
              refine AllReadyH.cons rfl (fun K hK => ?_) AllReadyH.nil
              have SH8 : Seal (Pt w ((w5.alloc (.cells #[] 42)).alloc (.cells #[.int .i64 (s.last + 1), .string m.fu, .string m.fd, .slice ro m.rc.length rc, .slice q2 m.body.length d2] 42)).drew [[Res.row 42 5 (.slice (some ⟨w5.heap.size, 0, none⟩) 0 0) (0) ([])], [Res.row 42 5 (.slice (some ⟨w5.heap.size + 1, 0, none⟩) 1 1) (1) ([.int .i64 (s.last + 1), .string m.fu, .string m.fd, .slice ro m.rc.length rc, .slice q2 m.body.length d2])], [Res.cells (w.heap.size) [.int .i64 (s.last + 1), .slice ao s.items.length cap]], [Res.cells (k7) [.int .i64 (s.last + 1), .string m.fu, .string m.fd, .slice ro m.rc.length rc, .slice q2 m.body.length d2]], [Res.row 44 4 (.slice ro m.rc.length rc) (m.rc.length) (rcNew now m.rc)], [Res.row 9 1 (.slice q2 m.body.length d2) (m.body.length) (m.body.map Value.string)], [Res.cells (w.heap.size + 1 + 1) [.int .i64 0, .slice none 0 0]], [Res.cells (w.heap.size + 1) [.string m.fu, .string m.fd, .slice a1 m.rc.length c1, .slice a2 m.body.length c2]]]) := ⟨S8.out.bring 1 rfl⟩
              have OW8 : Seal _ := ⟨Pt.row1 SH8.out 0 rfl⟩
              have SR8 : Seal _ := ⟨((HS.out.later S8.out.below).get List.mem_cons_self)⟩
              refine step_append_first rfl _ _ 23 rfl 0 42 iItem (.agg #[.int .i64 0, .string ByteArray.empty, .string ByteArray.empty, .slice none 0 0, .slice none 0 0]) 5 88 Tryd.underlying23 hiItem hz0Item hz1Item hz2Item rfl (by decide) (.slice (some ⟨w5.heap.size, 0, none⟩) 0 0) (by rfl) OW8.out (ao) (s.items.length) (cap) (itemE.all s.items ps) (by rfl) SR8.out (by first | exact items_all_one _ _ | (intro u hu; simp only [List.mem_cons, List.not_mem_nil, or_false] at hu; rcases hu with rfl | rfl | rfl | rfl | rfl <;> rfl)) (by unfold maxLen; omega) (by omega) (Nat.zero_le _) ?_
              intro v53 u54 hown hg hat
              have S9 : Seal (Pt w u54 [[Res.row 42 5 (v53) (s.items.length) (itemE.all s.items ps)], [Res.row 42 5 (.slice (some ⟨w5.heap.size + 1, 0, none⟩) 1 1) (1) ([.int .i64 (s.last + 1), .string m.fu, .string m.fd, .slice ro m.rc.length rc, .slice q2 m.body.length d2])], [Res.cells (w.heap.size) [.int .i64 (s.last + 1), .slice ao s.items.length cap]], [Res.cells (k7) [.int .i64 (s.last + 1), .string m.fu, .string m.fd, .slice ro m.rc.length rc, .slice q2 m.body.length d2]], [Res.row 44 4 (.slice ro m.rc.length rc) (m.rc.length) (rcNew now m.rc)], [Res.row 9 1 (.slice q2 m.body.length d2) (m.body.length) (m.body.map Value.string)], [Res.cells (w.heap.size + 1 + 1) [.int .i64 0, .slice none 0 0]], [Res.cells (w.heap.size + 1) [.string m.fu, .string m.fd, .slice a1 m.rc.length c1, .slice a2 m.body.length c2]]]) := ⟨Pt.app SH8.out hown hg (by simpa using hat)⟩
              obtain ⟨bo55, c56, rfl, _⟩ := row_value (Pt.row1 S9.out 0 rfl)
              clear hown hg hat SH8 OW8 SR8
              refine hK.out _ _ ⟨(S9.out.cellsM 3 rfl).c 0 _ rfl, (S9.out.cellsM 3 rfl).c 1 _ rfl, (S9.out.cellsM 3 rfl).c 2 _ rfl, (S9.out.cellsM 3 rfl).c 3 _ rfl, (S9.out.cellsM 3 rfl).c 4 _ rfl⟩ (fun hHeld => ?_)
              clear hK K
              try simp only [Act.put, List.getElem_toArray, List.getElem_cons_succ, List.getElem_cons_zero, List.setIfInBounds_toArray, List.set_cons_zero, List.set_cons_succ]
              refine wpAnyH_ready (rs := [6]) (by kernel_rfl) (by simp) ?_
              refine AllReadyH.cons rfl (fun K hK => ?_) AllReadyH.nil
              have SH9 : Seal (Pt w u54 [[Res.row 42 5 (.slice bo55 (s.items.length) c56) (s.items.length) (itemE.all s.items ps)], [Res.row 42 5 (.slice (some ⟨w5.heap.size + 1, 0, none⟩) 1 1) (1) ([.int .i64 (s.last + 1), .string m.fu, .string m.fd, .slice ro m.rc.length rc, .slice q2 m.body.length d2])], [Res.cells (w.heap.size) [.int .i64 (s.last + 1), .slice ao s.items.length cap]], [Res.cells (k7) [.int .i64 (s.last + 1), .string m.fu, .string m.fd, .slice ro m.rc.length rc, .slice q2 m.body.length d2]], [Res.row 44 4 (.slice ro m.rc.length rc) (m.rc.length) (rcNew now m.rc)], [Res.row 9 1 (.slice q2 m.body.length d2) (m.body.length) (m.body.map Value.string)], [Res.cells (w.heap.size + 1 + 1) [.int .i64 0, .slice none 0 0]], [Res.cells (w.heap.size + 1) [.string m.fu, .string m.fd, .slice a1 m.rc.length c1, .slice a2 m.body.length c2]]]) := ⟨S9.out.bring 0 rfl⟩
              have OW9 : Seal _ := ⟨Pt.row1 SH9.out 0 rfl⟩
              have SR9 : Seal _ := ⟨(Pt.row1 S9.out 1 rfl)⟩
              refine step_append_any rfl _ _ 23 rfl 0 42 iItem (.agg #[.int .i64 0, .string ByteArray.empty, .string ByteArray.empty, .slice none 0 0, .slice none 0 0]) 5 88 Tryd.underlying23 hiItem hz0Item hz1Item hz2Item rfl (by decide) (.slice bo55 (s.items.length) c56) (s.items.length) (itemE.all s.items ps) (by rfl) OW9.out ((some ⟨w5.heap.size + 1, 0, none⟩)) (1) (1) ([.int .i64 (s.last + 1), .string m.fu, .string m.fd, .slice ro m.rc.length rc, .slice q2 m.body.length d2]) (by rfl) SR9.out (by first | exact items_all_one _ _ | (intro u hu; simp only [List.mem_cons, List.not_mem_nil, or_false] at hu; rcases hu with rfl | rfl | rfl | rfl | rfl <;> rfl)) (by unfold maxLen; omega) (by omega) (Nat.zero_le _) ?_
              intro v57 u58 hown hg hat
              have S10 : Seal (Pt w u58 [[Res.row 42 5 (v57) (s.items.length + 1) (itemE.all s.items ps ++ [.int .i64 (s.last + 1), .string m.fu, .string m.fd, .slice ro m.rc.length rc, .slice q2 m.body.length d2])], [Res.row 42 5 (.slice (some ⟨w5.heap.size + 1, 0, none⟩) 1 1) (1) ([.int .i64 (s.last + 1), .string m.fu, .string m.fd, .slice ro m.rc.length rc, .slice q2 m.body.length d2])], [Res.cells (w.heap.size) [.int .i64 (s.last + 1), .slice ao s.items.length cap]], [Res.cells (k7) [.int .i64 (s.last + 1), .string m.fu, .string m.fd, .slice ro m.rc.length rc, .slice q2 m.body.length d2]], [Res.row 44 4 (.slice ro m.rc.length rc) (m.rc.length) (rcNew now m.rc)], [Res.row 9 1 (.slice q2 m.body.length d2) (m.body.length) (m.body.map Value.string)], [Res.cells (w.heap.size + 1 + 1) [.int .i64 0, .slice none 0 0]], [Res.cells (w.heap.size + 1) [.string m.fu, .string m.fd, .slice a1 m.rc.length c1, .slice a2 m.body.length c2]]]) := ⟨Pt.app SH9.out hown hg (by simpa using hat)⟩
              obtain ⟨bo59, c60, rfl, _⟩ := row_value (Pt.row1 S10.out 0 rfl)
              clear hown hg hat SH9 OW9 SR9
              refine hK.out _ _ ⟨(S10.out.cellsM 3 rfl).c 0 _ rfl, (S10.out.cellsM 3 rfl).c 1 _ rfl, (S10.out.cellsM 3 rfl).c 2 _ rfl, (S10.out.cellsM 3 rfl).c 3 _ rfl, (S10.out.cellsM 3 rfl).c 4 _ rfl⟩ (fun hHeld => ?_)
              clear hK K
              try simp only [Act.put, List.getElem_toArray, List.getElem_cons_succ, List.getElem_cons_zero, List.setIfInBounds_toArray, List.set_cons_zero, List.set_cons_succ]
              refine tkH 7 (by assumption) (h := ?_)
              refine wpAnyH_ready (rs := [8]) (by kernel_rfl) (by simp) ?_
              refine AllReadyH.cons rfl (fun K hK => ?_) AllReadyH.nil
              have S11 : Seal (Pt w u58 [[Res.cells (w.heap.size) [.int .i64 (s.last + 1), .slice ao s.items.length cap]], [Res.row 42 5 (.slice bo59 (s.items.length + 1) c60) (s.items.length + 1) (itemE.all s.items ps ++ [.int .i64 (s.last + 1), .string m.fu, .string m.fd, .slice ro m.rc.length rc, .slice q2 m.body.length d2])], [Res.row 42 5 (.slice (some ⟨w5.heap.size + 1, 0, none⟩) 1 1) (1) ([.int .i64 (s.last + 1), .string m.fu, .string m.fd, .slice ro m.rc.length rc, .slice q2 m.body.length d2])], [Res.cells (k7) [.int .i64 (s.last + 1), .string m.fu, .string m.fd, .slice ro m.rc.length rc, .slice q2 m.body.length d2]], [Res.row 44 4 (.slice ro m.rc.length rc) (m.rc.length) (rcNew now m.rc)], [Res.row 9 1 (.slice q2 m.body.length d2) (m.body.length) (m.body.map Value.string)], [Res.cells (w.heap.size + 1 + 1) [.int .i64 0, .slice none 0 0]], [Res.cells (w.heap.size + 1) [.string m.fu, .string m.fd, .slice a1 m.rc.length c1, .slice a2 m.body.length c2]]]) := ⟨S10.out.bring 2 rfl⟩
              have oc0 := (S11.out.cellsM 0 rfl).c 1 _ rfl
              have of0 := (S11.out.cellsM 0 rfl).f 1 (by simp)
              have S12 : Seal (Pt w (u58.setCell ⟨w.heap.size, 1, none⟩ (.slice bo59 (s.items.length + 1) c60)) [[Res.cells (w.heap.size) [.int .i64 (s.last + 1), .slice bo59 (s.items.length + 1) c60]], [Res.row 42 5 (.slice bo59 (s.items.length + 1) c60) (s.items.length + 1) (itemE.all s.items ps ++ [.int .i64 (s.last + 1), .string m.fu, .string m.fd, .slice ro m.rc.length rc, .slice q2 m.body.length d2])], [Res.row 42 5 (.slice (some ⟨w5.heap.size + 1, 0, none⟩) 1 1) (1) ([.int .i64 (s.last + 1), .string m.fu, .string m.fd, .slice ro m.rc.length rc, .slice q2 m.body.length d2])], [Res.cells (k7) [.int .i64 (s.last + 1), .string m.fu, .string m.fd, .slice ro m.rc.length rc, .slice q2 m.body.length d2]], [Res.row 44 4 (.slice ro m.rc.length rc) (m.rc.length) (rcNew now m.rc)], [Res.row 9 1 (.slice q2 m.body.length d2) (m.body.length) (m.body.map Value.string)], [Res.cells (w.heap.size + 1 + 1) [.int .i64 0, .slice none 0 0]], [Res.cells (w.heap.size + 1) [.string m.fu, .string m.fd, .slice a1 m.rc.length c1, .slice a2 m.body.length c2]]]) := ⟨(S11.out).set 1 (.slice bo59 (s.items.length + 1) c60) (by simp)⟩
              go_simp
              refine hK.out _ _ ⟨(S12.out.cellsM 3 rfl).c 0 _ rfl, (S12.out.cellsM 3 rfl).c 1 _ rfl, (S12.out.cellsM 3 rfl).c 2 _ rfl, (S12.out.cellsM 3 rfl).c 3 _ rfl, (S12.out.cellsM 3 rfl).c 4 _ rfl⟩ (fun hHeld => ?_)
              clear hK K
              try simp only [Act.put, List.getElem_toArray, List.getElem_cons_succ, List.getElem_cons_zero, List.setIfInBounds_toArray, List.set_cons_zero, List.set_cons_succ]
              clear oc0 of0
              refine wpAnyH_done (by kernel_rfl) ?_ _
              go_wp2_with fail
              go_meet
              exact ⟨bo59, c60, (Pt.prefix (As := [[Res.cells (w.heap.size) [.int .i64 (s.last + 1), .slice bo59 (s.items.length + 1) c60]], [Res.row 42 5 (.slice bo59 (s.items.length + 1) c60) (s.items.length + 1) (itemE.all s.items ps ++ [.int .i64 (s.last + 1), .string m.fu, .string m.fd, .slice ro m.rc.length rc, .slice q2 m.body.length d2])], [Res.cells (k7) [.int .i64 (s.last + 1), .string m.fu, .string m.fd, .slice ro m.rc.length rc, .slice q2 m.body.length d2]], [Res.row 44 4 (.slice ro m.rc.length rc) (m.rc.length) (rcNew now m.rc)], [Res.row 9 1 (.slice q2 m.body.length d2) (m.body.length) (m.body.map Value.string)], [Res.cells (w.heap.size + 1) [.string m.fu, .string m.fd, .slice a1 m.rc.length c1, .slice a2 m.body.length c2]], [Res.cells (w.heap.size + 1 + 1) [.int .i64 0, .slice none 0 0]]]) (Bs := [[Res.row 42 5 (.slice (some ⟨w5.heap.size + 1, 0, none⟩) 1 1) (1) ([.int .i64 (s.last + 1), .string m.fu, .string m.fd, .slice ro m.rc.length rc, .slice q2 m.body.length d2])]]) (Pt.bring ((Pt.bring ((Pt.bring ((Pt.bring ((Pt.bring ((Pt.bring ((Pt.bring (S12.out) 6 rfl)) 7 rfl)) 7 rfl)) 7 rfl)) 7 rfl)) 6 rfl)) 6 rfl))⟩
          · have S7 : Seal (Pt w (w5.alloc (.cells #[.int .i64 (s.last + 1), .string m.fu, .string m.fd, .slice ro m.rc.length rc, .slice q2 m.body.length d2] 42)).drew [[Res.row 42 5 (.slice (some ⟨w5.heap.size, 0, none⟩) 1 1) (1) ([.int .i64 (s.last + 1), .string m.fu, .string m.fd, .slice ro m.rc.length rc, .slice q2 m.body.length d2])], [Res.cells (w.heap.size) [.int .i64 (s.last + 1), .slice ao s.items.length cap]], [Res.cells (k7) [.int .i64 (s.last + 1), .string m.fu, .string m.fd, .slice ro m.rc.length rc, .slice q2 m.body.length d2]], [Res.row 44 4 (.slice ro m.rc.length rc) (m.rc.length) (rcNew now m.rc)], [Res.row 9 1 (.slice q2 m.body.length d2) (m.body.length) (m.body.map Value.string)], [Res.cells (w.heap.size + 1 + 1) [.int .i64 0, .slice none 0 0]], [Res.cells (w.heap.size + 1) [.string m.fu, .string m.fd, .slice a1 m.rc.length c1, .slice a2 m.body.length c2]]]) := ⟨Pt.built S6.out #[.int .i64 (s.last + 1), .string m.fu, .string m.fd, .slice ro m.rc.length rc, .slice q2 m.body.length d2] 42 5 1 (by decide) rfl⟩
            go_simp
            refine hK.out _ _ ⟨(S7.out.cellsM 2 rfl).c 0 _ rfl, (S7.out.cellsM 2 rfl).c 1 _ rfl, (S7.out.cellsM 2 rfl).c 2 _ rfl, (S7.out.cellsM 2 rfl).c 3 _ rfl, (S7.out.cellsM 2 rfl).c 4 _ rfl⟩ (fun hHeld => ?_)
            clear hK K
            try simp only [Act.put, List.getElem_toArray, List.getElem_cons_succ, List.getElem_cons_zero, List.setIfInBounds_toArray, List.set_cons_zero, List.set_cons_succ]
            refine wpAnyH_ready (rs := [0]) (by kernel_rfl) (by simp) ?_
            refine AllReadyH.cons rfl (fun K hK => ?_) AllReadyH.nil
            have S8 : Seal (Pt w ((w5.alloc (.cells #[.int .i64 (s.last + 1), .string m.fu, .string m.fd, .slice ro m.rc.length rc, .slice q2 m.body.length d2] 42)).alloc (.cells #[] 42)).drew [[Res.row 42 5 (.slice (some ⟨w5.heap.size + 1, 0, none⟩) 0 0) (0) ([])], [Res.row 42 5 (.slice (some ⟨w5.heap.size, 0, none⟩) 1 1) (1) ([.int .i64 (s.last + 1), .string m.fu, .string m.fd, .slice ro m.rc.length rc, .slice q2 m.body.length d2])], [Res.cells (w.heap.size) [.int .i64 (s.last + 1), .slice ao s.items.length cap]], [Res.cells (k7) [.int .i64 (s.last + 1), .string m.fu, .string m.fd, .slice ro m.rc.length rc, .slice q2 m.body.length d2]], [Res.row 44 4 (.slice ro m.rc.length rc) (m.rc.length) (rcNew now m.rc)], [Res.row 9 1 (.slice q2 m.body.length d2) (m.body.length) (m.body.map Value.string)], [Res.cells (w.heap.size + 1 + 1) [.int .i64 0, .slice none 0 0]], [Res.cells (w.heap.size + 1) [.string m.fu, .string m.fd, .slice a1 m.rc.length c1, .slice a2 m.body.length c2]]]) := ⟨by have h := Pt.built S7.out #[] 42 5 0 (by decide) rfl; simp only [World.size_alloc, World.size_drew'] at h; exact h⟩
            go_simp
            refine hK.out _ _ ⟨(S8.out.cellsM 3 rfl).c 0 _ rfl, (S8.out.cellsM 3 rfl).c 1 _ rfl, (S8.out.cellsM 3 rfl).c 2 _ rfl, (S8.out.cellsM 3 rfl).c 3 _ rfl, (S8.out.cellsM 3 rfl).c 4 _ rfl⟩ (fun hHeld => ?_)
            clear hK K
            try simp only [Act.put, List.getElem_toArray, List.getElem_cons_succ, List.getElem_cons_zero, List.setIfInBounds_toArray, List.set_cons_zero, List.set_cons_succ]
            refine wpAnyH_ready (rs := [3]) (by kernel_rfl) (by simp) ?_
            refine AllReadyH.cons rfl (fun K hK => ?_) AllReadyH.nil
            have SH8 : Seal (Pt w ((w5.alloc (.cells #[.int .i64 (s.last + 1), .string m.fu, .string m.fd, .slice ro m.rc.length rc, .slice q2 m.body.length d2] 42)).alloc (.cells #[] 42)).drew [[Res.row 42 5 (.slice (some ⟨w5.heap.size + 1, 0, none⟩) 0 0) (0) ([])], [Res.row 42 5 (.slice (some ⟨w5.heap.size, 0, none⟩) 1 1) (1) ([.int .i64 (s.last + 1), .string m.fu, .string m.fd, .slice ro m.rc.length rc, .slice q2 m.body.length d2])], [Res.cells (w.heap.size) [.int .i64 (s.last + 1), .slice ao s.items.length cap]], [Res.cells (k7) [.int .i64 (s.last + 1), .string m.fu, .string m.fd, .slice ro m.rc.length rc, .slice q2 m.body.length d2]], [Res.row 44 4 (.slice ro m.rc.length rc) (m.rc.length) (rcNew now m.rc)], [Res.row 9 1 (.slice q2 m.body.length d2) (m.body.length) (m.body.map Value.string)], [Res.cells (w.heap.size + 1 + 1) [.int .i64 0, .slice none 0 0]], [Res.cells (w.heap.size + 1) [.string m.fu, .string m.fd, .slice a1 m.rc.length c1, .slice a2 m.body.length c2]]]) := ⟨S8.out.bring 0 rfl⟩
            have OW8 : Seal _ := ⟨Pt.row1 SH8.out 0 rfl⟩
            have SR8 : Seal _ := ⟨((HS.out.later S8.out.below).get List.mem_cons_self)⟩
            refine step_append_first rfl _ _ 23 rfl 0 42 iItem (.agg #[.int .i64 0, .string ByteArray.empty, .string ByteArray.empty, .slice none 0 0, .slice none 0 0]) 5 88 Tryd.underlying23 hiItem hz0Item hz1Item hz2Item rfl (by decide) (.slice (some ⟨w5.heap.size + 1, 0, none⟩) 0 0) (by rfl) OW8.out (ao) (s.items.length) (cap) (itemE.all s.items ps) (by rfl) SR8.out (by first | exact items_all_one _ _ | (intro u hu; simp only [List.mem_cons, List.not_mem_nil, or_false] at hu; rcases hu with rfl | rfl | rfl | rfl | rfl <;> rfl)) (by unfold maxLen; omega) (by omega) (Nat.zero_le _) ?_
            intro v61 u62 hown hg hat
            have S9 : Seal (Pt w u62 [[Res.row 42 5 (v61) (s.items.length) (itemE.all s.items ps)], [Res.row 42 5 (.slice (some ⟨w5.heap.size, 0, none⟩) 1 1) (1) ([.int .i64 (s.last + 1), .string m.fu, .string m.fd, .slice ro m.rc.length rc, .slice q2 m.body.length d2])], [Res.cells (w.heap.size) [.int .i64 (s.last + 1), .slice ao s.items.length cap]], [Res.cells (k7) [.int .i64 (s.last + 1), .string m.fu, .string m.fd, .slice ro m.rc.length rc, .slice q2 m.body.length d2]], [Res.row 44 4 (.slice ro m.rc.length rc) (m.rc.length) (rcNew now m.rc)], [Res.row 9 1 (.slice q2 m.body.length d2) (m.body.length) (m.body.map Value.string)], [Res.cells (w.heap.size + 1 + 1) [.int .i64 0, .slice none 0 0]], [Res.cells (w.heap.size + 1) [.string m.fu, .string m.fd, .slice a1 m.rc.length c1, .slice a2 m.body.length c2]]]) := ⟨Pt.app SH8.out hown hg (by simpa using hat)⟩
            obtain ⟨bo63, c64, rfl, _⟩ := row_value (Pt.row1 S9.out 0 rfl)
            clear hown hg hat SH8 OW8 SR8
            refine hK.out _ _ ⟨(S9.out.cellsM 3 rfl).c 0 _ rfl, (S9.out.cellsM 3 rfl).c 1 _ rfl, (S9.out.cellsM 3 rfl).c 2 _ rfl, (S9.out.cellsM 3 rfl).c 3 _ rfl, (S9.out.cellsM 3 rfl).c 4 _ rfl⟩ (fun hHeld => ?_)
            clear hK K
            try simp only [Act.put, List.getElem_toArray, List.getElem_cons_succ, List.getElem_cons_zero, List.setIfInBounds_toArray, List.set_cons_zero, List.set_cons_succ]
            refine wpAnyH_ready (rs := [6]) (by kernel_rfl) (by simp) ?_
            refine AllReadyH.cons rfl (fun K hK => ?_) AllReadyH.nil
            have SH9 : Seal (Pt w u62 [[Res.row 42 5 (.slice bo63 (s.items.length) c64) (s.items.length) (itemE.all s.items ps)], [Res.row 42 5 (.slice (some ⟨w5.heap.size, 0, none⟩) 1 1) (1) ([.int .i64 (s.last + 1), .string m.fu, .string m.fd, .slice ro m.rc.length rc, .slice q2 m.body.length d2])], [Res.cells (w.heap.size) [.int .i64 (s.last + 1), .slice ao s.items.length cap]], [Res.cells (k7) [.int .i64 (s.last + 1), .string m.fu, .string m.fd, .slice ro m.rc.length rc, .slice q2 m.body.length d2]], [Res.row 44 4 (.slice ro m.rc.length rc) (m.rc.length) (rcNew now m.rc)], [Res.row 9 1 (.slice q2 m.body.length d2) (m.body.length) (m.body.map Value.string)], [Res.cells (w.heap.size + 1 + 1) [.int .i64 0, .slice none 0 0]], [Res.cells (w.heap.size + 1) [.string m.fu, .string m.fd, .slice a1 m.rc.length c1, .slice a2 m.body.length c2]]]) := ⟨S9.out.bring 0 rfl⟩
            have OW9 : Seal _ := ⟨Pt.row1 SH9.out 0 rfl⟩
            have SR9 : Seal _ := ⟨(Pt.row1 S9.out 1 rfl)⟩
            refine step_append_any rfl _ _ 23 rfl 0 42 iItem (.agg #[.int .i64 0, .string ByteArray.empty, .string ByteArray.empty, .slice none 0 0, .slice none 0 0]) 5 88 Tryd.underlying23 hiItem hz0Item hz1Item hz2Item rfl (by decide) (.slice bo63 (s.items.length) c64) (s.items.length) (itemE.all s.items ps) (by rfl) OW9.out ((some ⟨w5.heap.size, 0, none⟩)) (1) (1) ([.int .i64 (s.last + 1), .string m.fu, .string m.fd, .slice ro m.rc.length rc, .slice q2 m.body.length d2]) (by rfl) SR9.out (by first | exact items_all_one _ _ | (intro u hu; simp only [List.mem_cons, List.not_mem_nil, or_false] at hu; rcases hu with rfl | rfl | rfl | rfl | rfl <;> rfl)) (by unfold maxLen; omega) (by omega) (Nat.zero_le _) ?_
            intro v65 u66 hown hg hat
            have S10 : Seal (Pt w u66 [[Res.row 42 5 (v65) (s.items.length + 1) (itemE.all s.items ps ++ [.int .i64 (s.last + 1), .string m.fu, .string m.fd, .slice ro m.rc.length rc, .slice q2 m.body.length d2])], [Res.row 42 5 (.slice (some ⟨w5.heap.size, 0, none⟩) 1 1) (1) ([.int .i64 (s.last + 1), .string m.fu, .string m.fd, .slice ro m.rc.length rc, .slice q2 m.body.length d2])], [Res.cells (w.heap.size) [.int .i64 (s.last + 1), .slice ao s.items.length cap]], [Res.cells (k7) [.int .i64 (s.last + 1), .string m.fu, .string m.fd, .slice ro m.rc.length rc, .slice q2 m.body.length d2]], [Res.row 44 4 (.slice ro m.rc.length rc) (m.rc.length) (rcNew now m.rc)], [Res.row 9 1 (.slice q2 m.body.length d2) (m.body.length) (m.body.map Value.string)], [Res.cells (w.heap.size + 1 + 1) [.int .i64 0, .slice none 0 0]], [Res.cells (w.heap.size + 1) [.string m.fu, .string m.fd, .slice a1 m.rc.length c1, .slice a2 m.body.length c2]]]) := ⟨Pt.app SH9.out hown hg (by simpa using hat)⟩
            obtain ⟨bo67, c68, rfl, _⟩ := row_value (Pt.row1 S10.out 0 rfl)
            clear hown hg hat SH9 OW9 SR9
            refine hK.out _ _ ⟨(S10.out.cellsM 3 rfl).c 0 _ rfl, (S10.out.cellsM 3 rfl).c 1 _ rfl, (S10.out.cellsM 3 rfl).c 2 _ rfl, (S10.out.cellsM 3 rfl).c 3 _ rfl, (S10.out.cellsM 3 rfl).c 4 _ rfl⟩ (fun hHeld => ?_)
            clear hK K
            try simp only [Act.put, List.getElem_toArray, List.getElem_cons_succ, List.getElem_cons_zero, List.setIfInBounds_toArray, List.set_cons_zero, List.set_cons_succ]
            refine tkH 7 (by assumption) (h := ?_)
            refine wpAnyH_ready (rs := [8]) (by kernel_rfl) (by simp) ?_
            refine AllReadyH.cons rfl (fun K hK => ?_) AllReadyH.nil
            have S11 : Seal (Pt w u66 [[Res.cells (w.heap.size) [.int .i64 (s.last + 1), .slice ao s.items.length cap]], [Res.row 42 5 (.slice bo67 (s.items.length + 1) c68) (s.items.length + 1) (itemE.all s.items ps ++ [.int .i64 (s.last + 1), .string m.fu, .string m.fd, .slice ro m.rc.length rc, .slice q2 m.body.length d2])], [Res.row 42 5 (.slice (some ⟨w5.heap.size, 0, none⟩) 1 1) (1) ([.int .i64 (s.last + 1), .string m.fu, .string m.fd, .slice ro m.rc.length rc, .slice q2 m.body.length d2])], [Res.cells (k7) [.int .i64 (s.last + 1), .string m.fu, .string m.fd, .slice ro m.rc.length rc, .slice q2 m.body.length d2]], [Res.row 44 4 (.slice ro m.rc.length rc) (m.rc.length) (rcNew now m.rc)], [Res.row 9 1 (.slice q2 m.body.length d2) (m.body.length) (m.body.map Value.string)], [Res.cells (w.heap.size + 1 + 1) [.int .i64 0, .slice none 0 0]], [Res.cells (w.heap.size + 1) [.string m.fu, .string m.fd, .slice a1 m.rc.length c1, .slice a2 m.body.length c2]]]) := ⟨S10.out.bring 2 rfl⟩
            have oc0 := (S11.out.cellsM 0 rfl).c 1 _ rfl
            have of0 := (S11.out.cellsM 0 rfl).f 1 (by simp)
            have S12 : Seal (Pt w (u66.setCell ⟨w.heap.size, 1, none⟩ (.slice bo67 (s.items.length + 1) c68)) [[Res.cells (w.heap.size) [.int .i64 (s.last + 1), .slice bo67 (s.items.length + 1) c68]], [Res.row 42 5 (.slice bo67 (s.items.length + 1) c68) (s.items.length + 1) (itemE.all s.items ps ++ [.int .i64 (s.last + 1), .string m.fu, .string m.fd, .slice ro m.rc.length rc, .slice q2 m.body.length d2])], [Res.row 42 5 (.slice (some ⟨w5.heap.size, 0, none⟩) 1 1) (1) ([.int .i64 (s.last + 1), .string m.fu, .string m.fd, .slice ro m.rc.length rc, .slice q2 m.body.length d2])], [Res.cells (k7) [.int .i64 (s.last + 1), .string m.fu, .string m.fd, .slice ro m.rc.length rc, .slice q2 m.body.length d2]], [Res.row 44 4 (.slice ro m.rc.length rc) (m.rc.length) (rcNew now m.rc)], [Res.row 9 1 (.slice q2 m.body.length d2) (m.body.length) (m.body.map Value.string)], [Res.cells (w.heap.size + 1 + 1) [.int .i64 0, .slice none 0 0]], [Res.cells (w.heap.size + 1) [.string m.fu, .string m.fd, .slice a1 m.rc.length c1, .slice a2 m.body.length c2]]]) := ⟨(S11.out).set 1 (.slice bo67 (s.items.length + 1) c68) (by simp)⟩
            go_simp
            refine hK.out _ _ ⟨(S12.out.cellsM 3 rfl).c 0 _ rfl, (S12.out.cellsM 3 rfl).c 1 _ rfl, (S12.out.cellsM 3 rfl).c 2 _ rfl, (S12.out.cellsM 3 rfl).c 3 _ rfl, (S12.out.cellsM 3 rfl).c 4 _ rfl⟩ (fun hHeld => ?_)
            clear hK K
            try simp only [Act.put, List.getElem_toArray, List.getElem_cons_succ, List.getElem_cons_zero, List.setIfInBounds_toArray, List.set_cons_zero, List.set_cons_succ]
            clear oc0 of0
            refine wpAnyH_done (by kernel_rfl) ?_ _
            go_wp2_with fail
            go_meet
            exact ⟨bo67, c68, (Pt.prefix (As := [[Res.cells (w.heap.size) [.int .i64 (s.last + 1), .slice bo67 (s.items.length + 1) c68]], [Res.row 42 5 (.slice bo67 (s.items.length + 1) c68) (s.items.length + 1) (itemE.all s.items ps ++ [.int .i64 (s.last + 1), .string m.fu, .string m.fd, .slice ro m.rc.length rc, .slice q2 m.body.length d2])], [Res.cells (k7) [.int .i64 (s.last + 1), .string m.fu, .string m.fd, .slice ro m.rc.length rc, .slice q2 m.body.length d2]], [Res.row 44 4 (.slice ro m.rc.length rc) (m.rc.length) (rcNew now m.rc)], [Res.row 9 1 (.slice q2 m.body.length d2) (m.body.length) (m.body.map Value.string)], [Res.cells (w.heap.size + 1) [.string m.fu, .string m.fd, .slice a1 m.rc.length c1, .slice a2 m.body.length c2]], [Res.cells (w.heap.size + 1 + 1) [.int .i64 0, .slice none 0 0]]]) (Bs := [[Res.row 42 5 (.slice (some ⟨w5.heap.size, 0, none⟩) 1 1) (1) ([.int .i64 (s.last + 1), .string m.fu, .string m.fd, .slice ro m.rc.length rc, .slice q2 m.body.length d2])]]) (Pt.bring ((Pt.bring ((Pt.bring ((Pt.bring ((Pt.bring ((Pt.bring ((Pt.bring (S12.out) 6 rfl)) 7 rfl)) 7 rfl)) 7 rfl)) 7 rfl)) 6 rfl)) 6 rfl))⟩
        · have S7 : Seal (Pt w (w5.alloc (.cells #[.int .i64 (s.last + 1), .string m.fu, .string m.fd, .slice ro m.rc.length rc, .slice q2 m.body.length d2] 42)).drew [[Res.row 42 5 (.slice (some ⟨w5.heap.size, 0, none⟩) 1 1) (1) ([.int .i64 (s.last + 1), .string m.fu, .string m.fd, .slice ro m.rc.length rc, .slice q2 m.body.length d2])], [Res.cells (w.heap.size) [.int .i64 (s.last + 1), .slice ao s.items.length cap]], [Res.cells (k7) [.int .i64 (s.last + 1), .string m.fu, .string m.fd, .slice ro m.rc.length rc, .slice q2 m.body.length d2]], [Res.row 44 4 (.slice ro m.rc.length rc) (m.rc.length) (rcNew now m.rc)], [Res.row 9 1 (.slice q2 m.body.length d2) (m.body.length) (m.body.map Value.string)], [Res.cells (w.heap.size + 1 + 1) [.int .i64 0, .slice none 0 0]], [Res.cells (w.heap.size + 1) [.string m.fu, .string m.fd, .slice a1 m.rc.length c1, .slice a2 m.body.length c2]]]) := ⟨Pt.built S6.out #[.int .i64 (s.last + 1), .string m.fu, .string m.fd, .slice ro m.rc.length rc, .slice q2 m.body.length d2] 42 5 1 (by decide) rfl⟩
          go_simp
          refine hK.out _ _ ⟨(S7.out.cellsM 2 rfl).c 0 _ rfl, (S7.out.cellsM 2 rfl).c 1 _ rfl, (S7.out.cellsM 2 rfl).c 2 _ rfl, (S7.out.cellsM 2 rfl).c 3 _ rfl, (S7.out.cellsM 2 rfl).c 4 _ rfl⟩ (fun hHeld => ?_)
          clear hK K
          try simp only [Act.put, List.getElem_toArray, List.getElem_cons_succ, List.getElem_cons_zero, List.setIfInBounds_toArray, List.set_cons_zero, List.set_cons_succ]
          refine wpAnyH_ready (rs := [0, 2]) (by kernel_rfl) (by simp) ?_
          refine AllReadyH.cons rfl (fun K hK => ?_) (AllReadyH.cons rfl (fun K hK => ?_) AllReadyH.nil)
          · have S8 : Seal (Pt w ((w5.alloc (.cells #[.int .i64 (s.last + 1), .string m.fu, .string m.fd, .slice ro m.rc.length rc, .slice q2 m.body.length d2] 42)).alloc (.cells #[] 42)).drew [[Res.row 42 5 (.slice (some ⟨w5.heap.size + 1, 0, none⟩) 0 0) (0) ([])], [Res.row 42 5 (.slice (some ⟨w5.heap.size, 0, none⟩) 1 1) (1) ([.int .i64 (s.last + 1), .string m.fu, .string m.fd, .slice ro m.rc.length rc, .slice q2 m.body.length d2])], [Res.cells (w.heap.size) [.int .i64 (s.last + 1), .slice ao s.items.length cap]], [Res.cells (k7) [.int .i64 (s.last + 1), .string m.fu, .string m.fd, .slice ro m.rc.length rc, .slice q2 m.body.length d2]], [Res.row 44 4 (.slice ro m.rc.length rc) (m.rc.length) (rcNew now m.rc)], [Res.row 9 1 (.slice q2 m.body.length d2) (m.body.length) (m.body.map Value.string)], [Res.cells (w.heap.size + 1 + 1) [.int .i64 0, .slice none 0 0]], [Res.cells (w.heap.size + 1) [.string m.fu, .string m.fd, .slice a1 m.rc.length c1, .slice a2 m.body.length c2]]]) := ⟨by have h := Pt.built S7.out #[] 42 5 0 (by decide) rfl; simp only [World.size_alloc, World.size_drew'] at h; exact h⟩
            go_simp
            refine hK.out _ _ ⟨(S8.out.cellsM 3 rfl).c 0 _ rfl, (S8.out.cellsM 3 rfl).c 1 _ rfl, (S8.out.cellsM 3 rfl).c 2 _ rfl, (S8.out.cellsM 3 rfl).c 3 _ rfl, (S8.out.cellsM 3 rfl).c 4 _ rfl⟩ (fun hHeld => ?_)
            clear hK K
            try simp only [Act.put, List.getElem_toArray, List.getElem_cons_succ, List.getElem_cons_zero, List.setIfInBounds_toArray, List.set_cons_zero, List.set_cons_succ]
            refine wpAnyH_ready (rs := [2]) (by kernel_rfl) (by simp) ?_
            refine AllReadyH.cons rfl (fun K hK => ?_) AllReadyH.nil
            have ol0 := (S8.out.cellsM 2 rfl).c 1 _ rfl
            go_simp
            refine hK.out _ _ ⟨(S8.out.cellsM 3 rfl).c 0 _ rfl, (S8.out.cellsM 3 rfl).c 1 _ rfl, (S8.out.cellsM 3 rfl).c 2 _ rfl, (S8.out.cellsM 3 rfl).c 3 _ rfl, (S8.out.cellsM 3 rfl).c 4 _ rfl⟩ (fun hHeld => ?_)
            clear hK K
            try simp only [Act.put, List.getElem_toArray, List.getElem_cons_succ, List.getElem_cons_zero, List.setIfInBounds_toArray, List.set_cons_zero, List.set_cons_succ]
            clear ol0
            refine wpAnyH_ready (rs := [3]) (by kernel_rfl) (by simp) ?_
            refine AllReadyH.cons rfl (fun K hK => ?_) AllReadyH.nil
            have SH8 : Seal (Pt w ((w5.alloc (.cells #[.int .i64 (s.last + 1), .string m.fu, .string m.fd, .slice ro m.rc.length rc, .slice q2 m.body.length d2] 42)).alloc (.cells #[] 42)).drew [[Res.row 42 5 (.slice (some ⟨w5.heap.size + 1, 0, none⟩) 0 0) (0) ([])], [Res.row 42 5 (.slice (some ⟨w5.heap.size, 0, none⟩) 1 1) (1) ([.int .i64 (s.last + 1), .string m.fu, .string m.fd, .slice ro m.rc.length rc, .slice q2 m.body.length d2])], [Res.cells (w.heap.size) [.int .i64 (s.last + 1), .slice ao s.items.length cap]], [Res.cells (k7) [.int .i64 (s.last + 1), .string m.fu, .string m.fd, .slice ro m.rc.length rc, .slice q2 m.body.length d2]], [Res.row 44 4 (.slice ro m.rc.length rc) (m.rc.length) (rcNew now m.rc)], [Res.row 9 1 (.slice q2 m.body.length d2) (m.body.length) (m.body.map Value.string)], [Res.cells (w.heap.size + 1 + 1) [.int .i64 0, .slice none 0 0]], [Res.cells (w.heap.size + 1) [.string m.fu, .string m.fd, .slice a1 m.rc.length c1, .slice a2 m.body.length c2]]]) := ⟨S8.out.bring 0 rfl⟩
            have OW8 : Seal _ := ⟨Pt.row1 SH8.out 0 rfl⟩
            have SR8 : Seal _ := ⟨((HS.out.later S8.out.below).get List.mem_cons_self)⟩
            refine step_append_first rfl _ _ 23 rfl 0 42 iItem (.agg #[.int .i64 0, .string ByteArray.empty, .string ByteArray.empty, .slice none 0 0, .slice none 0 0]) 5 88 Tryd.underlying23 hiItem hz0Item hz1Item hz2Item rfl (by decide) (.slice (some ⟨w5.heap.size + 1, 0, none⟩) 0 0) (by rfl) OW8.out (ao) (s.items.length) (cap) (itemE.all s.items ps) (by rfl) SR8.out (by first | exact items_all_one _ _ | (intro u hu; simp only [List.mem_cons, List.not_mem_nil, or_false] at hu; rcases hu with rfl | rfl | rfl | rfl | rfl <;> rfl)) (by unfold maxLen; omega) (by omega) (Nat.zero_le _) ?_
            intro v69 u70 hown hg hat
            have S9 : Seal (Pt w u70 [[Res.row 42 5 (v69) (s.items.length) (itemE.all s.items ps)], [Res.row 42 5 (.slice (some ⟨w5.heap.size, 0, none⟩) 1 1) (1) ([.int .i64 (s.last + 1), .string m.fu, .string m.fd, .slice ro m.rc.length rc, .slice q2 m.body.length d2])], [Res.cells (w.heap.size) [.int .i64 (s.last + 1), .slice ao s.items.length cap]], [Res.cells (k7) [.int .i64 (s.last + 1), .string m.fu, .string m.fd, .slice ro m.rc.length rc, .slice q2 m.body.length d2]], [Res.row 44 4 (.slice ro m.rc.length rc) (m.rc.length) (rcNew now m.rc)], [Res.row 9 1 (.slice q2 m.body.length d2) (m.body.length) (m.body.map Value.string)], [Res.cells (w.heap.size + 1 + 1) [.int .i64 0, .slice none 0 0]], [Res.cells (w.heap.size + 1) [.string m.fu, .string m.fd, .slice a1 m.rc.length c1, .slice a2 m.body.length c2]]]) := ⟨Pt.app SH8.out hown hg (by simpa using hat)⟩
            obtain ⟨bo71, c72, rfl, _⟩ := row_value (Pt.row1 S9.out 0 rfl)
            clear hown hg hat SH8 OW8 SR8
            refine hK.out _ _ ⟨(S9.out.cellsM 3 rfl).c 0 _ rfl, (S9.out.cellsM 3 rfl).c 1 _ rfl, (S9.out.cellsM 3 rfl).c 2 _ rfl, (S9.out.cellsM 3 rfl).c 3 _ rfl, (S9.out.cellsM 3 rfl).c 4 _ rfl⟩ (fun hHeld => ?_)
            clear hK K
            try simp only [Act.put, List.getElem_toArray, List.getElem_cons_succ, List.getElem_cons_zero, List.setIfInBounds_toArray, List.set_cons_zero, List.set_cons_succ]
            refine wpAnyH_ready (rs := [6]) (by kernel_rfl) (by simp) ?_
            refine AllReadyH.cons rfl (fun K hK => ?_) AllReadyH.nil
            have SH9 : Seal (Pt w u70 [[Res.row 42 5 (.slice bo71 (s.items.length) c72) (s.items.length) (itemE.all s.items ps)], [Res.row 42 5 (.slice (some ⟨w5.heap.size, 0, none⟩) 1 1) (1) ([.int .i64 (s.last + 1), .string m.fu, .string m.fd, .slice ro m.rc.length rc, .slice q2 m.body.length d2])], [Res.cells (w.heap.size) [.int .i64 (s.last + 1), .slice ao s.items.length cap]], [Res.cells (k7) [.int .i64 (s.last + 1), .string m.fu, .string m.fd, .slice ro m.rc.length rc, .slice q2 m.body.length d2]], [Res.row 44 4 (.slice ro m.rc.length rc) (m.rc.length) (rcNew now m.rc)], [Res.row 9 1 (.slice q2 m.body.length d2) (m.body.length) (m.body.map Value.string)], [Res.cells (w.heap.size + 1 + 1) [.int .i64 0, .slice none 0 0]], [Res.cells (w.heap.size + 1) [.string m.fu, .string m.fd, .slice a1 m.rc.length c1, .slice a2 m.body.length c2]]]) := ⟨S9.out.bring 0 rfl⟩
            have OW9 : Seal _ := ⟨Pt.row1 SH9.out 0 rfl⟩
            have SR9 : Seal _ := ⟨(Pt.row1 S9.out 1 rfl)⟩
            refine step_append_any rfl _ _ 23 rfl 0 42 iItem (.agg #[.int .i64 0, .string ByteArray.empty, .string ByteArray.empty, .slice none 0 0, .slice none 0 0]) 5 88 Tryd.underlying23 hiItem hz0Item hz1Item hz2Item rfl (by decide) (.slice bo71 (s.items.length) c72) (s.items.length) (itemE.all s.items ps) (by rfl) OW9.out ((some ⟨w5.heap.size, 0, none⟩)) (1) (1) ([.int .i64 (s.last + 1), .string m.fu, .string m.fd, .slice ro m.rc.length rc, .slice q2 m.body.length d2]) (by rfl) SR9.out (by first | exact items_all_one _ _ | (intro u hu; simp only [List.mem_cons, List.not_mem_nil, or_false] at hu; rcases hu with rfl | rfl | rfl | rfl | rfl <;> rfl)) (by unfold maxLen; omega) (by omega) (Nat.zero_le _) ?_
            intro v73 u74 hown hg hat
            have S10 : Seal (Pt w u74 [[Res.row 42 5 (v73) (s.items.length + 1) (itemE.all s.items ps ++ [.int .i64 (s.last + 1), .string m.fu, .string m.fd, .slice ro m.rc.length rc, .slice q2 m.body.length d2])], [Res.row 42 5 (.slice (some ⟨w5.heap.size, 0, none⟩) 1 1) (1) ([.int .i64 (s.last + 1), .string m.fu, .string m.fd, .slice ro m.rc.length rc, .slice q2 m.body.length d2])], [Res.cells (w.heap.size) [.int .i64 (s.last + 1), .slice ao s.items.length cap]], [Res.cells (k7) [.int .i64 (s.last + 1), .string m.fu, .string m.fd, .slice ro m.rc.length rc, .slice q2 m.body.length d2]], [Res.row 44 4 (.slice ro m.rc.length rc) (m.rc.length) (rcNew now m.rc)], [Res.row 9 1 (.slice q2 m.body.length d2) (m.body.length) (m.body.map Value.string)], [Res.cells (w.heap.size + 1 + 1) [.int .i64 0, .slice none 0 0]], [Res.cells (w.heap.size + 1) [.string m.fu, .string m.fd, .slice a1 m.rc.length c1, .slice a2 m.body.length c2]]]) := ⟨Pt.app SH9.out hown hg (by simpa using hat)⟩
            obtain ⟨bo75, c76, rfl, _⟩ := row_value (Pt.row1 S10.out 0 rfl)
            clear hown hg hat SH9 OW9 SR9
            refine hK.out _ _ ⟨(S10.out.cellsM 3 rfl).c 0 _ rfl, (S10.out.cellsM 3 rfl).c 1 _ rfl, (S10.out.cellsM 3 rfl).c 2 _ rfl, (S10.out.cellsM 3 rfl).c 3 _ rfl, (S10.out.cellsM 3 rfl).c 4 _ rfl⟩ (fun hHeld => ?_)
            clear hK K
            try simp only [Act.put, List.getElem_toArray, List.getElem_cons_succ, List.getElem_cons_zero, List.setIfInBounds_toArray, List.set_cons_zero, List.set_cons_succ]
            refine tkH 7 (by assumption) (h := ?_)
            refine wpAnyH_ready (rs := [8]) (by kernel_rfl) (by simp) ?_
            refine AllReadyH.cons rfl (fun K hK => ?_) AllReadyH.nil
            have S11 : Seal (Pt w u74 [[Res.cells (w.heap.size) [.int .i64 (s.last + 1), .slice ao s.items.length cap]], [Res.row 42 5 (.slice bo75 (s.items.length + 1) c76) (s.items.length + 1) (itemE.all s.items ps ++ [.int .i64 (s.last + 1), .string m.fu, .string m.fd, .slice ro m.rc.length rc, .slice q2 m.body.length d2])], [Res.row 42 5 (.slice (some ⟨w5.heap.size, 0, none⟩) 1 1) (1) ([.int .i64 (s.last + 1), .string m.fu, .string m.fd, .slice ro m.rc.length rc, .slice q2 m.body.length d2])], [Res.cells (k7) [.int .i64 (s.last + 1), .string m.fu, .string m.fd, .slice ro m.rc.length rc, .slice q2 m.body.length d2]], [Res.row 44 4 (.slice ro m.rc.length rc) (m.rc.length) (rcNew now m.rc)], [Res.row 9 1 (.slice q2 m.body.length d2) (m.body.length) (m.body.map Value.string)], [Res.cells (w.heap.size + 1 + 1) [.int .i64 0, .slice none 0 0]], [Res.cells (w.heap.size + 1) [.string m.fu, .string m.fd, .slice a1 m.rc.length c1, .slice a2 m.body.length c2]]]) := ⟨S10.out.bring 2 rfl⟩
            have oc0 := (S11.out.cellsM 0 rfl).c 1 _ rfl
            have of0 := (S11.out.cellsM 0 rfl).f 1 (by simp)
            have S12 : Seal (Pt w (u74.setCell ⟨w.heap.size, 1, none⟩ (.slice bo75 (s.items.length + 1) c76)) [[Res.cells (w.heap.size) [.int .i64 (s.last + 1), .slice bo75 (s.items.length + 1) c76]], [Res.row 42 5 (.slice bo75 (s.items.length + 1) c76) (s.items.length + 1) (itemE.all s.items ps ++ [.int .i64 (s.last + 1), .string m.fu, .string m.fd, .slice ro m.rc.length rc, .slice q2 m.body.length d2])], [Res.row 42 5 (.slice (some ⟨w5.heap.size, 0, none⟩) 1 1) (1) ([.int .i64 (s.last + 1), .string m.fu, .string m.fd, .slice ro m.rc.length rc, .slice q2 m.body.length d2])], [Res.cells (k7) [.int .i64 (s.last + 1), .string m.fu, .string m.fd, .slice ro m.rc.length rc, .slice q2 m.body.length d2]], [Res.row 44 4 (.slice ro m.rc.length rc) (m.rc.length) (rcNew now m.rc)], [Res.row 9 1 (.slice q2 m.body.length d2) (m.body.length) (m.body.map Value.string)], [Res.cells (w.heap.size + 1 + 1) [.int .i64 0, .slice none 0 0]], [Res.cells (w.heap.size + 1) [.string m.fu, .string m.fd, .slice a1 m.rc.length c1, .slice a2 m.body.length c2]]]) := ⟨(S11.out).set 1 (.slice bo75 (s.items.length + 1) c76) (by simp)⟩
            go_simp
            refine hK.out _ _ ⟨(S12.out.cellsM 3 rfl).c 0 _ rfl, (S12.out.cellsM 3 rfl).c 1 _ rfl, (S12.out.cellsM 3 rfl).c 2 _ rfl, (S12.out.cellsM 3 rfl).c 3 _ rfl, (S12.out.cellsM 3 rfl).c 4 _ rfl⟩ (fun hHeld => ?_)
            clear hK K
            try simp only [Act.put, List.getElem_toArray, List.getElem_cons_succ, List.getElem_cons_zero, List.setIfInBounds_toArray, List.set_cons_zero, List.set_cons_succ]
            clear oc0 of0
            refine wpAnyH_done (by kernel_rfl) ?_ _
            go_wp2_with fail
            go_meet
            exact ⟨bo75, c76, (Pt.prefix (As := [[Res.cells (w.heap.size) [.int .i64 (s.last + 1), .slice bo75 (s.items.length + 1) c76]], [Res.row 42 5 (.slice bo75 (s.items.length + 1) c76) (s.items.length + 1) (itemE.all s.items ps ++ [.int .i64 (s.last + 1), .string m.fu, .string m.fd, .slice ro m.rc.length rc, .slice q2 m.body.length d2])], [Res.cells (k7) [.int .i64 (s.last + 1), .string m.fu, .string m.fd, .slice ro m.rc.length rc, .slice q2 m.body.length d2]], [Res.row 44 4 (.slice ro m.rc.length rc) (m.rc.length) (rcNew now m.rc)], [Res.row 9 1 (.slice q2 m.body.length d2) (m.body.length) (m.body.map Value.string)], [Res.cells (w.heap.size + 1) [.string m.fu, .string m.fd, .slice a1 m.rc.length c1, .slice a2 m.body.length c2]], [Res.cells (w.heap.size + 1 + 1) [.int .i64 0, .slice none 0 0]]]) (Bs := [[Res.row 42 5 (.slice (some ⟨w5.heap.size, 0, none⟩) 1 1) (1) ([.int .i64 (s.last + 1), .string m.fu, .string m.fd, .slice ro m.rc.length rc, .slice q2 m.body.length d2])]]) (Pt.bring ((Pt.bring ((Pt.bring ((Pt.bring ((Pt.bring ((Pt.bring ((Pt.bring (S12.out) 6 rfl)) 7 rfl)) 7 rfl)) 7 rfl)) 7 rfl)) 6 rfl)) 6 rfl))⟩
          · have ol0 := (S7.out.cellsM 1 rfl).c 1 _ rfl
            go_simp
            refine hK.out _ _ ⟨(S7.out.cellsM 2 rfl).c 0 _ rfl, (S7.out.cellsM 2 rfl).c 1 _ rfl, (S7.out.cellsM 2 rfl).c 2 _ rfl, (S7.out.cellsM 2 rfl).c 3 _ rfl, (S7.out.cellsM 2 rfl).c 4 _ rfl⟩ (fun hHeld => ?_)
            clear hK K
            try simp only [Act.put, List.getElem_toArray, List.getElem_cons_succ, List.getElem_cons_zero, List.setIfInBounds_toArray, List.set_cons_zero, List.set_cons_succ]
            clear ol0
            refine wpAnyH_ready (rs := [0]) (by kernel_rfl) (by simp) ?_
            refine AllReadyH.cons rfl (fun K hK => ?_) AllReadyH.nil
            have S8 : Seal (Pt w ((w5.alloc (.cells #[.int .i64 (s.last + 1), .string m.fu, .string m.fd, .slice ro m.rc.length rc, .slice q2 m.body.length d2] 42)).alloc (.cells #[] 42)).drew [[Res.row 42 5 (.slice (some ⟨w5.heap.size + 1, 0, none⟩) 0 0) (0) ([])], [Res.row 42 5 (.slice (some ⟨w5.heap.size, 0, none⟩) 1 1) (1) ([.int .i64 (s.last + 1), .string m.fu, .string m.fd, .slice ro m.rc.length rc, .slice q2 m.body.length d2])], [Res.cells (w.heap.size) [.int .i64 (s.last + 1), .slice ao s.items.length cap]], [Res.cells (k7) [.int .i64 (s.last + 1), .string m.fu, .string m.fd, .slice ro m.rc.length rc, .slice q2 m.body.length d2]], [Res.row 44 4 (.slice ro m.rc.length rc) (m.rc.length) (rcNew now m.rc)], [Res.row 9 1 (.slice q2 m.body.length d2) (m.body.length) (m.body.map Value.string)], [Res.cells (w.heap.size + 1 + 1) [.int .i64 0, .slice none 0 0]], [Res.cells (w.heap.size + 1) [.string m.fu, .string m.fd, .slice a1 m.rc.length c1, .slice a2 m.body.length c2]]]) := ⟨by have h := Pt.built S7.out #[] 42 5 0 (by decide) rfl; simp only [World.size_alloc, World.size_drew'] at h; exact h⟩
            go_simp
            refine hK.out _ _ ⟨(S8.out.cellsM 3 rfl).c 0 _ rfl, (S8.out.cellsM 3 rfl).c 1 _ rfl, (S8.out.cellsM 3 rfl).c 2 _ rfl, (S8.out.cellsM 3 rfl).c 3 _ rfl, (S8.out.cellsM 3 rfl).c 4 _ rfl⟩ (fun hHeld => ?_)
            clear hK K
            try simp only [Act.put, List.getElem_toArray, List.getElem_cons_succ, List.getElem_cons_zero, List.setIfInBounds_toArray, List.set_cons_zero, List.set_cons_succ]
            refine wpAnyH_ready (rs := [3]) (by kernel_rfl) (by simp) ?_
            refine AllReadyH.cons rfl (fun K hK => ?_) AllReadyH.nil
            have SH8 : Seal (Pt w ((w5.alloc (.cells #[.int .i64 (s.last + 1), .string m.fu, .string m.fd, .slice ro m.rc.length rc, .slice q2 m.body.length d2] 42)).alloc (.cells #[] 42)).drew [[Res.row 42 5 (.slice (some ⟨w5.heap.size + 1, 0, none⟩) 0 0) (0) ([])], [Res.row 42 5 (.slice (some ⟨w5.heap.size, 0, none⟩) 1 1) (1) ([.int .i64 (s.last + 1), .string m.fu, .string m.fd, .slice ro m.rc.length rc, .slice q2 m.body.length d2])], [Res.cells (w.heap.size) [.int .i64 (s.last + 1), .slice ao s.items.length cap]], [Res.cells (k7) [.int .i64 (s.last + 1), .string m.fu, .string m.fd, .slice ro m.rc.length rc, .slice q2 m.body.length d2]], [Res.row 44 4 (.slice ro m.rc.length rc) (m.rc.length) (rcNew now m.rc)], [Res.row 9 1 (.slice q2 m.body.length d2) (m.body.length) (m.body.map Value.string)], [Res.cells (w.heap.size + 1 + 1) [.int .i64 0, .slice none 0 0]], [Res.cells (w.heap.size + 1) [.string m.fu, .string m.fd, .slice a1 m.rc.length c1, .slice a2 m.body.length c2]]]) := ⟨S8.out.bring 0 rfl⟩
            have OW8 : Seal _ := ⟨Pt.row1 SH8.out 0 rfl⟩
            have SR8 : Seal _ := ⟨((HS.out.later S8.out.below).get List.mem_cons_self)⟩
            refine step_append_first rfl _ _ 23 rfl 0 42 iItem (.agg #[.int .i64 0, .string ByteArray.empty, .string ByteArray.empty, .slice none 0 0, .slice none 0 0]) 5 88 Tryd.underlying23 hiItem hz0Item hz1Item hz2Item rfl (by decide) (.slice (some ⟨w5.heap.size + 1, 0, none⟩) 0 0) (by rfl) OW8.out (ao) (s.items.length) (cap) (itemE.all s.items ps) (by rfl) SR8.out (by first | exact items_all_one _ _ | (intro u hu; simp only [List.mem_cons, List.not_mem_nil, or_false] at hu; rcases hu with rfl | rfl | rfl | rfl | rfl <;> rfl)) (by unfold maxLen; omega) (by omega) (Nat.zero_le _) ?_
            intro v77 u78 hown hg hat
            have S9 : Seal (Pt w u78 [[Res.row 42 5 (v77) (s.items.length) (itemE.all s.items ps)], [Res.row 42 5 (.slice (some ⟨w5.heap.size, 0, none⟩) 1 1) (1) ([.int .i64 (s.last + 1), .string m.fu, .string m.fd, .slice ro m.rc.length rc, .slice q2 m.body.length d2])], [Res.cells (w.heap.size) [.int .i64 (s.last + 1), .slice ao s.items.length cap]], [Res.cells (k7) [.int .i64 (s.last + 1), .string m.fu, .string m.fd, .slice ro m.rc.length rc, .slice q2 m.body.length d2]], [Res.row 44 4 (.slice ro m.rc.length rc) (m.rc.length) (rcNew now m.rc)], [Res.row 9 1 (.slice q2 m.body.length d2) (m.body.length) (m.body.map Value.string)], [Res.cells (w.heap.size + 1 + 1) [.int .i64 0, .slice none 0 0]], [Res.cells (w.heap.size + 1) [.string m.fu, .string m.fd, .slice a1 m.rc.length c1, .slice a2 m.body.length c2]]]) := ⟨Pt.app SH8.out hown hg (by simpa using hat)⟩
            obtain ⟨bo79, c80, rfl, _⟩ := row_value (Pt.row1 S9.out 0 rfl)
            clear hown hg hat SH8 OW8 SR8
            refine hK.out _ _ ⟨(S9.out.cellsM 3 rfl).c 0 _ rfl, (S9.out.cellsM 3 rfl).c 1 _ rfl, (S9.out.cellsM 3 rfl).c 2 _ rfl, (S9.out.cellsM 3 rfl).c 3 _ rfl, (S9.out.cellsM 3 rfl).c 4 _ rfl⟩ (fun hHeld => ?_)
            clear hK K
            try simp only [Act.put, List.getElem_toArray, List.getElem_cons_succ, List.getElem_cons_zero, List.setIfInBounds_toArray, List.set_cons_zero, List.set_cons_succ]
            refine wpAnyH_ready (rs := [6]) (by kernel_rfl) (by simp) ?_
            refine AllReadyH.cons rfl (fun K hK => ?_) AllReadyH.nil
            have SH9 : Seal (Pt w u78 [[Res.row 42 5 (.slice bo79 (s.items.length) c80) (s.items.length) (itemE.all s.items ps)], [Res.row 42 5 (.slice (some ⟨w5.heap.size, 0, none⟩) 1 1) (1) ([.int .i64 (s.last + 1), .string m.fu, .string m.fd, .slice ro m.rc.length rc, .slice q2 m.body.length d2])], [Res.cells (w.heap.size) [.int .i64 (s.last + 1), .slice ao s.items.length cap]], [Res.cells (k7) [.int .i64 (s.last + 1), .string m.fu, .string m.fd, .slice ro m.rc.length rc, .slice q2 m.body.length d2]], [Res.row 44 4 (.slice ro m.rc.length rc) (m.rc.length) (rcNew now m.rc)], [Res.row 9 1 (.slice q2 m.body.length d2) (m.body.length) (m.body.map Value.string)], [Res.cells (w.heap.size + 1 + 1) [.int .i64 0, .slice none 0 0]], [Res.cells (w.heap.size + 1) [.string m.fu, .string m.fd, .slice a1 m.rc.length c1, .slice a2 m.body.length c2]]]) := ⟨S9.out.bring 0 rfl⟩
            have OW9 : Seal _ := ⟨Pt.row1 SH9.out 0 rfl⟩
            have SR9 : Seal _ := ⟨(Pt.row1 S9.out 1 rfl)⟩
            refine step_append_any rfl _ _ 23 rfl 0 42 iItem (.agg #[.int .i64 0, .string ByteArray.empty, .string ByteArray.empty, .slice none 0 0, .slice none 0 0]) 5 88 Tryd.underlying23 hiItem hz0Item hz1Item hz2Item rfl (by decide) (.slice bo79 (s.items.length) c80) (s.items.length) (itemE.all s.items ps) (by rfl) OW9.out ((some ⟨w5.heap.size, 0, none⟩)) (1) (1) ([.int .i64 (s.last + 1), .string m.fu, .string m.fd, .slice ro m.rc.length rc, .slice q2 m.body.length d2]) (by rfl) SR9.out (by first | exact items_all_one _ _ | (intro u hu; simp only [List.mem_cons, List.not_mem_nil, or_false] at hu; rcases hu with rfl | rfl | rfl | rfl | rfl <;> rfl)) (by unfold maxLen; omega) (by omega) (Nat.zero_le _) ?_
            intro v81 u82 hown hg hat
            have S10 : Seal (Pt w u82 [[Res.row 42 5 (v81) (s.items.length + 1) (itemE.all s.items ps ++ [.int .i64 (s.last + 1), .string m.fu, .string m.fd, .slice ro m.rc.length rc, .slice q2 m.body.length d2])], [Res.row 42 5 (.slice (some ⟨w5.heap.size, 0, none⟩) 1 1) (1) ([.int .i64 (s.last + 1), .string m.fu, .string m.fd, .slice ro m.rc.length rc, .slice q2 m.body.length d2])], [Res.cells (w.heap.size) [.int .i64 (s.last + 1), .slice ao s.items.length cap]], [Res.cells (k7) [.int .i64 (s.last + 1), .string m.fu, .string m.fd, .slice ro m.rc.length rc, .slice q2 m.body.length d2]], [Res.row 44 4 (.slice ro m.rc.length rc) (m.rc.length) (rcNew now m.rc)], [Res.row 9 1 (.slice q2 m.body.length d2) (m.body.length) (m.body.map Value.string)], [Res.cells (w.heap.size + 1 + 1) [.int .i64 0, .slice none 0 0]], [Res.cells (w.heap.size + 1) [.string m.fu, .string m.fd, .slice a1 m.rc.length c1, .slice a2 m.body.length c2]]]) := ⟨Pt.app SH9.out hown hg (by simpa using hat)⟩
            obtain ⟨bo83, c84, rfl, _⟩ := row_value (Pt.row1 S10.out 0 rfl)
            clear hown hg hat SH9 OW9 SR9
            refine hK.out _ _ ⟨(S10.out.cellsM 3 rfl).c 0 _ rfl, (S10.out.cellsM 3 rfl).c 1 _ rfl, (S10.out.cellsM 3 rfl).c 2 _ rfl, (S10.out.cellsM 3 rfl).c 3 _ rfl, (S10.out.cellsM 3 rfl).c 4 _ rfl⟩ (fun hHeld => ?_)
            clear hK K
            try simp only [Act.put, List.getElem_toArray, List.getElem_cons_succ, List.getElem_cons_zero, List.setIfInBounds_toArray, List.set_cons_zero, List.set_cons_succ]
            refine tkH 7 (by assumption) (h := ?_)
            refine wpAnyH_ready (rs := [8]) (by kernel_rfl) (by simp) ?_
            refine AllReadyH.cons rfl (fun K hK => ?_) AllReadyH.nil
            have S11 : Seal (Pt w u82 [[Res.cells (w.heap.size) [.int .i64 (s.last + 1), .slice ao s.items.length cap]], [Res.row 42 5 (.slice bo83 (s.items.length + 1) c84) (s.items.length + 1) (itemE.all s.items ps ++ [.int .i64 (s.last + 1), .string m.fu, .string m.fd, .slice ro m.rc.length rc, .slice q2 m.body.length d2])], [Res.row 42 5 (.slice (some ⟨w5.heap.size, 0, none⟩) 1 1) (1) ([.int .i64 (s.last + 1), .string m.fu, .string m.fd, .slice ro m.rc.length rc, .slice q2 m.body.length d2])], [Res.cells (k7) [.int .i64 (s.last + 1), .string m.fu, .string m.fd, .slice ro m.rc.length rc, .slice q2 m.body.length d2]], [Res.row 44 4 (.slice ro m.rc.length rc) (m.rc.length) (rcNew now m.rc)], [Res.row 9 1 (.slice q2 m.body.length d2) (m.body.length) (m.body.map Value.string)], [Res.cells (w.heap.size + 1 + 1) [.int .i64 0, .slice none 0 0]], [Res.cells (w.heap.size + 1) [.string m.fu, .string m.fd, .slice a1 m.rc.length c1, .slice a2 m.body.length c2]]]) := ⟨S10.out.bring 2 rfl⟩
            have oc0 := (S11.out.cellsM 0 rfl).c 1 _ rfl
            have of0 := (S11.out.cellsM 0 rfl).f 1 (by simp)
            have S12 : Seal (Pt w (u82.setCell ⟨w.heap.size, 1, none⟩ (.slice bo83 (s.items.length + 1) c84)) [[Res.cells (w.heap.size) [.int .i64 (s.last + 1), .slice bo83 (s.items.length + 1) c84]], [Res.row 42 5 (.slice bo83 (s.items.length + 1) c84) (s.items.length + 1) (itemE.all s.items ps ++ [.int .i64 (s.last + 1), .string m.fu, .string m.fd, .slice ro m.rc.length rc, .slice q2 m.body.length d2])], [Res.row 42 5 (.slice (some ⟨w5.heap.size, 0, none⟩) 1 1) (1) ([.int .i64 (s.last + 1), .string m.fu, .string m.fd, .slice ro m.rc.length rc, .slice q2 m.body.length d2])], [Res.cells (k7) [.int .i64 (s.last + 1), .string m.fu, .string m.fd, .slice ro m.rc.length rc, .slice q2 m.body.length d2]], [Res.row 44 4 (.slice ro m.rc.length rc) (m.rc.length) (rcNew now m.rc)], [Res.row 9 1 (.slice q2 m.body.length d2) (m.body.length) (m.body.map Value.string)], [Res.cells (w.heap.size + 1 + 1) [.int .i64 0, .slice none 0 0]], [Res.cells (w.heap.size + 1) [.string m.fu, .string m.fd, .slice a1 m.rc.length c1, .slice a2 m.body.length c2]]]) := ⟨(S11.out).set 1 (.slice bo83 (s.items.length + 1) c84) (by simp)⟩
            go_simp
            refine hK.out _ _ ⟨(S12.out.cellsM 3 rfl).c 0 _ rfl, (S12.out.cellsM 3 rfl).c 1 _ rfl, (S12.out.cellsM 3 rfl).c 2 _ rfl, (S12.out.cellsM 3 rfl).c 3 _ rfl, (S12.out.cellsM 3 rfl).c 4 _ rfl⟩ (fun hHeld => ?_)
            clear hK K
            try simp only [Act.put, List.getElem_toArray, List.getElem_cons_succ, List.getElem_cons_zero, List.setIfInBounds_toArray, List.set_cons_zero, List.set_cons_succ]
            clear oc0 of0
            refine wpAnyH_done (by kernel_rfl) ?_ _
            go_wp2_with fail
            go_meet
            exact ⟨bo83, c84, (Pt.prefix (As := [[Res.cells (w.heap.size) [.int .i64 (s.last + 1), .slice bo83 (s.items.length + 1) c84]], [Res.row 42 5 (.slice bo83 (s.items.length + 1) c84) (s.items.length + 1) (itemE.all s.items ps ++ [.int .i64 (s.last + 1), .string m.fu, .string m.fd, .slice ro m.rc.length rc, .slice q2 m.body.length d2])], [Res.cells (k7) [.int .i64 (s.last + 1), .string m.fu, .string m.fd, .slice ro m.rc.length rc, .slice q2 m.body.length d2]], [Res.row 44 4 (.slice ro m.rc.length rc) (m.rc.length) (rcNew now m.rc)], [Res.row 9 1 (.slice q2 m.body.length d2) (m.body.length) (m.body.map Value.string)], [Res.cells (w.heap.size + 1) [.string m.fu, .string m.fd, .slice a1 m.rc.length c1, .slice a2 m.body.length c2]], [Res.cells (w.heap.size + 1 + 1) [.int .i64 0, .slice none 0 0]]]) (Bs := [[Res.row 42 5 (.slice (some ⟨w5.heap.size, 0, none⟩) 1 1) (1) ([.int .i64 (s.last + 1), .string m.fu, .string m.fd, .slice ro m.rc.length rc, .slice q2 m.body.length d2])]]) (Pt.bring ((Pt.bring ((Pt.bring ((Pt.bring ((Pt.bring ((Pt.bring ((Pt.bring (S12.out) 6 rfl)) 7 rfl)) 7 rfl)) 7 rfl)) 7 rfl)) 6 rfl)) 6 rfl))⟩
      case rest =>
      obtain ⟨bo, c, hS⟩ := hcut
      have S9 : Seal (Pt w wc [[Res.cells w.heap.size [.int .i64 (s.last + 1), .slice bo (s.items.length + 1) c]], [Res.row 42 5 (.slice bo (s.items.length + 1) c) (s.items.length + 1) (itemE.all s.items ps ++ [.int .i64 (s.last + 1), .string m.fu, .string m.fd, .slice ro m.rc.length rc, .slice q2 m.body.length d2])], [Res.cells (k7) [.int .i64 (s.last + 1), .string m.fu, .string m.fd, .slice ro m.rc.length rc, .slice q2 m.body.length d2]], [Res.row 44 4 (.slice ro m.rc.length rc) (m.rc.length) (rcNew now m.rc)], [Res.row 9 1 (.slice q2 m.body.length d2) (m.body.length) (m.body.map Value.string)], [Res.cells (w.heap.size + 1) [.string m.fu, .string m.fd, .slice a1 m.rc.length c1, .slice a2 m.body.length c2]], [Res.cells (w.heap.size + 1 + 1) [.int .i64 0, .slice none 0 0]]]) := ⟨hS⟩
      clear hS
      generalize wc = w6 at *
      have u0 := (S9.out.cellsM 0 rfl).c 0 _ rfl
      have u1 := (S9.out.cellsM 0 rfl).c 1 _ rfl
      have r0 := (S9.out.cellsM 6 rfl).c 0 _ rfl
      have r1 := (S9.out.cellsM 6 rfl).c 1 _ rfl
      have h0' := (S9.out.cellsM 6 rfl).f 0 (by simp)
      have h1' := (S9.out.cellsM 6 rfl).f 1 (by simp)
      go_wp2
      have e9 : (addD s m now).items.length = s.items.length + 1 := by simp [addD]
      refine bodyPost_ret (v := .agg #[.int .i64 (s.last + 1), .slice bo (s.items.length + 1) c]) (by simp [results, Tryd.results97, go_sem, r0, r1]) rfl ⟨bo, c, ⟨ro, rc, q2, d2⟩, by show _ = Ending.returned (.agg #[.int .i64 (s.last + 1), .slice bo (addD s m now).items.length c]); rw [e9], ?_⟩
      have s4 := ((S9.out.bring 6 rfl).set 0 (.int .i64 (s.last + 1)) (by simp)).set 1 (.slice bo (s.items.length + 1) c) (by simp)
      have s5 := ((s4.tail.bring 4 rfl).bring 4 rfl).bring 3 rfl
      have k5 : St w _ [Res.row 42 5 (.slice bo (s.items.length + 1) c) (s.items.length + 1) (itemE.all s.items ps ++ [.int .i64 (s.last + 1), .string m.fu, .string m.fd, .slice ro m.rc.length rc, .slice q2 m.body.length d2]), Res.row 44 4 (.slice ro m.rc.length rc) m.rc.length (rcNew now m.rc), Res.row 9 1 (.slice q2 m.body.length d2) m.body.length (m.body.map Value.string)] := Pt.prefix (As := [[Res.row 42 5 (.slice bo (s.items.length + 1) c) (s.items.length + 1) (itemE.all s.items ps ++ [.int .i64 (s.last + 1), .string m.fu, .string m.fd, .slice ro m.rc.length rc, .slice q2 m.body.length d2])], [Res.row 44 4 (.slice ro m.rc.length rc) m.rc.length (rcNew now m.rc)], [Res.row 9 1 (.slice q2 m.body.length d2) m.body.length (m.body.map Value.string)]]) (Bs := [[Res.cells (w.heap.size) [.int .i64 (s.last + 1), .slice bo (s.items.length + 1) c]], [Res.cells (k7) [.int .i64 (s.last + 1), .string m.fu, .string m.fd, .slice ro m.rc.length rc, .slice q2 m.body.length d2]], [Res.cells (w.heap.size + 1) [.string m.fu, .string m.fd, .slice a1 m.rc.length c1, .slice a2 m.body.length c2]]]) s5
      have k6 := StX.join (StX.tail HS.out) k5
      have hc : itemE.cells (newItemD (s.last + 1) m now) ⟨ro, rc, q2, d2⟩ = [.int .i64 (s.last + 1), .string m.fu, .string m.fd, .slice ro m.rc.length rc, .slice q2 m.body.length d2] := by
        show [Value.int .i64 (s.last + 1), .string m.fu, .string m.fd, .slice ro (m.rc.map (newRcpt now)).length rc, .slice q2 m.body.length d2] = _
        rw [List.length_map]
      have hr : itemE.res (newItemD (s.last + 1) m now) ⟨ro, rc, q2, d2⟩ = [Res.row 44 4 (.slice ro m.rc.length rc) m.rc.length (rcNew now m.rc), Res.row 9 1 (.slice q2 m.body.length d2) m.body.length (m.body.map Value.string)] := by
        show [Res.row 44 4 (.slice ro (m.rc.map (newRcpt now)).length rc) (m.rc.map (newRcpt now)).length (rcNew now m.rc), Res.row 9 1 (.slice q2 m.body.length d2) m.body.length (m.body.map Value.string)] = _
        rw [List.length_map]
      have e1 : itemsR bo c (addD s m now).items (ps ++ [⟨ro, rc, q2, d2⟩]) = Res.row 42 5 (.slice bo (s.items.length + 1) c) (s.items.length + 1) (itemE.all s.items ps ++ [.int .i64 (s.last + 1), .string m.fu, .string m.fd, .slice ro m.rc.length rc, .slice q2 m.body.length d2]) :: (itemE.ress s.items ps ++ [Res.row 44 4 (.slice ro m.rc.length rc) m.rc.length (rcNew now m.rc), Res.row 9 1 (.slice q2 m.body.length d2) m.body.length (m.body.map Value.string)]) := by
        unfold addD itemsR Elem.row
        dsimp only
        rw [itemE.all_snoc HL.out, itemE.ress_snoc HL.out, hc, hr, List.length_append, List.length_singleton]
        rfl
      rw [e1]
      refine k6.perm (List.Perm.cons _ ?_)
      show ([Res.row 44 4 (.slice ro m.rc.length rc) m.rc.length (rcNew now m.rc), Res.row 9 1 (.slice q2 m.body.length d2) m.body.length (m.body.map Value.string)] ++ (itemE.ress s.items ps ++ l)).Perm ((itemE.ress s.items ps ++ [Res.row 44 4 (.slice ro m.rc.length rc) m.rc.length (rcNew now m.rc), Res.row 9 1 (.slice q2 m.body.length d2) m.body.length (m.body.map Value.string)]) ++ l)
      rw [← List.append_assoc]
      exact List.perm_append_comm.append_right l
end Go.Proofs.YtcaknjdolfheaaaDoor
namespace Go.Proofs.YtcaknjdolfheaaaDoor
open Go Go.RowKit

theorem ret_sb {v : Array Value} {D : SpoolD} {p : SpoolP} {q : Bool} {e : SpoolD × Bool} (h : e = (D, q)) (hv : v = spoolKV D p) : Ending.returned (.tuple #[.agg v, .bool q]) = .returned (.tuple #[.agg (spoolKV e.1 p), .bool e.2]) := by rw [h, hv]
theorem Pt.only {w0 w : World} {R : List Res} (h : Pt w0 w [R]) : St w0 w R := by
  have h' : St w0 w (R ++ []) := h
  rwa [List.append_nil] at h'
theorem noSpool_parts (w : World) : St w w (spoolKR noSpoolD ⟨none, 0, []⟩) := (St.start w).nothing 42 5

end Go.Proofs.YtcaknjdolfheaaaDoor
namespace Go.Proofs.YtcaknjdolfheaaaDoor
open Go Go.RowKit

theorem Pt.rowAdd {w0 w w' : World} {Ls : List (List Res)} (h : Pt w0 w Ls) (hb : Below w.heap.size w w') {e : TypeId} {size : Nat} {v : Value} {n : Nat} {xs : List Value} (ho : w'.ownsRow w.heap.size e size v n xs) : Pt w0 w' ([Res.row e size v n xs] :: Ls) := StX.row (l := Ls.flatten) h hb ho

end Go.Proofs.YtcaknjdolfheaaaDoor
namespace Go.Proofs.YtcaknjdolfheaaaDoor
open Go Go.RowKit

theorem full_no {s : SpoolD} {m : MailD} {now : Int} (h : roomB s = false) : mayAdd s m now = false := by unfold mayAdd; rw [h]; simp
theorem time_no {s : SpoolD} {m : MailD} {now : Int} (h : inB now 0 9999 = false) : mayAdd s m now = false := by unfold mayAdd timeB; rw [h]; simp
theorem mail_no {s : SpoolD} {m : MailD} {now : Int} (h : mailB m = false) : mayAdd s m now = false := by unfold mayAdd; rw [h]; rfl

end Go.Proofs.YtcaknjdolfheaaaDoor
