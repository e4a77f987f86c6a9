/- Appends, PlainSpoolDo, SpoolAddS, SpoolAddK, SpoolAddI, SpoolAddJ. -/
import Derived.Test.YtcaknjdolfheaaaGreatDoorTk
import Derived.Test.YtcaknjdolfheaaaGreatDoorSpoolCopies
import Derived.Test.YtcaknjdolfheaaaGreatDoorKindSpool
import Derived.Test.YtcaknjdolfheaaaGreatDoorSpoolMarks
import Derived.Test.YtcaknjdolfheaaaGreatDoorSpoolOks
import Derived.Deep.RegionHeld3
import Derived.Deep.DeepCutAuto
namespace Go.Proofs.YtcaknjdolfheaaaGreatDoor
open Go Go.RowKit

theorem Pt.row1 {w0 w : World} {Ls : List (List Res)} (h : Pt w0 w Ls) (i : Nat) {e : TypeId} {size n : Nat} {v : Value} {xs : List Value} (hi : Ls[i]? = some [Res.row e size v n xs]) : w.ownsRow 0 e size v n xs := h.nth i hi _ (List.mem_singleton.2 rfl)
/-- A row just built. -/
theorem Pt.built {w0 w : World} {Ls : List (List Res)} (h : Pt w0 w Ls) (cs : Array Value) (T : TypeId) (size n : Nat) (hn : n ≤ 1) (hs : cs.size = n * size) :
    Pt w0 (w.alloc (.cells cs T)) ([Res.row T size (.slice (some ⟨w.heap.size, 0, none⟩) n n) n cs.toList] :: Ls) :=
  StX.row (l := Ls.flatten) h ((Below.refl _ _).alloc (Nat.le_refl _) _) ⟨by simpa using hs, .inr ⟨w.heap.size, n, cs, rfl, Nat.le_refl _, heap_alloc_new w _, Nat.le_refl _, by unfold maxLen; omega, hs, by
    rw [← hs, ← Array.length_toList, List.take_length]⟩⟩
theorem Pt.app {w0 w w' : World} {Ls : List (List Res)} {e : TypeId} {size : Nat} {v v' : Value} {n n' B : Nat} {xs xs' : List Value} (h : Pt w0 w ([Res.row e size v n xs] :: Ls)) (ho : w'.ownsRow B e size v' n' xs') (hg : w.grownBy w' v.ownBlock) (hat : v'.ownBlock = v.ownBlock ∨ v'.ownBlock = some w.heap.size) : Pt w0 w' ([Res.row e size v' n' xs'] :: Ls) :=
  StX.app (l := Ls.flatten) h ho hg hat
theorem strs_cells_one (xs : List ByteArray) : ∀ u ∈ xs.map Value.string, u.oneCell' = true := by
  intro u hu
  obtain ⟨x, _, rfl⟩ := List.mem_map.1 hu
  rfl
theorem rcpt_cells_one (x : RcptD) : ∀ u ∈ rcptL x, u.oneCell' = true := by
  intro u hu
  simp only [rcptL, List.mem_cons, List.not_mem_nil, or_false] at hu
  rcases hu with rfl | rfl | rfl | rfl <;> rfl
theorem items_all_one (xs : List ItemD) (ps : List ItemV) : ∀ u ∈ itemE.all xs ps, u.oneCell' = true := by
  unfold Elem.all
  intro u hu
  obtain ⟨l, hl, hul⟩ := List.mem_flatten.1 hu
  obtain ⟨k, hk⟩ := List.getElem?_of_mem hl
  rw [List.getElem?_zipWith] at hk
  cases hx : xs[k]? with
  | none => rw [hx] at hk; cases hk
  | some x =>
    cases hp : ps[k]? with
    | none => rw [hx, hp] at hk; cases hk
    | some p =>
      rw [hx, hp] at hk
      have e : itemL x p = l := Option.some.inj hk
      subst e
      exact items_one x p u hul

section
variable {w : World} {ops : Array Oper} {o : Oper} {a : Act} {K : Act → World → Prop} {Q : Exit → Act → World → Prop} {E : Prop}
/-- 'append' to a row without an element. -/
theorem step_append_first (hgd : o.guard = none) (s x : Operand) (t : TypeId)
    (ho : o.op = .call { callee := .builtin .append, args := #[s, x], argTypes := #[t, t] })
    (base : Nat) (e : TypeId) (i : TypeInfo) (z : Value) (size bytes : Nat) (ht : Tryz.prog.underlying t = some (.slice e)) (hi : Tryz.prog.info? e = some i) (hz : i.zero = some z)
    (hsize : i.size = size) (hby : i.bytes = bytes) (hzs : z.cells.size = size) (hsz : 0 < size)
    (v : Value) (hs : a.eval s = v) (hown : w.ownsRow base e size v 0 [])
    (ao : Option Addr) (m c : Nat) (news : List Value) (hx : a.eval x = .slice ao m c) (hsrc : w.ownsRow 0 e size (.slice ao m c) m news) (h1 : ∀ u ∈ news, u.oneCell' = true)
    (h63 : m ≤ maxLen) (hbytes : m * bytes ≤ 140737488355328) (hbase : base ≤ w.heap.size)
    (h : ∀ v' w', w'.ownsRow base e size v' m news → w.grownBy w' v.ownBlock → (v'.ownBlock = v.ownBlock ∨ v'.ownBlock = some w.heap.size) → K (a.put o.dst v') w') :
    if Region.wanted o (yielded ops a.tmps) = true then Oper.wp Tryz.prog o a w K Q else E :=
  step_append_any hgd s x t ho base e i z size bytes ht hi hz hsize hby hzs hsz v 0 [] hs hown ao m c news hx hsrc h1 (by rw [Nat.zero_add]; exact h63) (by rw [Nat.zero_add]; exact hbytes) hbase fun v' w' q1 q2 q3 => h v' w' (by rw [Nat.zero_add, List.nil_append] at q1; exact q1) q2 q3
end
end Go.Proofs.YtcaknjdolfheaaaGreatDoor
namespace Go.Proofs.YtcaknjdolfheaaaGreatDoor
open Go

def noSpoolD : SpoolD := ⟨0, []⟩
def newRcpt (now : Int) (p : ByteArray × ByteArray) : RcptD := ⟨p.1, p.2, 0, now⟩
def newItemD (id : Int) (m : MailD) (now : Int) : ItemD := ⟨id, m.fu, m.fd, m.rc.map (newRcpt now), m.body⟩
def addD (s : SpoolD) (m : MailD) (now : Int) : SpoolD := ⟨s.last + 1, s.items ++ [newItemD (s.last + 1) m now]⟩
def timeB (now : Int) : Bool := inB now 0 9999
def roomB (s : SpoolD) : Bool := decide ((s.items.length : Int) < 10) && decide (s.last < 999)
def mayAdd (s : SpoolD) (m : MailD) (now : Int) : Bool := mailB m && (timeB now && roomB s)
def addR (s : SpoolD) (m : MailD) (now : Int) : SpoolD × Bool := if spoolB s then (if mayAdd s m now then (addD s m now, true) else (s, false)) else (noSpoolD, false)
theorem addR_bad {s : SpoolD} {m : MailD} {now : Int} (h : spoolB s = false) : addR s m now = (noSpoolD, false) := by unfold addR; rw [h]; rfl
theorem addR_no {s : SpoolD} {m : MailD} {now : Int} (h : spoolB s = true) (h1 : mayAdd s m now = false) : addR s m now = (s, false) := by unfold addR; rw [h, h1]; rfl
theorem addR_yes {s : SpoolD} {m : MailD} {now : Int} (h : spoolB s = true) (h1 : mayAdd s m now = true) : addR s m now = (addD s m now, true) := by unfold addR; rw [h, h1]; rfl

/-! ### valid mails, items and spools are small -/
theorem domN_small {s : ByteArray} (h : domB s = true) : s.size ≤ 27 := by
  unfold domB at h
  rw [Bool.and_eq_true, decide_eq_true_eq] at h
  have := pieces_small 3 s h.1
  omega
theorem addr_small {u d : ByteArray} (h : addrB u d = true) : u.size + d.size ≤ 40 := by
  unfold addrB at h
  rw [Bool.and_eq_true] at h
  have h1 := word_size h.1
  have h2 := domN_small h.2
  omega
theorem sender_small {u d : ByteArray} (h : senderB u d = true) : u.size + d.size ≤ 40 := by
  unfold senderB at h
  rw [Bool.or_eq_true] at h
  rcases h with h | h
  · unfold nullB at h
    rw [Bool.and_eq_true, Lib.toList_data, Lib.toList_data] at h
    have h1 : u.data.toList = [] := by simpa using h.1
    have h2 : d.data.toList = [] := by simpa using h.2
    have e1 : u.size = 0 := by rw [Lib.size_eq, h1]; rfl
    have e2 : d.size = 0 := by rw [Lib.size_eq, h2]; rfl
    omega
  · exact addr_small h
theorem sumN_bound {α : Type} {f : α → Nat} {xs : List α} {n : Nat} (h : ∀ x ∈ xs, f x ≤ n) : sumN f xs ≤ xs.length * n := by
  induction xs with
  | nil => simp [sumN]
  | cons x xs ih =>
    have h1 := ih fun y hy => h y (List.mem_cons_of_mem _ hy)
    have h2 := h x List.mem_cons_self
    unfold sumN at h1 ⊢
    rw [List.map_cons, List.sum_cons, List.length_cons, Nat.succ_mul]
    omega
theorem bodyN_small {xs : List ByteArray} (h : bodyB xs = true) : rowN ByteArray.size xs ≤ 500 ∧ xs.length ≤ 12 := by
  unfold bodyB at h
  rw [Bool.and_eq_true, decide_eq_true_eq, List.all_eq_true] at h
  have h1 : sumN ByteArray.size xs ≤ xs.length * 40 := sumN_bound fun x hx => by
    have := h.1 x hx
    unfold lineB at this
    rw [Bool.and_eq_true, decide_eq_true_eq] at this
    exact this.2
  rw [rowN_eq]
  omega
theorem item_small {x : ItemD} (h : mailB (itemMail x) = true) : itemN x ≤ 1000 := by
  unfold mailB at h
  rw [Bool.and_eq_true, Bool.and_eq_true] at h
  have h1 := sender_small h.1
  have h2 := (bodyN_small h.2.2).1
  have h3 := h.2.1
  unfold toB at h3
  rw [Bool.and_eq_true, Bool.and_eq_true, decide_eq_true_eq, List.all_eq_true] at h3
  have h4 : x.rc.length ≤ 4 := by simpa using h3.1.2
  have h5 : sumN rcptN x.rc ≤ x.rc.length * 40 := sumN_bound fun y hy => by
    have := h3.2.1 (rcptPair y) (List.mem_map_of_mem hy)
    exact addr_small this
  unfold itemN
  rw [rowN_eq rcptN]
  simp only at h1 h2
  omega
theorem spool_small {s : SpoolD} (h : spoolB s = true) : spoolN s ≤ 10100 ∧ s.items.length ≤ 10 ∧ 0 ≤ s.last ∧ s.last ≤ 999 := by
  unfold spoolB at h
  rw [Bool.and_eq_true, Bool.and_eq_true, Bool.and_eq_true, decide_eq_true_eq, decide_eq_true_eq, List.all_eq_true] at h
  have h1 : sumN itemN s.items ≤ s.items.length * 1000 := sumN_bound fun x hx => by
    have := h.2.2.1 x hx
    unfold itemB at this
    rw [Bool.and_eq_true] at this
    exact item_small this.1
  unfold spoolN
  rw [rowN_eq]
  have := h.2.1
  omega
theorem newItem_mail (i : Int) (m : MailD) (now : Int) : itemMail (newItemD i m now) = m := by
  obtain ⟨fu, fd, rc, body⟩ := m
  have : (rc.map (newRcpt now)).map rcptPair = rc := by
    rw [List.map_map]
    have : (rcptPair ∘ newRcpt now) = id := by funext p; rfl
    rw [this, List.map_id]
  unfold newItemD itemMail
  rw [this]
theorem sumN_app {α : Type} (f : α → Nat) (xs ys : List α) : sumN f (xs ++ ys) = sumN f xs + sumN f ys := by
  unfold sumN; rw [List.map_append, List.sum_append]
theorem addD_small {s : SpoolD} {m : MailD} {now : Int} (h : spoolB s = true) (hm : mailB m = true) : spoolN (addD s m now) ≤ 12000 := by
  have h1 := (spool_small h).1
  have h2 := item_small (x := newItemD (s.last + 1) m now) (by rw [newItem_mail]; exact hm)
  unfold spoolN addD at *
  rw [rowN_eq] at *
  dsimp only
  rw [sumN_app, List.length_append]
  have e : sumN itemN [newItemD (s.last + 1) m now] = itemN (newItemD (s.last + 1) m now) := by simp [sumN]
  rw [e, List.length_singleton]
  omega
theorem addR_sz (s : SpoolD) (m : MailD) (now : Int) (hz : spoolN s ≤ 1048576) : spoolN (addR s m now).1 ≤ 1048576 := by
  cases h : spoolB s with
  | false => rw [addR_bad h]; decide
  | true =>
    cases h1 : mayAdd s m now with
    | false => rw [addR_no h h1]; exact hz
    | true =>
      rw [addR_yes h h1]
      unfold mayAdd at h1
      rw [Bool.and_eq_true] at h1
      exact Nat.le_trans (addD_small h h1.1) (by decide)
end Go.Proofs.YtcaknjdolfheaaaGreatDoor
namespace Go.Proofs.YtcaknjdolfheaaaGreatDoor
open Go Go.RowKit

theorem Pt.nothing {w0 w : World} {Ls : List (List Res)} (h : Pt w0 w Ls) (e : TypeId) (size : Nat) : Pt w0 w ([Res.row e size (.slice none 0 0) 0 []] :: Ls) := StX.nothing (l := Ls.flatten) h e size
theorem l5Room_any (s : SpoolD) (ao : Option Addr) (cap : Nat) (w : World) :
    Calls Tryz.prog 67 #[.agg (spoolV s ao cap)] w fun e w' => e = .returned (.bool (roomB s)) ∧ Below w.heap.size w w' := by
  have b0 : Seal (Below w.heap.size w (w.alloc (.cells (spoolV s ao cap) 25))) := ⟨(Below.refl _ _).alloc (Nat.le_refl _) _⟩
  by_cases h1 : (s.items.length : Int) < 10
  · by_cases h2 : s.last < 999
    · have hm : Seal (roomB s = true) := ⟨by unfold roomB; rw [decide_eq_true h1, decide_eq_true h2]; rfl⟩
      go_enter Tryz.func67, Tryz.ntmps67
      go_wp2
      go_ret
      exact ⟨ret_b hm.out.symm, b0.out⟩
    · have hm : Seal (roomB s = false) := ⟨by unfold roomB; rw [decide_eq_false h2]; simp⟩
      go_enter Tryz.func67, Tryz.ntmps67
      go_wp2
      go_ret
      exact ⟨ret_b hm.out.symm, b0.out⟩
  · have hm : Seal (roomB s = false) := ⟨by unfold roomB; rw [decide_eq_false h1]; rfl⟩
    go_enter Tryz.func67, Tryz.ntmps67
    go_wp2
    go_ret
    exact ⟨ret_b hm.out.symm, b0.out⟩

abbrev rcNew (now : Int) (ps : List (ByteArray × ByteArray)) : List Value := rcptE.all (ps.map (newRcpt now)) (ones (ps.map (newRcpt now)))
theorem rcNew_snoc {now : Int} {ps : List (ByteArray × ByteArray)} {k : Nat} {p : ByteArray × ByteArray} (hp : ps[k]? = some p) : rcNew now (ps.take k) ++ [.string p.1, .string p.2, .int .i64 0, .int .i64 now] = rcNew now (ps.take (k + 1)) := by
  obtain ⟨hk, e⟩ := List.getElem?_eq_some_iff.1 hp
  unfold rcNew
  rw [List.take_succ_eq_append_getElem hk, e, List.map_append, List.map_singleton]
  have h1 : ones (List.map (newRcpt now) (ps.take k) ++ [newRcpt now p]) = ones (List.map (newRcpt now) (ps.take k)) ++ [()] := by
    unfold ones
    rw [List.length_append, List.length_singleton, List.replicate_succ']
  rw [h1, rcptE.all_snoc (by simp)]
  rfl

set_option maxHeartbeats 12800000 in
set_option maxRecDepth 100000 in
theorem l5Add_any {X : Nat → Prop} (l : List Res) (s : SpoolD) (ao : Option Addr) (cap : Nat) (ps : List ItemV) (hl : ps.length = s.items.length) (m : MailD) (a1 : Option Addr) (c1 : Nat) (a2 : Option Addr) (c2 : Nat) (now : Int) (w0 w : World) (h : StX X w0 w (itemsR ao cap s.items ps ++ l)) (ho : MailOwn w 0 m a1 c1 a2 c2) (hz : s.items.length ≤ 1048576) (hmz : MailSz 1048576 m) (h0 : 0 ≤ s.last) (h1 : s.last ≤ 999) :
    Calls Tryz.prog 68 #[.agg (spoolV s ao cap), .agg (mailV m a1 c1 a2 c2), .int .i64 now] w fun e w' => ∃ bo c q, e = .returned (.agg (spoolV (addD s m now) bo c)) ∧ StX X w0 w' (itemsR bo c (addD s m now).items (ps ++ [q]) ++ l) := by
  obtain ⟨iItem, hiItem, hz0Item, hz1Item, hz2Item⟩ := info_parts infoItem
  obtain ⟨iRcpt, hiRcpt, hz0Rcpt, hz1Rcpt, hz2Rcpt⟩ := info_parts infoRcpt
  obtain ⟨istring, histring, hz0string, hz1string, hz2string⟩ := info_parts infoS
  have HS : Seal _ := ⟨h⟩
  have HL : Seal _ := ⟨hl⟩
  have HO : Seal _ := ⟨ho⟩
  have z1 := hmz.rcl
  have z2 := hmz.bol
  have hwr : IntKind.i64.wrap (s.last + 1) = s.last + 1 := IntWalk.i64_in _ (by omega)
  clear h hl ho hmz
  have S0 : Seal (Pt w (((w.alloc (.cells (spoolV s ao cap) 25)).alloc (.cells (mailV m a1 c1 a2 c2) 31)).alloc (.cells #[.int .i64 0, .slice none 0 0] 25)) [[Res.cells (w.heap.size + 1 + 1) [.int .i64 0, .slice none 0 0]], [Res.cells (w.heap.size + 1) [.string m.fu, .string m.fd, .slice a1 m.rc.length c1, .slice a2 m.body.length c2]], [Res.cells w.heap.size [.int .i64 s.last, .slice ao s.items.length cap]]]) := ⟨by
    have h := (((Pt.start w).alloc (spoolV s ao cap) 25).alloc (mailV m a1 c1 a2 c2) 31).alloc #[.int .i64 0, .slice none 0 0] 25
    simp only [World.size_alloc] at h
    exact h⟩
  go_enter Tryz.func68, Tryz.ntmps68
  go_upto_region 1 with fail
  generalize ((w.alloc (.cells (spoolV s ao cap) 25)).alloc (.cells (mailV m a1 c1 a2 c2) 31)).alloc (.cells #[.int .i64 0, .slice none 0 0] 25) = wq at *
  go_cut [7] (fun s7 wx => ∃ (k7 : Nat) (q2 : Option Addr) (d2 : Nat), s7 = .pointer (some ⟨k7, 0, none⟩) ∧ Pt w wx [[Res.cells k7 [.int .i64 (s.last + 1), .string m.fu, .string m.fd, .slice none 0 0, .slice q2 m.body.length d2]], [Res.row 9 1 (.slice q2 m.body.length d2) m.body.length (m.body.map Value.string)], [Res.cells (w.heap.size + 1 + 1) [.int .i64 0, .slice none 0 0]], [Res.cells (w.heap.size + 1) [.string m.fu, .string m.fd, .slice a1 m.rc.length c1, .slice a2 m.body.length c2]], [Res.cells (w.heap.size) [.int .i64 s.last, .slice ao s.items.length cap]]])
  case first =>
    have S1 : Seal (Pt w wq.drew [[Res.cells (w.heap.size + 1 + 1) [.int .i64 0, .slice none 0 0]], [Res.cells (w.heap.size + 1) [.string m.fu, .string m.fd, .slice a1 m.rc.length c1, .slice a2 m.body.length c2]], [Res.cells (w.heap.size) [.int .i64 s.last, .slice ao s.items.length cap]]]) := ⟨S0.out.drew⟩
    refine wp_region_held_drew (S := (fun w' => w'.cell? ⟨w.heap.size, 0, none⟩ = some (.int .i64 s.last) ∧ w'.cell? ⟨w.heap.size + 1, 0, none⟩ = some (.string m.fu) ∧ w'.cell? ⟨w.heap.size + 1, 1, none⟩ = some (.string m.fd) ∧ w'.cell? ⟨w.heap.size + 1, 3, none⟩ = some (.slice a2 m.body.length c2))) (by kernel_rfl) ⟨(S1.out.cellsM 2 rfl).c 0 _ rfl, (S1.out.cellsM 1 rfl).c 0 _ rfl, (S1.out.cellsM 1 rfl).c 1 _ rfl, (S1.out.cellsM 1 rfl).c 3 _ rfl⟩ (fun hHeld => ?_)
    refine tkH 0 (by assumption) (h := ?_)
    refine tkH 1 (by assumption) (h := ?_)
    refine tkH 2 (by assumption) (h := ?_)
    refine tkH 3 (by assumption) (h := ?_)
    refine tkH 4 (by assumption) (h := ?_)
    refine tkH 6 (by assumption) (h := ?_)
    refine tkH 7 (by assumption) (h := ?_)
    refine wpAnyH_ready (rs := [5, 10]) (by kernel_rfl) (by simp) ?_
    refine AllReadyH.cons rfl (fun K hK => ?_) (AllReadyH.cons rfl (fun K hK => ?_) AllReadyH.nil)
    · have S2 : Seal (Pt w (wq.alloc (.cells #[] 9)).drew [[Res.row 9 1 (.slice (some ⟨wq.heap.size, 0, none⟩) 0 0) (0) ([])], [Res.cells (w.heap.size + 1 + 1) [.int .i64 0, .slice none 0 0]], [Res.cells (w.heap.size + 1) [.string m.fu, .string m.fd, .slice a1 m.rc.length c1, .slice a2 m.body.length c2]], [Res.cells (w.heap.size) [.int .i64 s.last, .slice ao s.items.length cap]]]) := ⟨Pt.built S1.out #[] 9 1 0 (by decide) rfl⟩
      go_simp
      refine hK.out _ _ ⟨(S2.out.cellsM 3 rfl).c 0 _ rfl, (S2.out.cellsM 2 rfl).c 0 _ rfl, (S2.out.cellsM 2 rfl).c 1 _ rfl, (S2.out.cellsM 2 rfl).c 3 _ rfl⟩ (fun hHeld => ?_)
      clear hK K
      try simp only [Act.put, List.getElem_toArray, List.getElem_cons_succ, List.getElem_cons_zero, List.setIfInBounds_toArray, List.set_cons_zero, List.set_cons_succ]
      refine wpAnyH_ready (rs := [8, 10]) (by kernel_rfl) (by simp) ?_
      refine AllReadyH.cons rfl (fun K hK => ?_) (AllReadyH.cons rfl (fun K hK => ?_) AllReadyH.nil)
      · have SH2 : Seal (Pt w (wq.alloc (.cells #[] 9)).drew [[Res.row 9 1 (.slice (some ⟨wq.heap.size, 0, none⟩) 0 0) (0) ([])], [Res.cells (w.heap.size + 1 + 1) [.int .i64 0, .slice none 0 0]], [Res.cells (w.heap.size + 1) [.string m.fu, .string m.fd, .slice a1 m.rc.length c1, .slice a2 m.body.length c2]], [Res.cells (w.heap.size) [.int .i64 s.last, .slice ao s.items.length cap]]]) := ⟨S2.out.bring 0 rfl⟩
        have OW2 : Seal _ := ⟨Pt.row1 SH2.out 0 rfl⟩
        have SR2 : Seal _ := ⟨(row_zero (HO.out.later S2.out.below).body)⟩
        refine step_append_first rfl _ _ 29 rfl 0 9 istring (.string ByteArray.empty) 1 16 Tryz.underlying29 histring hz0string hz1string hz2string rfl (by decide) (.slice (some ⟨wq.heap.size, 0, none⟩) 0 0) (by rfl) OW2.out (a2) (m.body.length) (c2) (m.body.map Value.string) (by rfl) SR2.out (strs_cells_one _) (by unfold maxLen; omega) (by omega) (Nat.zero_le _) ?_
        intro v1 u2 hown hg hat
        have S3 : Seal (Pt w u2 [[Res.row 9 1 (v1) (m.body.length) (m.body.map Value.string)], [Res.cells (w.heap.size + 1 + 1) [.int .i64 0, .slice none 0 0]], [Res.cells (w.heap.size + 1) [.string m.fu, .string m.fd, .slice a1 m.rc.length c1, .slice a2 m.body.length c2]], [Res.cells (w.heap.size) [.int .i64 s.last, .slice ao s.items.length cap]]]) := ⟨Pt.app SH2.out hown hg (by simpa using hat)⟩
        obtain ⟨bo3, c4, rfl, _⟩ := row_value (Pt.row1 S3.out 0 rfl)
        clear hown hg hat SH2 OW2 SR2
        refine hK.out _ _ ⟨(S3.out.cellsM 3 rfl).c 0 _ rfl, (S3.out.cellsM 2 rfl).c 0 _ rfl, (S3.out.cellsM 2 rfl).c 1 _ rfl, (S3.out.cellsM 2 rfl).c 3 _ rfl⟩ (fun hHeld => ?_)
        clear hK K
        try simp only [Act.put, List.getElem_toArray, List.getElem_cons_succ, List.getElem_cons_zero, List.setIfInBounds_toArray, List.set_cons_zero, List.set_cons_succ]
        refine tkH 9 (by assumption) (h := ?_)
        refine wpAnyH_ready (rs := [10]) (by kernel_rfl) (by simp) ?_
        refine AllReadyH.cons rfl (fun K hK => ?_) AllReadyH.nil
        have S4 : Seal (Pt w (u2.alloc (.cells #[.int .i64 0, .string { data := #[] }, .string { data := #[] }, .slice none 0 0, .slice none 0 0] 43)) [[Res.cells (u2.heap.size) [.int .i64 0, .string { data := #[] }, .string { data := #[] }, .slice none 0 0, .slice none 0 0]], [Res.row 9 1 (.slice bo3 (m.body.length) c4) (m.body.length) (m.body.map Value.string)], [Res.cells (w.heap.size + 1 + 1) [.int .i64 0, .slice none 0 0]], [Res.cells (w.heap.size + 1) [.string m.fu, .string m.fd, .slice a1 m.rc.length c1, .slice a2 m.body.length c2]], [Res.cells (w.heap.size) [.int .i64 s.last, .slice ao s.items.length cap]]]) := ⟨S3.out.alloc #[.int .i64 0, .string { data := #[] }, .string { data := #[] }, .slice none 0 0, .slice none 0 0] 43⟩
        go_simp
        refine hK.out _ _ ⟨(S4.out.cellsM 4 rfl).c 0 _ rfl, (S4.out.cellsM 3 rfl).c 0 _ rfl, (S4.out.cellsM 3 rfl).c 1 _ rfl, (S4.out.cellsM 3 rfl).c 3 _ rfl⟩ (fun hHeld => ?_)
        clear hK K
        try simp only [Act.put, List.getElem_toArray, List.getElem_cons_succ, List.getElem_cons_zero, List.setIfInBounds_toArray, List.set_cons_zero, List.set_cons_succ]
        refine wpAnyH_ready (rs := [11]) (by kernel_rfl) (by simp) ?_
        refine AllReadyH.cons rfl (fun K hK => ?_) AllReadyH.nil
        have S5 : Seal (Pt w (u2.alloc (.cells #[.int .i64 (s.last + 1), .string m.fu, .string m.fd, .slice none 0 0, .slice bo3 (m.body.length) c4] 43)) [[Res.cells (u2.heap.size) [.int .i64 (s.last + 1), .string m.fu, .string m.fd, .slice none 0 0, .slice bo3 (m.body.length) c4]], [Res.row 9 1 (.slice bo3 (m.body.length) c4) (m.body.length) (m.body.map Value.string)], [Res.cells (w.heap.size + 1 + 1) [.int .i64 0, .slice none 0 0]], [Res.cells (w.heap.size + 1) [.string m.fu, .string m.fd, .slice a1 m.rc.length c1, .slice a2 m.body.length c2]], [Res.cells (w.heap.size) [.int .i64 s.last, .slice ao s.items.length cap]]]) := ⟨S3.out.alloc #[.int .i64 (s.last + 1), .string m.fu, .string m.fd, .slice none 0 0, .slice bo3 (m.body.length) c4] 43⟩
        go_simp
        refine hK.out _ _ ⟨(S5.out.cellsM 4 rfl).c 0 _ rfl, (S5.out.cellsM 3 rfl).c 0 _ rfl, (S5.out.cellsM 3 rfl).c 1 _ rfl, (S5.out.cellsM 3 rfl).c 3 _ rfl⟩ (fun hHeld => ?_)
        clear hK K
        try simp only [Act.put, List.getElem_toArray, List.getElem_cons_succ, List.getElem_cons_zero, List.setIfInBounds_toArray, List.set_cons_zero, List.set_cons_succ]
        refine wpAnyH_done (by kernel_rfl) ?_ _
        go_wp2_with fail
        go_meet
        exact ⟨u2.heap.size, bo3, c4, rfl, (Pt.bring ((Pt.bring ((Pt.bring ((Pt.bring ((Pt.bring (S5.out) 4 rfl)) 4 rfl)) 4 rfl)) 4 rfl)) 4 rfl)⟩
      · have S3 : Seal (Pt w ((wq.alloc (.cells #[] 9)).alloc (.cells #[.int .i64 0, .string { data := #[] }, .string { data := #[] }, .slice none 0 0, .slice none 0 0] 43)).drew [[Res.cells (wq.heap.size + 1) [.int .i64 0, .string { data := #[] }, .string { data := #[] }, .slice none 0 0, .slice none 0 0]], [Res.row 9 1 (.slice (some ⟨wq.heap.size, 0, none⟩) 0 0) (0) ([])], [Res.cells (w.heap.size + 1 + 1) [.int .i64 0, .slice none 0 0]], [Res.cells (w.heap.size + 1) [.string m.fu, .string m.fd, .slice a1 m.rc.length c1, .slice a2 m.body.length c2]], [Res.cells (w.heap.size) [.int .i64 s.last, .slice ao s.items.length cap]]]) := ⟨by have h := S2.out.alloc #[.int .i64 0, .string { data := #[] }, .string { data := #[] }, .slice none 0 0, .slice none 0 0] 43; simp only [World.size_alloc, World.size_drew'] at h; exact h⟩
        go_simp
        refine hK.out _ _ ⟨(S3.out.cellsM 4 rfl).c 0 _ rfl, (S3.out.cellsM 3 rfl).c 0 _ rfl, (S3.out.cellsM 3 rfl).c 1 _ rfl, (S3.out.cellsM 3 rfl).c 3 _ rfl⟩ (fun hHeld => ?_)
        clear hK K
        try simp only [Act.put, List.getElem_toArray, List.getElem_cons_succ, List.getElem_cons_zero, List.setIfInBounds_toArray, List.set_cons_zero, List.set_cons_succ]
        refine wpAnyH_ready (rs := [8]) (by kernel_rfl) (by simp) ?_
        refine AllReadyH.cons rfl (fun K hK => ?_) AllReadyH.nil
        have SH3 : Seal (Pt w ((wq.alloc (.cells #[] 9)).alloc (.cells #[.int .i64 0, .string { data := #[] }, .string { data := #[] }, .slice none 0 0, .slice none 0 0] 43)).drew [[Res.row 9 1 (.slice (some ⟨wq.heap.size, 0, none⟩) 0 0) (0) ([])], [Res.cells (wq.heap.size + 1) [.int .i64 0, .string { data := #[] }, .string { data := #[] }, .slice none 0 0, .slice none 0 0]], [Res.cells (w.heap.size + 1 + 1) [.int .i64 0, .slice none 0 0]], [Res.cells (w.heap.size + 1) [.string m.fu, .string m.fd, .slice a1 m.rc.length c1, .slice a2 m.body.length c2]], [Res.cells (w.heap.size) [.int .i64 s.last, .slice ao s.items.length cap]]]) := ⟨S3.out.bring 1 rfl⟩
        have OW3 : Seal _ := ⟨Pt.row1 SH3.out 0 rfl⟩
        have SR3 : Seal _ := ⟨(row_zero (HO.out.later S3.out.below).body)⟩
        refine step_append_first rfl _ _ 29 rfl 0 9 istring (.string ByteArray.empty) 1 16 Tryz.underlying29 histring hz0string hz1string hz2string rfl (by decide) (.slice (some ⟨wq.heap.size, 0, none⟩) 0 0) (by rfl) OW3.out (a2) (m.body.length) (c2) (m.body.map Value.string) (by rfl) SR3.out (strs_cells_one _) (by unfold maxLen; omega) (by omega) (Nat.zero_le _) ?_
        intro v5 u6 hown hg hat
        have S4 : Seal (Pt w u6 [[Res.row 9 1 (v5) (m.body.length) (m.body.map Value.string)], [Res.cells (wq.heap.size + 1) [.int .i64 0, .string { data := #[] }, .string { data := #[] }, .slice none 0 0, .slice none 0 0]], [Res.cells (w.heap.size + 1 + 1) [.int .i64 0, .slice none 0 0]], [Res.cells (w.heap.size + 1) [.string m.fu, .string m.fd, .slice a1 m.rc.length c1, .slice a2 m.body.length c2]], [Res.cells (w.heap.size) [.int .i64 s.last, .slice ao s.items.length cap]]]) := ⟨Pt.app SH3.out hown hg (by simpa using hat)⟩
        obtain ⟨bo7, c8, rfl, _⟩ := row_value (Pt.row1 S4.out 0 rfl)
        clear hown hg hat SH3 OW3 SR3
        refine hK.out _ _ ⟨(S4.out.cellsM 4 rfl).c 0 _ rfl, (S4.out.cellsM 3 rfl).c 0 _ rfl, (S4.out.cellsM 3 rfl).c 1 _ rfl, (S4.out.cellsM 3 rfl).c 3 _ rfl⟩ (fun hHeld => ?_)
        clear hK K
        try simp only [Act.put, List.getElem_toArray, List.getElem_cons_succ, List.getElem_cons_zero, List.setIfInBounds_toArray, List.set_cons_zero, List.set_cons_succ]
        refine tkH 9 (by assumption) (h := ?_)
        refine wpAnyH_ready (rs := [11]) (by kernel_rfl) (by simp) ?_
        refine AllReadyH.cons rfl (fun K hK => ?_) AllReadyH.nil
        have S5 : Seal (Pt w u6 [[Res.cells (wq.heap.size + 1) [.int .i64 0, .string { data := #[] }, .string { data := #[] }, .slice none 0 0, .slice none 0 0]], [Res.row 9 1 (.slice bo7 (m.body.length) c8) (m.body.length) (m.body.map Value.string)], [Res.cells (w.heap.size + 1 + 1) [.int .i64 0, .slice none 0 0]], [Res.cells (w.heap.size + 1) [.string m.fu, .string m.fd, .slice a1 m.rc.length c1, .slice a2 m.body.length c2]], [Res.cells (w.heap.size) [.int .i64 s.last, .slice ao s.items.length cap]]]) := ⟨S4.out.bring 1 rfl⟩
        have oc0 := (S5.out.cellsM 0 rfl).c 0 _ rfl
        have of0 := (S5.out.cellsM 0 rfl).f 0 (by simp)
        have oc1 := (S5.out.cellsM 0 rfl).c 1 _ rfl
        have of1 := (S5.out.cellsM 0 rfl).f 1 (by simp)
        have oc2 := (S5.out.cellsM 0 rfl).c 2 _ rfl
        have of2 := (S5.out.cellsM 0 rfl).f 2 (by simp)
        have oc3 := (S5.out.cellsM 0 rfl).c 3 _ rfl
        have of3 := (S5.out.cellsM 0 rfl).f 3 (by simp)
        have oc4 := (S5.out.cellsM 0 rfl).c 4 _ rfl
        have of4 := (S5.out.cellsM 0 rfl).f 4 (by simp)
        have S6 : Seal (Pt w (((((u6.setCell ⟨wq.heap.size + 1, 0, none⟩ (.int .i64 (s.last + 1))).setCell ⟨wq.heap.size + 1, 1, none⟩ (.string m.fu)).setCell ⟨wq.heap.size + 1, 2, none⟩ (.string m.fd)).setCell ⟨wq.heap.size + 1, 3, none⟩ (.slice none 0 0)).setCell ⟨wq.heap.size + 1, 4, none⟩ (.slice bo7 (m.body.length) c8)) [[Res.cells (wq.heap.size + 1) [.int .i64 (s.last + 1), .string m.fu, .string m.fd, .slice none 0 0, .slice bo7 (m.body.length) c8]], [Res.row 9 1 (.slice bo7 (m.body.length) c8) (m.body.length) (m.body.map Value.string)], [Res.cells (w.heap.size + 1 + 1) [.int .i64 0, .slice none 0 0]], [Res.cells (w.heap.size + 1) [.string m.fu, .string m.fd, .slice a1 m.rc.length c1, .slice a2 m.body.length c2]], [Res.cells (w.heap.size) [.int .i64 s.last, .slice ao s.items.length cap]]]) := ⟨(((((S5.out).set 0 (.int .i64 (s.last + 1)) (by simp)).set 1 (.string m.fu) (by simp)).set 2 (.string m.fd) (by simp)).set 3 (.slice none 0 0) (by simp)).set 4 (.slice bo7 (m.body.length) c8) (by simp)⟩
        go_simp
        refine hK.out _ _ ⟨(S6.out.cellsM 4 rfl).c 0 _ rfl, (S6.out.cellsM 3 rfl).c 0 _ rfl, (S6.out.cellsM 3 rfl).c 1 _ rfl, (S6.out.cellsM 3 rfl).c 3 _ rfl⟩ (fun hHeld => ?_)
        clear hK K
        try simp only [Act.put, List.getElem_toArray, List.getElem_cons_succ, List.getElem_cons_zero, List.setIfInBounds_toArray, List.set_cons_zero, List.set_cons_succ]
        clear oc0 of0 oc1 of1 oc2 of2 oc3 of3 oc4 of4
        refine wpAnyH_done (by kernel_rfl) ?_ _
        go_wp2_with fail
        go_meet
        exact ⟨wq.heap.size + 1, bo7, c8, rfl, (Pt.bring ((Pt.bring ((Pt.bring ((Pt.bring ((Pt.bring (S6.out) 4 rfl)) 4 rfl)) 4 rfl)) 4 rfl)) 4 rfl)⟩
    · have S2 : Seal (Pt w (wq.alloc (.cells #[.int .i64 0, .string { data := #[] }, .string { data := #[] }, .slice none 0 0, .slice none 0 0] 43)).drew [[Res.cells (wq.heap.size) [.int .i64 0, .string { data := #[] }, .string { data := #[] }, .slice none 0 0, .slice none 0 0]], [Res.cells (w.heap.size + 1 + 1) [.int .i64 0, .slice none 0 0]], [Res.cells (w.heap.size + 1) [.string m.fu, .string m.fd, .slice a1 m.rc.length c1, .slice a2 m.body.length c2]], [Res.cells (w.heap.size) [.int .i64 s.last, .slice ao s.items.length cap]]]) := ⟨S1.out.alloc #[.int .i64 0, .string { data := #[] }, .string { data := #[] }, .slice none 0 0, .slice none 0 0] 43⟩
      go_simp
      refine hK.out _ _ ⟨(S2.out.cellsM 3 rfl).c 0 _ rfl, (S2.out.cellsM 2 rfl).c 0 _ rfl, (S2.out.cellsM 2 rfl).c 1 _ rfl, (S2.out.cellsM 2 rfl).c 3 _ rfl⟩ (fun hHeld => ?_)
      clear hK K
      try simp only [Act.put, List.getElem_toArray, List.getElem_cons_succ, List.getElem_cons_zero, List.setIfInBounds_toArray, List.set_cons_zero, List.set_cons_succ]
      refine wpAnyH_ready (rs := [5]) (by kernel_rfl) (by simp) ?_
      refine AllReadyH.cons rfl (fun K hK => ?_) AllReadyH.nil
      have S3 : Seal (Pt w ((wq.alloc (.cells #[.int .i64 0, .string { data := #[] }, .string { data := #[] }, .slice none 0 0, .slice none 0 0] 43)).alloc (.cells #[] 9)).drew [[Res.row 9 1 (.slice (some ⟨wq.heap.size + 1, 0, none⟩) 0 0) (0) ([])], [Res.cells (wq.heap.size) [.int .i64 0, .string { data := #[] }, .string { data := #[] }, .slice none 0 0, .slice none 0 0]], [Res.cells (w.heap.size + 1 + 1) [.int .i64 0, .slice none 0 0]], [Res.cells (w.heap.size + 1) [.string m.fu, .string m.fd, .slice a1 m.rc.length c1, .slice a2 m.body.length c2]], [Res.cells (w.heap.size) [.int .i64 s.last, .slice ao s.items.length cap]]]) := ⟨by have h := Pt.built S2.out #[] 9 1 0 (by decide) rfl; simp only [World.size_alloc, World.size_drew'] at h; exact h⟩
      go_simp
      refine hK.out _ _ ⟨(S3.out.cellsM 4 rfl).c 0 _ rfl, (S3.out.cellsM 3 rfl).c 0 _ rfl, (S3.out.cellsM 3 rfl).c 1 _ rfl, (S3.out.cellsM 3 rfl).c 3 _ rfl⟩ (fun hHeld => ?_)
      clear hK K
      try simp only [Act.put, List.getElem_toArray, List.getElem_cons_succ, List.getElem_cons_zero, List.setIfInBounds_toArray, List.set_cons_zero, List.set_cons_succ]
      refine wpAnyH_ready (rs := [8]) (by kernel_rfl) (by simp) ?_
      refine AllReadyH.cons rfl (fun K hK => ?_) AllReadyH.nil
      have SH3 : Seal (Pt w ((wq.alloc (.cells #[.int .i64 0, .string { data := #[] }, .string { data := #[] }, .slice none 0 0, .slice none 0 0] 43)).alloc (.cells #[] 9)).drew [[Res.row 9 1 (.slice (some ⟨wq.heap.size + 1, 0, none⟩) 0 0) (0) ([])], [Res.cells (wq.heap.size) [.int .i64 0, .string { data := #[] }, .string { data := #[] }, .slice none 0 0, .slice none 0 0]], [Res.cells (w.heap.size + 1 + 1) [.int .i64 0, .slice none 0 0]], [Res.cells (w.heap.size + 1) [.string m.fu, .string m.fd, .slice a1 m.rc.length c1, .slice a2 m.body.length c2]], [Res.cells (w.heap.size) [.int .i64 s.last, .slice ao s.items.length cap]]]) := ⟨S3.out.bring 0 rfl⟩
      have OW3 : Seal _ := ⟨Pt.row1 SH3.out 0 rfl⟩
      have SR3 : Seal _ := ⟨(row_zero (HO.out.later S3.out.below).body)⟩
      refine step_append_first rfl _ _ 29 rfl 0 9 istring (.string ByteArray.empty) 1 16 Tryz.underlying29 histring hz0string hz1string hz2string rfl (by decide) (.slice (some ⟨wq.heap.size + 1, 0, none⟩) 0 0) (by rfl) OW3.out (a2) (m.body.length) (c2) (m.body.map Value.string) (by rfl) SR3.out (strs_cells_one _) (by unfold maxLen; omega) (by omega) (Nat.zero_le _) ?_
      intro v9 u10 hown hg hat
      have S4 : Seal (Pt w u10 [[Res.row 9 1 (v9) (m.body.length) (m.body.map Value.string)], [Res.cells (wq.heap.size) [.int .i64 0, .string { data := #[] }, .string { data := #[] }, .slice none 0 0, .slice none 0 0]], [Res.cells (w.heap.size + 1 + 1) [.int .i64 0, .slice none 0 0]], [Res.cells (w.heap.size + 1) [.string m.fu, .string m.fd, .slice a1 m.rc.length c1, .slice a2 m.body.length c2]], [Res.cells (w.heap.size) [.int .i64 s.last, .slice ao s.items.length cap]]]) := ⟨Pt.app SH3.out hown hg (by simpa using hat)⟩
      obtain ⟨bo11, c12, rfl, _⟩ := row_value (Pt.row1 S4.out 0 rfl)
      clear hown hg hat SH3 OW3 SR3
      refine hK.out _ _ ⟨(S4.out.cellsM 4 rfl).c 0 _ rfl, (S4.out.cellsM 3 rfl).c 0 _ rfl, (S4.out.cellsM 3 rfl).c 1 _ rfl, (S4.out.cellsM 3 rfl).c 3 _ rfl⟩ (fun hHeld => ?_)
      clear hK K
      try simp only [Act.put, List.getElem_toArray, List.getElem_cons_succ, List.getElem_cons_zero, List.setIfInBounds_toArray, List.set_cons_zero, List.set_cons_succ]
      refine tkH 9 (by assumption) (h := ?_)
      refine wpAnyH_ready (rs := [11]) (by kernel_rfl) (by simp) ?_
      refine AllReadyH.cons rfl (fun K hK => ?_) AllReadyH.nil
      have S5 : Seal (Pt w u10 [[Res.cells (wq.heap.size) [.int .i64 0, .string { data := #[] }, .string { data := #[] }, .slice none 0 0, .slice none 0 0]], [Res.row 9 1 (.slice bo11 (m.body.length) c12) (m.body.length) (m.body.map Value.string)], [Res.cells (w.heap.size + 1 + 1) [.int .i64 0, .slice none 0 0]], [Res.cells (w.heap.size + 1) [.string m.fu, .string m.fd, .slice a1 m.rc.length c1, .slice a2 m.body.length c2]], [Res.cells (w.heap.size) [.int .i64 s.last, .slice ao s.items.length cap]]]) := ⟨S4.out.bring 1 rfl⟩
      have oc0 := (S5.out.cellsM 0 rfl).c 0 _ rfl
      have of0 := (S5.out.cellsM 0 rfl).f 0 (by simp)
      have oc1 := (S5.out.cellsM 0 rfl).c 1 _ rfl
      have of1 := (S5.out.cellsM 0 rfl).f 1 (by simp)
      have oc2 := (S5.out.cellsM 0 rfl).c 2 _ rfl
      have of2 := (S5.out.cellsM 0 rfl).f 2 (by simp)
      have oc3 := (S5.out.cellsM 0 rfl).c 3 _ rfl
      have of3 := (S5.out.cellsM 0 rfl).f 3 (by simp)
      have oc4 := (S5.out.cellsM 0 rfl).c 4 _ rfl
      have of4 := (S5.out.cellsM 0 rfl).f 4 (by simp)
      have S6 : Seal (Pt w (((((u10.setCell ⟨wq.heap.size, 0, none⟩ (.int .i64 (s.last + 1))).setCell ⟨wq.heap.size, 1, none⟩ (.string m.fu)).setCell ⟨wq.heap.size, 2, none⟩ (.string m.fd)).setCell ⟨wq.heap.size, 3, none⟩ (.slice none 0 0)).setCell ⟨wq.heap.size, 4, none⟩ (.slice bo11 (m.body.length) c12)) [[Res.cells (wq.heap.size) [.int .i64 (s.last + 1), .string m.fu, .string m.fd, .slice none 0 0, .slice bo11 (m.body.length) c12]], [Res.row 9 1 (.slice bo11 (m.body.length) c12) (m.body.length) (m.body.map Value.string)], [Res.cells (w.heap.size + 1 + 1) [.int .i64 0, .slice none 0 0]], [Res.cells (w.heap.size + 1) [.string m.fu, .string m.fd, .slice a1 m.rc.length c1, .slice a2 m.body.length c2]], [Res.cells (w.heap.size) [.int .i64 s.last, .slice ao s.items.length cap]]]) := ⟨(((((S5.out).set 0 (.int .i64 (s.last + 1)) (by simp)).set 1 (.string m.fu) (by simp)).set 2 (.string m.fd) (by simp)).set 3 (.slice none 0 0) (by simp)).set 4 (.slice bo11 (m.body.length) c12) (by simp)⟩
      go_simp
      refine hK.out _ _ ⟨(S6.out.cellsM 4 rfl).c 0 _ rfl, (S6.out.cellsM 3 rfl).c 0 _ rfl, (S6.out.cellsM 3 rfl).c 1 _ rfl, (S6.out.cellsM 3 rfl).c 3 _ rfl⟩ (fun hHeld => ?_)
      clear hK K
      try simp only [Act.put, List.getElem_toArray, List.getElem_cons_succ, List.getElem_cons_zero, List.setIfInBounds_toArray, List.set_cons_zero, List.set_cons_succ]
      clear oc0 of0 oc1 of1 oc2 of2 oc3 of3 oc4 of4
      refine wpAnyH_done (by kernel_rfl) ?_ _
      go_wp2_with fail
      go_meet
      exact ⟨wq.heap.size, bo11, c12, rfl, (Pt.bring ((Pt.bring ((Pt.bring ((Pt.bring ((Pt.bring (S6.out) 4 rfl)) 4 rfl)) 4 rfl)) 4 rfl)) 4 rfl)⟩
  case rest =>
  obtain ⟨k7, q2, d2, rfl, hS⟩ := hcut
  have S2 : Seal (Pt w wc [[Res.cells (k7) [.int .i64 (s.last + 1), .string m.fu, .string m.fd, .slice none 0 0, .slice q2 m.body.length d2]], [Res.row 9 1 (.slice q2 m.body.length d2) (m.body.length) (m.body.map Value.string)], [Res.cells (w.heap.size + 1 + 1) [.int .i64 0, .slice none 0 0]], [Res.cells (w.heap.size + 1) [.string m.fu, .string m.fd, .slice a1 m.rc.length c1, .slice a2 m.body.length c2]], [Res.cells (w.heap.size) [.int .i64 s.last, .slice ao s.items.length cap]]]) := ⟨hS⟩
  clear hS S0
  generalize wc = w2 at *
  have g0 := (S2.out.cellsM 3 rfl).c 0 _ rfl
  have g1 := (S2.out.cellsM 3 rfl).c 1 _ rfl
  have g2 := (S2.out.cellsM 3 rfl).c 2 _ rfl
  have g3 := (S2.out.cellsM 3 rfl).c 3 _ rfl
  go_wp2
  go_loopw [8] (fun i wr => ∃ (k : Nat) (ro : Option Addr) (rc : Nat), k ≤ m.rc.length ∧ i = .int .i64 k ∧ Seal (Pt w wr [[Res.cells k7 [.int .i64 (s.last + 1), .string m.fu, .string m.fd, .slice ro k rc, .slice q2 m.body.length d2]], [Res.row 105 4 (.slice ro k rc) k (rcNew now (m.rc.take k))], [Res.row 9 1 (.slice q2 m.body.length d2) (m.body.length) (m.body.map Value.string)], [Res.cells (w.heap.size + 1 + 1) [.int .i64 0, .slice none 0 0]], [Res.cells (w.heap.size + 1) [.string m.fu, .string m.fd, .slice a1 m.rc.length c1, .slice a2 m.body.length c2]], [Res.cells (w.heap.size) [.int .i64 s.last, .slice ao s.items.length cap]]])) (fun i _ => m.rc.length - (intOf i).toNat)
  case atStart => exact ⟨0, none, 0, Nat.zero_le _, rfl, ⟨((S2.out.nothing 105 4).bring 1 rfl)⟩⟩
  case round =>
    obtain ⟨k, ro, rc, hk, rfl, S⟩ := hrel
    clear S2 g0 g1 g2 g3
    have g2 := (S.out.cellsM 4 rfl).c 2 _ rfl
    by_cases hlt : k < m.rc.length
    · obtain ⟨p, hp⟩ : ∃ p, m.rc[k]? = some p := ⟨_, List.getElem?_eq_getElem hlt⟩
      obtain ⟨b, off, rfl, c0, c1'⟩ := HO.out.at.rc k p hp
      have HE : Seal _ := ⟨rcNew_snoc (now := now) hp⟩
      have hi0 : (0 : Int) ≤ (k : Int) := by omega
      have hi1 : (k : Int) < (m.rc.length : Int) := by omega
      clear hp
      have S3 : Seal (Pt w wr [[Res.cells (k7) [.int .i64 (s.last + 1), .string m.fu, .string m.fd, .slice ro k rc, .slice q2 m.body.length d2]], [Res.row 105 4 (.slice ro k rc) (k) (rcNew now (m.rc.take k))], [Res.row 9 1 (.slice q2 m.body.length d2) (m.body.length) (m.body.map Value.string)], [Res.cells (w.heap.size + 1 + 1) [.int .i64 0, .slice none 0 0]], [Res.cells (w.heap.size + 1) [.string m.fu, .string m.fd, .slice (some ⟨b, off, none⟩) m.rc.length c1, .slice a2 m.body.length c2]], [Res.cells (w.heap.size) [.int .i64 s.last, .slice ao s.items.length cap]]]) := S
      clear S g2
      have g2 := (S3.out.cellsM 4 rfl).c 2 _ rfl
      go_upto_region 5 with fail
      clear g2
      have S4 : Seal (Pt w wr.drew [[Res.cells (k7) [.int .i64 (s.last + 1), .string m.fu, .string m.fd, .slice ro k rc, .slice q2 m.body.length d2]], [Res.row 105 4 (.slice ro k rc) (k) (rcNew now (m.rc.take k))], [Res.row 9 1 (.slice q2 m.body.length d2) (m.body.length) (m.body.map Value.string)], [Res.cells (w.heap.size + 1 + 1) [.int .i64 0, .slice none 0 0]], [Res.cells (w.heap.size + 1) [.string m.fu, .string m.fd, .slice (some ⟨b, off, none⟩) m.rc.length c1, .slice a2 m.body.length c2]], [Res.cells (w.heap.size) [.int .i64 s.last, .slice ao s.items.length cap]]]) := ⟨S3.out.drew⟩
      refine wp_region_held_drew (S := (fun w' => w'.cell? ⟨w.heap.size + 1, 2, none⟩ = some (.slice (some ⟨b, off, none⟩) m.rc.length c1) ∧ w'.cell? ⟨b, off + k * 2, none⟩ = some (.string p.1) ∧ w'.cell? ⟨b, off + k * 2 + 1, none⟩ = some (.string p.2))) (by kernel_rfl) ⟨(S4.out.cellsM 4 rfl).c 2 _ rfl, (heldc c0 S4.out.below), (heldc c1' S4.out.below)⟩ (fun hHeld => ?_)
      refine tkH 0 (by assumption) (h := ?_)
      refine tkH 2 (by assumption) (h := ?_)
      refine tkH 3 (by assumption) (h := ?_)
      refine tkH 4 (by assumption) (h := ?_)
      refine tkH 5 (by assumption) (h := ?_)
      refine tkH 6 (by assumption) (h := ?_)
      refine tkH 7 (by assumption) (h := ?_)
      refine tkH 8 (by assumption) (h := ?_)
      refine wpAnyH_ready (rs := [1, 9]) (by kernel_rfl) (by simp) ?_
      refine AllReadyH.cons rfl (fun K hK => ?_) (AllReadyH.cons rfl (fun K hK => ?_) AllReadyH.nil)
      · have ol0 := (S4.out.cellsM 0 rfl).c 3 _ rfl
        go_simp
        refine hK.out _ _ ⟨(S4.out.cellsM 4 rfl).c 2 _ rfl, (heldc c0 S4.out.below), (heldc c1' S4.out.below)⟩ (fun hHeld => ?_)
        clear hK K
        try simp only [Act.put, List.getElem_toArray, List.getElem_cons_succ, List.getElem_cons_zero, List.setIfInBounds_toArray, List.set_cons_zero, List.set_cons_succ]
        clear ol0
        refine wpAnyH_ready (rs := [9]) (by kernel_rfl) (by simp) ?_
        refine AllReadyH.cons rfl (fun K hK => ?_) AllReadyH.nil
        have S5 : Seal (Pt w (wr.alloc (.cells #[.string p.1, .string p.2, .int .i64 0, .int .i64 now] 105)).drew [[Res.row 105 4 (.slice (some ⟨wr.heap.size, 0, none⟩) 1 1) (1) ([.string p.1, .string p.2, .int .i64 0, .int .i64 now])], [Res.cells (k7) [.int .i64 (s.last + 1), .string m.fu, .string m.fd, .slice ro k rc, .slice q2 m.body.length d2]], [Res.row 105 4 (.slice ro k rc) (k) (rcNew now (m.rc.take k))], [Res.row 9 1 (.slice q2 m.body.length d2) (m.body.length) (m.body.map Value.string)], [Res.cells (w.heap.size + 1 + 1) [.int .i64 0, .slice none 0 0]], [Res.cells (w.heap.size + 1) [.string m.fu, .string m.fd, .slice (some ⟨b, off, none⟩) m.rc.length c1, .slice a2 m.body.length c2]], [Res.cells (w.heap.size) [.int .i64 s.last, .slice ao s.items.length cap]]]) := ⟨Pt.built S4.out #[.string p.1, .string p.2, .int .i64 0, .int .i64 now] 105 4 1 (by decide) rfl⟩
        go_simp
        refine hK.out _ _ ⟨(S5.out.cellsM 5 rfl).c 2 _ rfl, (heldc c0 S5.out.below), (heldc c1' S5.out.below)⟩ (fun hHeld => ?_)
        clear hK K
        try simp only [Act.put, List.getElem_toArray, List.getElem_cons_succ, List.getElem_cons_zero, List.setIfInBounds_toArray, List.set_cons_zero, List.set_cons_succ]
        refine wpAnyH_ready (rs := [10]) (by kernel_rfl) (by simp) ?_
        refine AllReadyH.cons rfl (fun K hK => ?_) AllReadyH.nil
        have SH5 : Seal (Pt w (wr.alloc (.cells #[.string p.1, .string p.2, .int .i64 0, .int .i64 now] 105)).drew [[Res.row 105 4 (.slice ro k rc) (k) (rcNew now (m.rc.take k))], [Res.row 105 4 (.slice (some ⟨wr.heap.size, 0, none⟩) 1 1) (1) ([.string p.1, .string p.2, .int .i64 0, .int .i64 now])], [Res.cells (k7) [.int .i64 (s.last + 1), .string m.fu, .string m.fd, .slice ro k rc, .slice q2 m.body.length d2]], [Res.row 9 1 (.slice q2 m.body.length d2) (m.body.length) (m.body.map Value.string)], [Res.cells (w.heap.size + 1 + 1) [.int .i64 0, .slice none 0 0]], [Res.cells (w.heap.size + 1) [.string m.fu, .string m.fd, .slice (some ⟨b, off, none⟩) m.rc.length c1, .slice a2 m.body.length c2]], [Res.cells (w.heap.size) [.int .i64 s.last, .slice ao s.items.length cap]]]) := ⟨S5.out.bring 2 rfl⟩
        have OW5 : Seal _ := ⟨Pt.row1 SH5.out 0 rfl⟩
        have SR5 : Seal _ := ⟨(Pt.row1 S5.out 0 rfl)⟩
        refine step_append_any rfl _ _ 41 rfl 0 105 iRcpt (.agg #[.string ByteArray.empty, .string ByteArray.empty, .int .i64 0, .int .i64 0]) 4 48 Tryz.underlying41 hiRcpt hz0Rcpt hz1Rcpt hz2Rcpt rfl (by decide) (.slice ro k rc) (k) (rcNew now (m.rc.take k)) (by rfl) OW5.out ((some ⟨wr.heap.size, 0, none⟩)) (1) (1) ([.string p.1, .string p.2, .int .i64 0, .int .i64 now]) (by rfl) SR5.out (rcpt_cells_one (newRcpt now p)) (by unfold maxLen; omega) (by omega) (Nat.zero_le _) ?_
        intro v13 u14 hown hg hat
        have S6 : Seal (Pt w u14 [[Res.row 105 4 (v13) (k + 1) (rcNew now (m.rc.take k) ++ [.string p.1, .string p.2, .int .i64 0, .int .i64 now])], [Res.row 105 4 (.slice (some ⟨wr.heap.size, 0, none⟩) 1 1) (1) ([.string p.1, .string p.2, .int .i64 0, .int .i64 now])], [Res.cells (k7) [.int .i64 (s.last + 1), .string m.fu, .string m.fd, .slice ro k rc, .slice q2 m.body.length d2]], [Res.row 9 1 (.slice q2 m.body.length d2) (m.body.length) (m.body.map Value.string)], [Res.cells (w.heap.size + 1 + 1) [.int .i64 0, .slice none 0 0]], [Res.cells (w.heap.size + 1) [.string m.fu, .string m.fd, .slice (some ⟨b, off, none⟩) m.rc.length c1, .slice a2 m.body.length c2]], [Res.cells (w.heap.size) [.int .i64 s.last, .slice ao s.items.length cap]]]) := ⟨Pt.app SH5.out hown hg (by simpa using hat)⟩
        obtain ⟨bo15, c16, rfl, _⟩ := row_value (Pt.row1 S6.out 0 rfl)
        clear hown hg hat SH5 OW5 SR5
        refine hK.out _ _ ⟨(S6.out.cellsM 5 rfl).c 2 _ rfl, (heldc c0 S6.out.below), (heldc c1' S6.out.below)⟩ (fun hHeld => ?_)
        clear hK K
        try simp only [Act.put, List.getElem_toArray, List.getElem_cons_succ, List.getElem_cons_zero, List.setIfInBounds_toArray, List.set_cons_zero, List.set_cons_succ]
        refine tkH 11 (by assumption) (h := ?_)
        refine wpAnyH_ready (rs := [12]) (by kernel_rfl) (by simp) ?_
        refine AllReadyH.cons rfl (fun K hK => ?_) AllReadyH.nil
        have S7 : Seal (Pt w u14 [[Res.cells (k7) [.int .i64 (s.last + 1), .string m.fu, .string m.fd, .slice ro k rc, .slice q2 m.body.length d2]], [Res.row 105 4 (.slice bo15 (k + 1) c16) (k + 1) (rcNew now (m.rc.take k) ++ [.string p.1, .string p.2, .int .i64 0, .int .i64 now])], [Res.row 105 4 (.slice (some ⟨wr.heap.size, 0, none⟩) 1 1) (1) ([.string p.1, .string p.2, .int .i64 0, .int .i64 now])], [Res.row 9 1 (.slice q2 m.body.length d2) (m.body.length) (m.body.map Value.string)], [Res.cells (w.heap.size + 1 + 1) [.int .i64 0, .slice none 0 0]], [Res.cells (w.heap.size + 1) [.string m.fu, .string m.fd, .slice (some ⟨b, off, none⟩) m.rc.length c1, .slice a2 m.body.length c2]], [Res.cells (w.heap.size) [.int .i64 s.last, .slice ao s.items.length cap]]]) := ⟨S6.out.bring 2 rfl⟩
        have oc0 := (S7.out.cellsM 0 rfl).c 3 _ rfl
        have of0 := (S7.out.cellsM 0 rfl).f 3 (by simp)
        have S8 : Seal (Pt w (u14.setCell ⟨k7, 3, none⟩ (.slice bo15 (k + 1) c16)) [[Res.cells (k7) [.int .i64 (s.last + 1), .string m.fu, .string m.fd, .slice bo15 (k + 1) c16, .slice q2 m.body.length d2]], [Res.row 105 4 (.slice bo15 (k + 1) c16) (k + 1) (rcNew now (m.rc.take k) ++ [.string p.1, .string p.2, .int .i64 0, .int .i64 now])], [Res.row 105 4 (.slice (some ⟨wr.heap.size, 0, none⟩) 1 1) (1) ([.string p.1, .string p.2, .int .i64 0, .int .i64 now])], [Res.row 9 1 (.slice q2 m.body.length d2) (m.body.length) (m.body.map Value.string)], [Res.cells (w.heap.size + 1 + 1) [.int .i64 0, .slice none 0 0]], [Res.cells (w.heap.size + 1) [.string m.fu, .string m.fd, .slice (some ⟨b, off, none⟩) m.rc.length c1, .slice a2 m.body.length c2]], [Res.cells (w.heap.size) [.int .i64 s.last, .slice ao s.items.length cap]]]) := ⟨(S7.out).set 3 (.slice bo15 (k + 1) c16) (by simp)⟩
        go_simp
        refine hK.out _ _ ⟨(S8.out.cellsM 5 rfl).c 2 _ rfl, (heldc c0 S8.out.below), (heldc c1' S8.out.below)⟩ (fun hHeld => ?_)
        clear hK K
        try simp only [Act.put, List.getElem_toArray, List.getElem_cons_succ, List.getElem_cons_zero, List.setIfInBounds_toArray, List.set_cons_zero, List.set_cons_succ]
        clear oc0 of0
        refine wpAnyH_done (by kernel_rfl) ?_ _
        have SZ : Seal (Pt w _ [[Res.cells k7 [.int .i64 (s.last + 1), .string m.fu, .string m.fd, .slice bo15 (k + 1) c16, .slice q2 m.body.length d2]], [Res.row 105 4 (.slice bo15 (k + 1) c16) (k + 1) (rcNew now (m.rc.take (k + 1)))], [Res.row 9 1 (.slice q2 m.body.length d2) (m.body.length) (m.body.map Value.string)], [Res.cells (w.heap.size + 1 + 1) [.int .i64 0, .slice none 0 0]], [Res.cells (w.heap.size + 1) [.string m.fu, .string m.fd, .slice (some ⟨b, off, none⟩) m.rc.length c1, .slice a2 m.body.length c2]], [Res.cells (w.heap.size) [.int .i64 s.last, .slice ao s.items.length cap]]]) := ⟨by rw [← HE.out]; exact (Pt.prefix (As := [[Res.cells (k7) [.int .i64 (s.last + 1), .string m.fu, .string m.fd, .slice bo15 (k + 1) c16, .slice q2 m.body.length d2]], [Res.row 105 4 (.slice bo15 (k + 1) c16) (k + 1) (rcNew now (m.rc.take k) ++ [.string p.1, .string p.2, .int .i64 0, .int .i64 now])], [Res.row 9 1 (.slice q2 m.body.length d2) (m.body.length) (m.body.map Value.string)], [Res.cells (w.heap.size + 1 + 1) [.int .i64 0, .slice none 0 0]], [Res.cells (w.heap.size + 1) [.string m.fu, .string m.fd, .slice (some ⟨b, off, none⟩) m.rc.length c1, .slice a2 m.body.length c2]], [Res.cells (w.heap.size) [.int .i64 s.last, .slice ao s.items.length cap]]]) (Bs := [[Res.row 105 4 (.slice (some ⟨wr.heap.size, 0, none⟩) 1 1) (1) ([.string p.1, .string p.2, .int .i64 0, .int .i64 now])]]) (Pt.bring ((Pt.bring ((Pt.bring ((Pt.bring ((Pt.bring ((Pt.bring (S8.out) 6 rfl)) 6 rfl)) 6 rfl)) 6 rfl)) 5 rfl)) 5 rfl))⟩
        go_wp2
        go_roundw
        case rel => exact ⟨k + 1, bo15, c16, by omega, by go_num, SZ⟩
        case measure => simp [intOf]; omega
      · have S5 : Seal (Pt w (wr.alloc (.cells #[.string p.1, .string p.2, .int .i64 0, .int .i64 now] 105)).drew [[Res.row 105 4 (.slice (some ⟨wr.heap.size, 0, none⟩) 1 1) (1) ([.string p.1, .string p.2, .int .i64 0, .int .i64 now])], [Res.cells (k7) [.int .i64 (s.last + 1), .string m.fu, .string m.fd, .slice ro k rc, .slice q2 m.body.length d2]], [Res.row 105 4 (.slice ro k rc) (k) (rcNew now (m.rc.take k))], [Res.row 9 1 (.slice q2 m.body.length d2) (m.body.length) (m.body.map Value.string)], [Res.cells (w.heap.size + 1 + 1) [.int .i64 0, .slice none 0 0]], [Res.cells (w.heap.size + 1) [.string m.fu, .string m.fd, .slice (some ⟨b, off, none⟩) m.rc.length c1, .slice a2 m.body.length c2]], [Res.cells (w.heap.size) [.int .i64 s.last, .slice ao s.items.length cap]]]) := ⟨Pt.built S4.out #[.string p.1, .string p.2, .int .i64 0, .int .i64 now] 105 4 1 (by decide) rfl⟩
        go_simp
        refine hK.out _ _ ⟨(S5.out.cellsM 5 rfl).c 2 _ rfl, (heldc c0 S5.out.below), (heldc c1' S5.out.below)⟩ (fun hHeld => ?_)
        clear hK K
        try simp only [Act.put, List.getElem_toArray, List.getElem_cons_succ, List.getElem_cons_zero, List.setIfInBounds_toArray, List.set_cons_zero, List.set_cons_succ]
        refine wpAnyH_ready (rs := [1]) (by kernel_rfl) (by simp) ?_
        refine AllReadyH.cons rfl (fun K hK => ?_) AllReadyH.nil
        have ol0 := (S5.out.cellsM 1 rfl).c 3 _ rfl
        go_simp
        refine hK.out _ _ ⟨(S5.out.cellsM 5 rfl).c 2 _ rfl, (heldc c0 S5.out.below), (heldc c1' S5.out.below)⟩ (fun hHeld => ?_)
        clear hK K
        try simp only [Act.put, List.getElem_toArray, List.getElem_cons_succ, List.getElem_cons_zero, List.setIfInBounds_toArray, List.set_cons_zero, List.set_cons_succ]
        clear ol0
        refine wpAnyH_ready (rs := [10]) (by kernel_rfl) (by simp) ?_
        refine AllReadyH.cons rfl (fun K hK => ?_) AllReadyH.nil
        have SH5 : Seal (Pt w (wr.alloc (.cells #[.string p.1, .string p.2, .int .i64 0, .int .i64 now] 105)).drew [[Res.row 105 4 (.slice ro k rc) (k) (rcNew now (m.rc.take k))], [Res.row 105 4 (.slice (some ⟨wr.heap.size, 0, none⟩) 1 1) (1) ([.string p.1, .string p.2, .int .i64 0, .int .i64 now])], [Res.cells (k7) [.int .i64 (s.last + 1), .string m.fu, .string m.fd, .slice ro k rc, .slice q2 m.body.length d2]], [Res.row 9 1 (.slice q2 m.body.length d2) (m.body.length) (m.body.map Value.string)], [Res.cells (w.heap.size + 1 + 1) [.int .i64 0, .slice none 0 0]], [Res.cells (w.heap.size + 1) [.string m.fu, .string m.fd, .slice (some ⟨b, off, none⟩) m.rc.length c1, .slice a2 m.body.length c2]], [Res.cells (w.heap.size) [.int .i64 s.last, .slice ao s.items.length cap]]]) := ⟨S5.out.bring 2 rfl⟩
        have OW5 : Seal _ := ⟨Pt.row1 SH5.out 0 rfl⟩
        have SR5 : Seal _ := ⟨(Pt.row1 S5.out 0 rfl)⟩
        refine step_append_any rfl _ _ 41 rfl 0 105 iRcpt (.agg #[.string ByteArray.empty, .string ByteArray.empty, .int .i64 0, .int .i64 0]) 4 48 Tryz.underlying41 hiRcpt hz0Rcpt hz1Rcpt hz2Rcpt rfl (by decide) (.slice ro k rc) (k) (rcNew now (m.rc.take k)) (by rfl) OW5.out ((some ⟨wr.heap.size, 0, none⟩)) (1) (1) ([.string p.1, .string p.2, .int .i64 0, .int .i64 now]) (by rfl) SR5.out (rcpt_cells_one (newRcpt now p)) (by unfold maxLen; omega) (by omega) (Nat.zero_le _) ?_
        intro v17 u18 hown hg hat
        have S6 : Seal (Pt w u18 [[Res.row 105 4 (v17) (k + 1) (rcNew now (m.rc.take k) ++ [.string p.1, .string p.2, .int .i64 0, .int .i64 now])], [Res.row 105 4 (.slice (some ⟨wr.heap.size, 0, none⟩) 1 1) (1) ([.string p.1, .string p.2, .int .i64 0, .int .i64 now])], [Res.cells (k7) [.int .i64 (s.last + 1), .string m.fu, .string m.fd, .slice ro k rc, .slice q2 m.body.length d2]], [Res.row 9 1 (.slice q2 m.body.length d2) (m.body.length) (m.body.map Value.string)], [Res.cells (w.heap.size + 1 + 1) [.int .i64 0, .slice none 0 0]], [Res.cells (w.heap.size + 1) [.string m.fu, .string m.fd, .slice (some ⟨b, off, none⟩) m.rc.length c1, .slice a2 m.body.length c2]], [Res.cells (w.heap.size) [.int .i64 s.last, .slice ao s.items.length cap]]]) := ⟨Pt.app SH5.out hown hg (by simpa using hat)⟩
        obtain ⟨bo19, c20, rfl, _⟩ := row_value (Pt.row1 S6.out 0 rfl)
        clear hown hg hat SH5 OW5 SR5
        refine hK.out _ _ ⟨(S6.out.cellsM 5 rfl).c 2 _ rfl, (heldc c0 S6.out.below), (heldc c1' S6.out.below)⟩ (fun hHeld => ?_)
        clear hK K
        try simp only [Act.put, List.getElem_toArray, List.getElem_cons_succ, List.getElem_cons_zero, List.setIfInBounds_toArray, List.set_cons_zero, List.set_cons_succ]
        refine tkH 11 (by assumption) (h := ?_)
        refine wpAnyH_ready (rs := [12]) (by kernel_rfl) (by simp) ?_
        refine AllReadyH.cons rfl (fun K hK => ?_) AllReadyH.nil
        have S7 : Seal (Pt w u18 [[Res.cells (k7) [.int .i64 (s.last + 1), .string m.fu, .string m.fd, .slice ro k rc, .slice q2 m.body.length d2]], [Res.row 105 4 (.slice bo19 (k + 1) c20) (k + 1) (rcNew now (m.rc.take k) ++ [.string p.1, .string p.2, .int .i64 0, .int .i64 now])], [Res.row 105 4 (.slice (some ⟨wr.heap.size, 0, none⟩) 1 1) (1) ([.string p.1, .string p.2, .int .i64 0, .int .i64 now])], [Res.row 9 1 (.slice q2 m.body.length d2) (m.body.length) (m.body.map Value.string)], [Res.cells (w.heap.size + 1 + 1) [.int .i64 0, .slice none 0 0]], [Res.cells (w.heap.size + 1) [.string m.fu, .string m.fd, .slice (some ⟨b, off, none⟩) m.rc.length c1, .slice a2 m.body.length c2]], [Res.cells (w.heap.size) [.int .i64 s.last, .slice ao s.items.length cap]]]) := ⟨S6.out.bring 2 rfl⟩
        have oc0 := (S7.out.cellsM 0 rfl).c 3 _ rfl
        have of0 := (S7.out.cellsM 0 rfl).f 3 (by simp)
        have S8 : Seal (Pt w (u18.setCell ⟨k7, 3, none⟩ (.slice bo19 (k + 1) c20)) [[Res.cells (k7) [.int .i64 (s.last + 1), .string m.fu, .string m.fd, .slice bo19 (k + 1) c20, .slice q2 m.body.length d2]], [Res.row 105 4 (.slice bo19 (k + 1) c20) (k + 1) (rcNew now (m.rc.take k) ++ [.string p.1, .string p.2, .int .i64 0, .int .i64 now])], [Res.row 105 4 (.slice (some ⟨wr.heap.size, 0, none⟩) 1 1) (1) ([.string p.1, .string p.2, .int .i64 0, .int .i64 now])], [Res.row 9 1 (.slice q2 m.body.length d2) (m.body.length) (m.body.map Value.string)], [Res.cells (w.heap.size + 1 + 1) [.int .i64 0, .slice none 0 0]], [Res.cells (w.heap.size + 1) [.string m.fu, .string m.fd, .slice (some ⟨b, off, none⟩) m.rc.length c1, .slice a2 m.body.length c2]], [Res.cells (w.heap.size) [.int .i64 s.last, .slice ao s.items.length cap]]]) := ⟨(S7.out).set 3 (.slice bo19 (k + 1) c20) (by simp)⟩
        go_simp
        refine hK.out _ _ ⟨(S8.out.cellsM 5 rfl).c 2 _ rfl, (heldc c0 S8.out.below), (heldc c1' S8.out.below)⟩ (fun hHeld => ?_)
        clear hK K
        try simp only [Act.put, List.getElem_toArray, List.getElem_cons_succ, List.getElem_cons_zero, List.setIfInBounds_toArray, List.set_cons_zero, List.set_cons_succ]
        clear oc0 of0
        refine wpAnyH_done (by kernel_rfl) ?_ _
        have SZ : Seal (Pt w _ [[Res.cells k7 [.int .i64 (s.last + 1), .string m.fu, .string m.fd, .slice bo19 (k + 1) c20, .slice q2 m.body.length d2]], [Res.row 105 4 (.slice bo19 (k + 1) c20) (k + 1) (rcNew now (m.rc.take (k + 1)))], [Res.row 9 1 (.slice q2 m.body.length d2) (m.body.length) (m.body.map Value.string)], [Res.cells (w.heap.size + 1 + 1) [.int .i64 0, .slice none 0 0]], [Res.cells (w.heap.size + 1) [.string m.fu, .string m.fd, .slice (some ⟨b, off, none⟩) m.rc.length c1, .slice a2 m.body.length c2]], [Res.cells (w.heap.size) [.int .i64 s.last, .slice ao s.items.length cap]]]) := ⟨by rw [← HE.out]; exact (Pt.prefix (As := [[Res.cells (k7) [.int .i64 (s.last + 1), .string m.fu, .string m.fd, .slice bo19 (k + 1) c20, .slice q2 m.body.length d2]], [Res.row 105 4 (.slice bo19 (k + 1) c20) (k + 1) (rcNew now (m.rc.take k) ++ [.string p.1, .string p.2, .int .i64 0, .int .i64 now])], [Res.row 9 1 (.slice q2 m.body.length d2) (m.body.length) (m.body.map Value.string)], [Res.cells (w.heap.size + 1 + 1) [.int .i64 0, .slice none 0 0]], [Res.cells (w.heap.size + 1) [.string m.fu, .string m.fd, .slice (some ⟨b, off, none⟩) m.rc.length c1, .slice a2 m.body.length c2]], [Res.cells (w.heap.size) [.int .i64 s.last, .slice ao s.items.length cap]]]) (Bs := [[Res.row 105 4 (.slice (some ⟨wr.heap.size, 0, none⟩) 1 1) (1) ([.string p.1, .string p.2, .int .i64 0, .int .i64 now])]]) (Pt.bring ((Pt.bring ((Pt.bring ((Pt.bring ((Pt.bring ((Pt.bring (S8.out) 6 rfl)) 6 rfl)) 6 rfl)) 6 rfl)) 5 rfl)) 5 rfl))⟩
        go_wp2
        go_roundw
        case rel => exact ⟨k + 1, bo19, c20, by omega, by go_num, SZ⟩
        case measure => simp [intOf]; omega
    · obtain rfl : k = m.rc.length := by omega
      have S4 : Seal (Pt w wr [[Res.cells (k7) [.int .i64 (s.last + 1), .string m.fu, .string m.fd, .slice ro m.rc.length rc, .slice q2 m.body.length d2]], [Res.row 105 4 (.slice ro m.rc.length rc) (m.rc.length) (rcNew now m.rc)], [Res.row 9 1 (.slice q2 m.body.length d2) (m.body.length) (m.body.map Value.string)], [Res.cells (w.heap.size + 1 + 1) [.int .i64 0, .slice none 0 0]], [Res.cells (w.heap.size + 1) [.string m.fu, .string m.fd, .slice a1 m.rc.length c1, .slice a2 m.body.length c2]], [Res.cells (w.heap.size) [.int .i64 s.last, .slice ao s.items.length cap]]]) := ⟨by have h := S.out; rw [List.take_length] at h; exact h⟩
      clear S
      have o0 := (S4.out.cellsM 5 rfl).c 0 _ rfl
      have f0 := (S4.out.cellsM 5 rfl).f 0 (by simp)
      have o1 := (S4.out.cellsM 5 rfl).c 1 _ rfl
      have S5 : Seal (Pt w (wr.setCell ⟨w.heap.size, 0, none⟩ (.int .i64 (s.last + 1))) [[Res.cells (w.heap.size) [.int .i64 (s.last + 1), .slice ao s.items.length cap]], [Res.cells (k7) [.int .i64 (s.last + 1), .string m.fu, .string m.fd, .slice ro m.rc.length rc, .slice q2 m.body.length d2]], [Res.row 105 4 (.slice ro m.rc.length rc) (m.rc.length) (rcNew now m.rc)], [Res.row 9 1 (.slice q2 m.body.length d2) (m.body.length) (m.body.map Value.string)], [Res.cells (w.heap.size + 1 + 1) [.int .i64 0, .slice none 0 0]], [Res.cells (w.heap.size + 1) [.string m.fu, .string m.fd, .slice a1 m.rc.length c1, .slice a2 m.body.length c2]]]) := ⟨(S4.out.bring 5 rfl).set 0 (.int .i64 (s.last + 1)) (by simp)⟩
      go_upto_region 7 with fail
      clear o0 f0 o1 g2 S4
      generalize wr.setCell ⟨w.heap.size, 0, none⟩ (.int .i64 (s.last + 1)) = w5 at *
      go_cut [] (fun wx => ∃ (bo : Option Addr) (c : Nat), Pt w wx [[Res.cells w.heap.size [.int .i64 (s.last + 1), .slice bo (s.items.length + 1) c]], [Res.row 43 5 (.slice bo (s.items.length + 1) c) (s.items.length + 1) (itemE.all s.items ps ++ [.int .i64 (s.last + 1), .string m.fu, .string m.fd, .slice ro m.rc.length rc, .slice q2 m.body.length d2])], [Res.cells (k7) [.int .i64 (s.last + 1), .string m.fu, .string m.fd, .slice ro m.rc.length rc, .slice q2 m.body.length d2]], [Res.row 105 4 (.slice ro m.rc.length rc) (m.rc.length) (rcNew now m.rc)], [Res.row 9 1 (.slice q2 m.body.length d2) (m.body.length) (m.body.map Value.string)], [Res.cells (w.heap.size + 1) [.string m.fu, .string m.fd, .slice a1 m.rc.length c1, .slice a2 m.body.length c2]], [Res.cells (w.heap.size + 1 + 1) [.int .i64 0, .slice none 0 0]]])
      case first =>
        have S6 : Seal (Pt w w5.drew [[Res.cells (w.heap.size) [.int .i64 (s.last + 1), .slice ao s.items.length cap]], [Res.cells (k7) [.int .i64 (s.last + 1), .string m.fu, .string m.fd, .slice ro m.rc.length rc, .slice q2 m.body.length d2]], [Res.row 105 4 (.slice ro m.rc.length rc) (m.rc.length) (rcNew now m.rc)], [Res.row 9 1 (.slice q2 m.body.length d2) (m.body.length) (m.body.map Value.string)], [Res.cells (w.heap.size + 1 + 1) [.int .i64 0, .slice none 0 0]], [Res.cells (w.heap.size + 1) [.string m.fu, .string m.fd, .slice a1 m.rc.length c1, .slice a2 m.body.length c2]]]) := ⟨S5.out.drew⟩
        refine wp_region_held_drew (S := (fun w' => w'.cell? ⟨k7, 0, none⟩ = some (.int .i64 (s.last + 1)) ∧ w'.cell? ⟨k7, 1, none⟩ = some (.string m.fu) ∧ w'.cell? ⟨k7, 2, none⟩ = some (.string m.fd) ∧ w'.cell? ⟨k7, 3, none⟩ = some (.slice ro m.rc.length rc) ∧ w'.cell? ⟨k7, 4, none⟩ = some (.slice q2 m.body.length d2))) (by kernel_rfl) ⟨(S6.out.cellsM 1 rfl).c 0 _ rfl, (S6.out.cellsM 1 rfl).c 1 _ rfl, (S6.out.cellsM 1 rfl).c 2 _ rfl, (S6.out.cellsM 1 rfl).c 3 _ rfl, (S6.out.cellsM 1 rfl).c 4 _ rfl⟩ (fun hHeld => ?_)
        refine tkH 1 (by assumption) (h := ?_)
        refine tkH 4 (by assumption) (h := ?_)
        refine wpAnyH_ready (rs := [0, 2, 5]) (by kernel_rfl) (by simp) ?_
        refine AllReadyH.cons rfl (fun K hK => ?_) (AllReadyH.cons rfl (fun K hK => ?_) (AllReadyH.cons rfl (fun K hK => ?_) AllReadyH.nil))
        · have S7 : Seal (Pt w (w5.alloc (.cells #[] 43)).drew [[Res.row 43 5 (.slice (some ⟨w5.heap.size, 0, none⟩) 0 0) (0) ([])], [Res.cells (w.heap.size) [.int .i64 (s.last + 1), .slice ao s.items.length cap]], [Res.cells (k7) [.int .i64 (s.last + 1), .string m.fu, .string m.fd, .slice ro m.rc.length rc, .slice q2 m.body.length d2]], [Res.row 105 4 (.slice ro m.rc.length rc) (m.rc.length) (rcNew now m.rc)], [Res.row 9 1 (.slice q2 m.body.length d2) (m.body.length) (m.body.map Value.string)], [Res.cells (w.heap.size + 1 + 1) [.int .i64 0, .slice none 0 0]], [Res.cells (w.heap.size + 1) [.string m.fu, .string m.fd, .slice a1 m.rc.length c1, .slice a2 m.body.length c2]]]) := ⟨Pt.built S6.out #[] 43 5 0 (by decide) rfl⟩
          go_simp
          refine hK.out _ _ ⟨(S7.out.cellsM 2 rfl).c 0 _ rfl, (S7.out.cellsM 2 rfl).c 1 _ rfl, (S7.out.cellsM 2 rfl).c 2 _ rfl, (S7.out.cellsM 2 rfl).c 3 _ rfl, (S7.out.cellsM 2 rfl).c 4 _ rfl⟩ (fun hHeld => ?_)
          clear hK K
          try simp only [Act.put, List.getElem_toArray, List.getElem_cons_succ, List.getElem_cons_zero, List.setIfInBounds_toArray, List.set_cons_zero, List.set_cons_succ]
          refine wpAnyH_ready (rs := [2, 5]) (by kernel_rfl) (by simp) ?_
          refine AllReadyH.cons rfl (fun K hK => ?_) (AllReadyH.cons rfl (fun K hK => ?_) AllReadyH.nil)
          · have ol0 := (S7.out.cellsM 1 rfl).c 1 _ rfl
            go_simp
            refine hK.out _ _ ⟨(S7.out.cellsM 2 rfl).c 0 _ rfl, (S7.out.cellsM 2 rfl).c 1 _ rfl, (S7.out.cellsM 2 rfl).c 2 _ rfl, (S7.out.cellsM 2 rfl).c 3 _ rfl, (S7.out.cellsM 2 rfl).c 4 _ rfl⟩ (fun hHeld => ?_)
            clear hK K
            try simp only [Act.put, List.getElem_toArray, List.getElem_cons_succ, List.getElem_cons_zero, List.setIfInBounds_toArray, List.set_cons_zero, List.set_cons_succ]
            clear ol0
            refine wpAnyH_ready (rs := [3, 5]) (by kernel_rfl) (by simp) ?_
            refine AllReadyH.cons rfl (fun K hK => ?_) (AllReadyH.cons rfl (fun K hK => ?_) AllReadyH.nil)
            · have SH7 : Seal (Pt w (w5.alloc (.cells #[] 43)).drew [[Res.row 43 5 (.slice (some ⟨w5.heap.size, 0, none⟩) 0 0) (0) ([])], [Res.cells (w.heap.size) [.int .i64 (s.last + 1), .slice ao s.items.length cap]], [Res.cells (k7) [.int .i64 (s.last + 1), .string m.fu, .string m.fd, .slice ro m.rc.length rc, .slice q2 m.body.length d2]], [Res.row 105 4 (.slice ro m.rc.length rc) (m.rc.length) (rcNew now m.rc)], [Res.row 9 1 (.slice q2 m.body.length d2) (m.body.length) (m.body.map Value.string)], [Res.cells (w.heap.size + 1 + 1) [.int .i64 0, .slice none 0 0]], [Res.cells (w.heap.size + 1) [.string m.fu, .string m.fd, .slice a1 m.rc.length c1, .slice a2 m.body.length c2]]]) := ⟨S7.out.bring 0 rfl⟩
              have OW7 : Seal _ := ⟨Pt.row1 SH7.out 0 rfl⟩
              have SR7 : Seal _ := ⟨((HS.out.later S7.out.below).get List.mem_cons_self)⟩
              refine step_append_first rfl _ _ 23 rfl 0 43 iItem (.agg #[.int .i64 0, .string ByteArray.empty, .string ByteArray.empty, .slice none 0 0, .slice none 0 0]) 5 88 Tryz.underlying23 hiItem hz0Item hz1Item hz2Item rfl (by decide) (.slice (some ⟨w5.heap.size, 0, none⟩) 0 0) (by rfl) OW7.out (ao) (s.items.length) (cap) (itemE.all s.items ps) (by rfl) SR7.out (by first | exact items_all_one _ _ | (intro u hu; simp only [List.mem_cons, List.not_mem_nil, or_false] at hu; rcases hu with rfl | rfl | rfl | rfl | rfl <;> rfl)) (by unfold maxLen; omega) (by omega) (Nat.zero_le _) ?_
              intro v21 u22 hown hg hat
              have S8 : Seal (Pt w u22 [[Res.row 43 5 (v21) (s.items.length) (itemE.all s.items ps)], [Res.cells (w.heap.size) [.int .i64 (s.last + 1), .slice ao s.items.length cap]], [Res.cells (k7) [.int .i64 (s.last + 1), .string m.fu, .string m.fd, .slice ro m.rc.length rc, .slice q2 m.body.length d2]], [Res.row 105 4 (.slice ro m.rc.length rc) (m.rc.length) (rcNew now m.rc)], [Res.row 9 1 (.slice q2 m.body.length d2) (m.body.length) (m.body.map Value.string)], [Res.cells (w.heap.size + 1 + 1) [.int .i64 0, .slice none 0 0]], [Res.cells (w.heap.size + 1) [.string m.fu, .string m.fd, .slice a1 m.rc.length c1, .slice a2 m.body.length c2]]]) := ⟨Pt.app SH7.out hown hg (by simpa using hat)⟩
              obtain ⟨bo23, c24, rfl, _⟩ := row_value (Pt.row1 S8.out 0 rfl)
              clear hown hg hat SH7 OW7 SR7
              refine hK.out _ _ ⟨(S8.out.cellsM 2 rfl).c 0 _ rfl, (S8.out.cellsM 2 rfl).c 1 _ rfl, (S8.out.cellsM 2 rfl).c 2 _ rfl, (S8.out.cellsM 2 rfl).c 3 _ rfl, (S8.out.cellsM 2 rfl).c 4 _ rfl⟩ (fun hHeld => ?_)
              clear hK K
              try simp only [Act.put, List.getElem_toArray, List.getElem_cons_succ, List.getElem_cons_zero, List.setIfInBounds_toArray, List.set_cons_zero, List.set_cons_succ]
              refine wpAnyH_ready (rs := [5]) (by kernel_rfl) (by simp) ?_
              refine AllReadyH.cons rfl (fun K hK => ?_) AllReadyH.nil
              have S9 : Seal (Pt w (u22.alloc (.cells #[.int .i64 (s.last + 1), .string m.fu, .string m.fd, .slice ro m.rc.length rc, .slice q2 m.body.length d2] 43)) [[Res.row 43 5 (.slice (some ⟨u22.heap.size, 0, none⟩) 1 1) (1) ([.int .i64 (s.last + 1), .string m.fu, .string m.fd, .slice ro m.rc.length rc, .slice q2 m.body.length d2])], [Res.row 43 5 (.slice bo23 (s.items.length) c24) (s.items.length) (itemE.all s.items ps)], [Res.cells (w.heap.size) [.int .i64 (s.last + 1), .slice ao s.items.length cap]], [Res.cells (k7) [.int .i64 (s.last + 1), .string m.fu, .string m.fd, .slice ro m.rc.length rc, .slice q2 m.body.length d2]], [Res.row 105 4 (.slice ro m.rc.length rc) (m.rc.length) (rcNew now m.rc)], [Res.row 9 1 (.slice q2 m.body.length d2) (m.body.length) (m.body.map Value.string)], [Res.cells (w.heap.size + 1 + 1) [.int .i64 0, .slice none 0 0]], [Res.cells (w.heap.size + 1) [.string m.fu, .string m.fd, .slice a1 m.rc.length c1, .slice a2 m.body.length c2]]]) := ⟨Pt.built S8.out #[.int .i64 (s.last + 1), .string m.fu, .string m.fd, .slice ro m.rc.length rc, .slice q2 m.body.length d2] 43 5 1 (by decide) rfl⟩
              go_simp
              refine hK.out _ _ ⟨(S9.out.cellsM 3 rfl).c 0 _ rfl, (S9.out.cellsM 3 rfl).c 1 _ rfl, (S9.out.cellsM 3 rfl).c 2 _ rfl, (S9.out.cellsM 3 rfl).c 3 _ rfl, (S9.out.cellsM 3 rfl).c 4 _ rfl⟩ (fun hHeld => ?_)
              clear hK K
              try simp only [Act.put, List.getElem_toArray, List.getElem_cons_succ, List.getElem_cons_zero, List.setIfInBounds_toArray, List.set_cons_zero, List.set_cons_succ]
              refine wpAnyH_ready (rs := [6]) (by kernel_rfl) (by simp) ?_
              refine AllReadyH.cons rfl (fun K hK => ?_) AllReadyH.nil
              have SH9 : Seal (Pt w (u22.alloc (.cells #[.int .i64 (s.last + 1), .string m.fu, .string m.fd, .slice ro m.rc.length rc, .slice q2 m.body.length d2] 43)) [[Res.row 43 5 (.slice bo23 (s.items.length) c24) (s.items.length) (itemE.all s.items ps)], [Res.row 43 5 (.slice (some ⟨u22.heap.size, 0, none⟩) 1 1) (1) ([.int .i64 (s.last + 1), .string m.fu, .string m.fd, .slice ro m.rc.length rc, .slice q2 m.body.length d2])], [Res.cells (w.heap.size) [.int .i64 (s.last + 1), .slice ao s.items.length cap]], [Res.cells (k7) [.int .i64 (s.last + 1), .string m.fu, .string m.fd, .slice ro m.rc.length rc, .slice q2 m.body.length d2]], [Res.row 105 4 (.slice ro m.rc.length rc) (m.rc.length) (rcNew now m.rc)], [Res.row 9 1 (.slice q2 m.body.length d2) (m.body.length) (m.body.map Value.string)], [Res.cells (w.heap.size + 1 + 1) [.int .i64 0, .slice none 0 0]], [Res.cells (w.heap.size + 1) [.string m.fu, .string m.fd, .slice a1 m.rc.length c1, .slice a2 m.body.length c2]]]) := ⟨S9.out.bring 1 rfl⟩
              have OW9 : Seal _ := ⟨Pt.row1 SH9.out 0 rfl⟩
              have SR9 : Seal _ := ⟨(Pt.row1 S9.out 0 rfl)⟩
              refine step_append_any rfl _ _ 23 rfl 0 43 iItem (.agg #[.int .i64 0, .string ByteArray.empty, .string ByteArray.empty, .slice none 0 0, .slice none 0 0]) 5 88 Tryz.underlying23 hiItem hz0Item hz1Item hz2Item rfl (by decide) (.slice bo23 (s.items.length) c24) (s.items.length) (itemE.all s.items ps) (by rfl) OW9.out ((some ⟨u22.heap.size, 0, none⟩)) (1) (1) ([.int .i64 (s.last + 1), .string m.fu, .string m.fd, .slice ro m.rc.length rc, .slice q2 m.body.length d2]) (by rfl) SR9.out (by first | exact items_all_one _ _ | (intro u hu; simp only [List.mem_cons, List.not_mem_nil, or_false] at hu; rcases hu with rfl | rfl | rfl | rfl | rfl <;> rfl)) (by unfold maxLen; omega) (by omega) (Nat.zero_le _) ?_
              intro v25 u26 hown hg hat
              have S10 : Seal (Pt w u26 [[Res.row 43 5 (v25) (s.items.length + 1) (itemE.all s.items ps ++ [.int .i64 (s.last + 1), .string m.fu, .string m.fd, .slice ro m.rc.length rc, .slice q2 m.body.length d2])], [Res.row 43 5 (.slice (some ⟨u22.heap.size, 0, none⟩) 1 1) (1) ([.int .i64 (s.last + 1), .string m.fu, .string m.fd, .slice ro m.rc.length rc, .slice q2 m.body.length d2])], [Res.cells (w.heap.size) [.int .i64 (s.last + 1), .slice ao s.items.length cap]], [Res.cells (k7) [.int .i64 (s.last + 1), .string m.fu, .string m.fd, .slice ro m.rc.length rc, .slice q2 m.body.length d2]], [Res.row 105 4 (.slice ro m.rc.length rc) (m.rc.length) (rcNew now m.rc)], [Res.row 9 1 (.slice q2 m.body.length d2) (m.body.length) (m.body.map Value.string)], [Res.cells (w.heap.size + 1 + 1) [.int .i64 0, .slice none 0 0]], [Res.cells (w.heap.size + 1) [.string m.fu, .string m.fd, .slice a1 m.rc.length c1, .slice a2 m.body.length c2]]]) := ⟨Pt.app SH9.out hown hg (by simpa using hat)⟩
              obtain ⟨bo27, c28, rfl, _⟩ := row_value (Pt.row1 S10.out 0 rfl)
              clear hown hg hat SH9 OW9 SR9
              refine hK.out _ _ ⟨(S10.out.cellsM 3 rfl).c 0 _ rfl, (S10.out.cellsM 3 rfl).c 1 _ rfl, (S10.out.cellsM 3 rfl).c 2 _ rfl, (S10.out.cellsM 3 rfl).c 3 _ rfl, (S10.out.cellsM 3 rfl).c 4 _ rfl⟩ (fun hHeld => ?_)
              clear hK K
              try simp only [Act.put, List.getElem_toArray, List.getElem_cons_succ, List.getElem_cons_zero, List.setIfInBounds_toArray, List.set_cons_zero, List.set_cons_succ]
              refine tkH 7 (by assumption) (h := ?_)
              refine wpAnyH_ready (rs := [8]) (by kernel_rfl) (by simp) ?_
              refine AllReadyH.cons rfl (fun K hK => ?_) AllReadyH.nil
              have S11 : Seal (Pt w u26 [[Res.cells (w.heap.size) [.int .i64 (s.last + 1), .slice ao s.items.length cap]], [Res.row 43 5 (.slice bo27 (s.items.length + 1) c28) (s.items.length + 1) (itemE.all s.items ps ++ [.int .i64 (s.last + 1), .string m.fu, .string m.fd, .slice ro m.rc.length rc, .slice q2 m.body.length d2])], [Res.row 43 5 (.slice (some ⟨u22.heap.size, 0, none⟩) 1 1) (1) ([.int .i64 (s.last + 1), .string m.fu, .string m.fd, .slice ro m.rc.length rc, .slice q2 m.body.length d2])], [Res.cells (k7) [.int .i64 (s.last + 1), .string m.fu, .string m.fd, .slice ro m.rc.length rc, .slice q2 m.body.length d2]], [Res.row 105 4 (.slice ro m.rc.length rc) (m.rc.length) (rcNew now m.rc)], [Res.row 9 1 (.slice q2 m.body.length d2) (m.body.length) (m.body.map Value.string)], [Res.cells (w.heap.size + 1 + 1) [.int .i64 0, .slice none 0 0]], [Res.cells (w.heap.size + 1) [.string m.fu, .string m.fd, .slice a1 m.rc.length c1, .slice a2 m.body.length c2]]]) := ⟨S10.out.bring 2 rfl⟩
              have oc0 := (S11.out.cellsM 0 rfl).c 1 _ rfl
              have of0 := (S11.out.cellsM 0 rfl).f 1 (by simp)
              have S12 : Seal (Pt w (u26.setCell ⟨w.heap.size, 1, none⟩ (.slice bo27 (s.items.length + 1) c28)) [[Res.cells (w.heap.size) [.int .i64 (s.last + 1), .slice bo27 (s.items.length + 1) c28]], [Res.row 43 5 (.slice bo27 (s.items.length + 1) c28) (s.items.length + 1) (itemE.all s.items ps ++ [.int .i64 (s.last + 1), .string m.fu, .string m.fd, .slice ro m.rc.length rc, .slice q2 m.body.length d2])], [Res.row 43 5 (.slice (some ⟨u22.heap.size, 0, none⟩) 1 1) (1) ([.int .i64 (s.last + 1), .string m.fu, .string m.fd, .slice ro m.rc.length rc, .slice q2 m.body.length d2])], [Res.cells (k7) [.int .i64 (s.last + 1), .string m.fu, .string m.fd, .slice ro m.rc.length rc, .slice q2 m.body.length d2]], [Res.row 105 4 (.slice ro m.rc.length rc) (m.rc.length) (rcNew now m.rc)], [Res.row 9 1 (.slice q2 m.body.length d2) (m.body.length) (m.body.map Value.string)], [Res.cells (w.heap.size + 1 + 1) [.int .i64 0, .slice none 0 0]], [Res.cells (w.heap.size + 1) [.string m.fu, .string m.fd, .slice a1 m.rc.length c1, .slice a2 m.body.length c2]]]) := ⟨(S11.out).set 1 (.slice bo27 (s.items.length + 1) c28) (by simp)⟩
              go_simp
              refine hK.out _ _ ⟨(S12.out.cellsM 3 rfl).c 0 _ rfl, (S12.out.cellsM 3 rfl).c 1 _ rfl, (S12.out.cellsM 3 rfl).c 2 _ rfl, (S12.out.cellsM 3 rfl).c 3 _ rfl, (S12.out.cellsM 3 rfl).c 4 _ rfl⟩ (fun hHeld => ?_)
              clear hK K
              try simp only [Act.put, List.getElem_toArray, List.getElem_cons_succ, List.getElem_cons_zero, List.setIfInBounds_toArray, List.set_cons_zero, List.set_cons_succ]
              clear oc0 of0
              refine wpAnyH_done (by kernel_rfl) ?_ _
              go_wp2_with fail
              go_meet
              exact ⟨bo27, c28, (Pt.prefix (As := [[Res.cells (w.heap.size) [.int .i64 (s.last + 1), .slice bo27 (s.items.length + 1) c28]], [Res.row 43 5 (.slice bo27 (s.items.length + 1) c28) (s.items.length + 1) (itemE.all s.items ps ++ [.int .i64 (s.last + 1), .string m.fu, .string m.fd, .slice ro m.rc.length rc, .slice q2 m.body.length d2])], [Res.cells (k7) [.int .i64 (s.last + 1), .string m.fu, .string m.fd, .slice ro m.rc.length rc, .slice q2 m.body.length d2]], [Res.row 105 4 (.slice ro m.rc.length rc) (m.rc.length) (rcNew now m.rc)], [Res.row 9 1 (.slice q2 m.body.length d2) (m.body.length) (m.body.map Value.string)], [Res.cells (w.heap.size + 1) [.string m.fu, .string m.fd, .slice a1 m.rc.length c1, .slice a2 m.body.length c2]], [Res.cells (w.heap.size + 1 + 1) [.int .i64 0, .slice none 0 0]]]) (Bs := [[Res.row 43 5 (.slice (some ⟨u22.heap.size, 0, none⟩) 1 1) (1) ([.int .i64 (s.last + 1), .string m.fu, .string m.fd, .slice ro m.rc.length rc, .slice q2 m.body.length d2])]]) (Pt.bring ((Pt.bring ((Pt.bring ((Pt.bring ((Pt.bring ((Pt.bring ((Pt.bring (S12.out) 6 rfl)) 7 rfl)) 7 rfl)) 7 rfl)) 7 rfl)) 6 rfl)) 6 rfl))⟩
            · have S8 : Seal (Pt w ((w5.alloc (.cells #[] 43)).alloc (.cells #[.int .i64 (s.last + 1), .string m.fu, .string m.fd, .slice ro m.rc.length rc, .slice q2 m.body.length d2] 43)).drew [[Res.row 43 5 (.slice (some ⟨w5.heap.size + 1, 0, none⟩) 1 1) (1) ([.int .i64 (s.last + 1), .string m.fu, .string m.fd, .slice ro m.rc.length rc, .slice q2 m.body.length d2])], [Res.row 43 5 (.slice (some ⟨w5.heap.size, 0, none⟩) 0 0) (0) ([])], [Res.cells (w.heap.size) [.int .i64 (s.last + 1), .slice ao s.items.length cap]], [Res.cells (k7) [.int .i64 (s.last + 1), .string m.fu, .string m.fd, .slice ro m.rc.length rc, .slice q2 m.body.length d2]], [Res.row 105 4 (.slice ro m.rc.length rc) (m.rc.length) (rcNew now m.rc)], [Res.row 9 1 (.slice q2 m.body.length d2) (m.body.length) (m.body.map Value.string)], [Res.cells (w.heap.size + 1 + 1) [.int .i64 0, .slice none 0 0]], [Res.cells (w.heap.size + 1) [.string m.fu, .string m.fd, .slice a1 m.rc.length c1, .slice a2 m.body.length c2]]]) := ⟨by have h := Pt.built S7.out #[.int .i64 (s.last + 1), .string m.fu, .string m.fd, .slice ro m.rc.length rc, .slice q2 m.body.length d2] 43 5 1 (by decide) rfl; simp only [World.size_alloc, World.size_drew'] at h; exact h⟩
              go_simp
              refine hK.out _ _ ⟨(S8.out.cellsM 3 rfl).c 0 _ rfl, (S8.out.cellsM 3 rfl).c 1 _ rfl, (S8.out.cellsM 3 rfl).c 2 _ rfl, (S8.out.cellsM 3 rfl).c 3 _ rfl, (S8.out.cellsM 3 rfl).c 4 _ rfl⟩ (fun hHeld => ?_)
              clear hK K
              try simp only [Act.put, List.getElem_toArray, List.getElem_cons_succ, List.getElem_cons_zero, List.setIfInBounds_toArray, List.set_cons_zero, List.set_cons_succ]
              refine wpAnyH_ready (rs := [3]) (by kernel_rfl) (by simp) ?_
              refine AllReadyH.cons rfl (fun K hK => ?_) AllReadyH.nil
              have SH8 : Seal (Pt w ((w5.alloc (.cells #[] 43)).alloc (.cells #[.int .i64 (s.last + 1), .string m.fu, .string m.fd, .slice ro m.rc.length rc, .slice q2 m.body.length d2] 43)).drew [[Res.row 43 5 (.slice (some ⟨w5.heap.size, 0, none⟩) 0 0) (0) ([])], [Res.row 43 5 (.slice (some ⟨w5.heap.size + 1, 0, none⟩) 1 1) (1) ([.int .i64 (s.last + 1), .string m.fu, .string m.fd, .slice ro m.rc.length rc, .slice q2 m.body.length d2])], [Res.cells (w.heap.size) [.int .i64 (s.last + 1), .slice ao s.items.length cap]], [Res.cells (k7) [.int .i64 (s.last + 1), .string m.fu, .string m.fd, .slice ro m.rc.length rc, .slice q2 m.body.length d2]], [Res.row 105 4 (.slice ro m.rc.length rc) (m.rc.length) (rcNew now m.rc)], [Res.row 9 1 (.slice q2 m.body.length d2) (m.body.length) (m.body.map Value.string)], [Res.cells (w.heap.size + 1 + 1) [.int .i64 0, .slice none 0 0]], [Res.cells (w.heap.size + 1) [.string m.fu, .string m.fd, .slice a1 m.rc.length c1, .slice a2 m.body.length c2]]]) := ⟨S8.out.bring 1 rfl⟩
              have OW8 : Seal _ := ⟨Pt.row1 SH8.out 0 rfl⟩
              have SR8 : Seal _ := ⟨((HS.out.later S8.out.below).get List.mem_cons_self)⟩
              refine step_append_first rfl _ _ 23 rfl 0 43 iItem (.agg #[.int .i64 0, .string ByteArray.empty, .string ByteArray.empty, .slice none 0 0, .slice none 0 0]) 5 88 Tryz.underlying23 hiItem hz0Item hz1Item hz2Item rfl (by decide) (.slice (some ⟨w5.heap.size, 0, none⟩) 0 0) (by rfl) OW8.out (ao) (s.items.length) (cap) (itemE.all s.items ps) (by rfl) SR8.out (by first | exact items_all_one _ _ | (intro u hu; simp only [List.mem_cons, List.not_mem_nil, or_false] at hu; rcases hu with rfl | rfl | rfl | rfl | rfl <;> rfl)) (by unfold maxLen; omega) (by omega) (Nat.zero_le _) ?_
              intro v29 u30 hown hg hat
              have S9 : Seal (Pt w u30 [[Res.row 43 5 (v29) (s.items.length) (itemE.all s.items ps)], [Res.row 43 5 (.slice (some ⟨w5.heap.size + 1, 0, none⟩) 1 1) (1) ([.int .i64 (s.last + 1), .string m.fu, .string m.fd, .slice ro m.rc.length rc, .slice q2 m.body.length d2])], [Res.cells (w.heap.size) [.int .i64 (s.last + 1), .slice ao s.items.length cap]], [Res.cells (k7) [.int .i64 (s.last + 1), .string m.fu, .string m.fd, .slice ro m.rc.length rc, .slice q2 m.body.length d2]], [Res.row 105 4 (.slice ro m.rc.length rc) (m.rc.length) (rcNew now m.rc)], [Res.row 9 1 (.slice q2 m.body.length d2) (m.body.length) (m.body.map Value.string)], [Res.cells (w.heap.size + 1 + 1) [.int .i64 0, .slice none 0 0]], [Res.cells (w.heap.size + 1) [.string m.fu, .string m.fd, .slice a1 m.rc.length c1, .slice a2 m.body.length c2]]]) := ⟨Pt.app SH8.out hown hg (by simpa using hat)⟩
              obtain ⟨bo31, c32, rfl, _⟩ := row_value (Pt.row1 S9.out 0 rfl)
              clear hown hg hat SH8 OW8 SR8
              refine hK.out _ _ ⟨(S9.out.cellsM 3 rfl).c 0 _ rfl, (S9.out.cellsM 3 rfl).c 1 _ rfl, (S9.out.cellsM 3 rfl).c 2 _ rfl, (S9.out.cellsM 3 rfl).c 3 _ rfl, (S9.out.cellsM 3 rfl).c 4 _ rfl⟩ (fun hHeld => ?_)
              clear hK K
              try simp only [Act.put, List.getElem_toArray, List.getElem_cons_succ, List.getElem_cons_zero, List.setIfInBounds_toArray, List.set_cons_zero, List.set_cons_succ]
              refine wpAnyH_ready (rs := [6]) (by kernel_rfl) (by simp) ?_
              refine AllReadyH.cons rfl (fun K hK => ?_) AllReadyH.nil
              have SH9 : Seal (Pt w u30 [[Res.row 43 5 (.slice bo31 (s.items.length) c32) (s.items.length) (itemE.all s.items ps)], [Res.row 43 5 (.slice (some ⟨w5.heap.size + 1, 0, none⟩) 1 1) (1) ([.int .i64 (s.last + 1), .string m.fu, .string m.fd, .slice ro m.rc.length rc, .slice q2 m.body.length d2])], [Res.cells (w.heap.size) [.int .i64 (s.last + 1), .slice ao s.items.length cap]], [Res.cells (k7) [.int .i64 (s.last + 1), .string m.fu, .string m.fd, .slice ro m.rc.length rc, .slice q2 m.body.length d2]], [Res.row 105 4 (.slice ro m.rc.length rc) (m.rc.length) (rcNew now m.rc)], [Res.row 9 1 (.slice q2 m.body.length d2) (m.body.length) (m.body.map Value.string)], [Res.cells (w.heap.size + 1 + 1) [.int .i64 0, .slice none 0 0]], [Res.cells (w.heap.size + 1) [.string m.fu, .string m.fd, .slice a1 m.rc.length c1, .slice a2 m.body.length c2]]]) := ⟨S9.out.bring 0 rfl⟩
              have OW9 : Seal _ := ⟨Pt.row1 SH9.out 0 rfl⟩
              have SR9 : Seal _ := ⟨(Pt.row1 S9.out 1 rfl)⟩
              refine step_append_any rfl _ _ 23 rfl 0 43 iItem (.agg #[.int .i64 0, .string ByteArray.empty, .string ByteArray.empty, .slice none 0 0, .slice none 0 0]) 5 88 Tryz.underlying23 hiItem hz0Item hz1Item hz2Item rfl (by decide) (.slice bo31 (s.items.length) c32) (s.items.length) (itemE.all s.items ps) (by rfl) OW9.out ((some ⟨w5.heap.size + 1, 0, none⟩)) (1) (1) ([.int .i64 (s.last + 1), .string m.fu, .string m.fd, .slice ro m.rc.length rc, .slice q2 m.body.length d2]) (by rfl) SR9.out (by first | exact items_all_one _ _ | (intro u hu; simp only [List.mem_cons, List.not_mem_nil, or_false] at hu; rcases hu with rfl | rfl | rfl | rfl | rfl <;> rfl)) (by unfold maxLen; omega) (by omega) (Nat.zero_le _) ?_
              intro v33 u34 hown hg hat
              have S10 : Seal (Pt w u34 [[Res.row 43 5 (v33) (s.items.length + 1) (itemE.all s.items ps ++ [.int .i64 (s.last + 1), .string m.fu, .string m.fd, .slice ro m.rc.length rc, .slice q2 m.body.length d2])], [Res.row 43 5 (.slice (some ⟨w5.heap.size + 1, 0, none⟩) 1 1) (1) ([.int .i64 (s.last + 1), .string m.fu, .string m.fd, .slice ro m.rc.length rc, .slice q2 m.body.length d2])], [Res.cells (w.heap.size) [.int .i64 (s.last + 1), .slice ao s.items.length cap]], [Res.cells (k7) [.int .i64 (s.last + 1), .string m.fu, .string m.fd, .slice ro m.rc.length rc, .slice q2 m.body.length d2]], [Res.row 105 4 (.slice ro m.rc.length rc) (m.rc.length) (rcNew now m.rc)], [Res.row 9 1 (.slice q2 m.body.length d2) (m.body.length) (m.body.map Value.string)], [Res.cells (w.heap.size + 1 + 1) [.int .i64 0, .slice none 0 0]], [Res.cells (w.heap.size + 1) [.string m.fu, .string m.fd, .slice a1 m.rc.length c1, .slice a2 m.body.length c2]]]) := ⟨Pt.app SH9.out hown hg (by simpa using hat)⟩
              obtain ⟨bo35, c36, rfl, _⟩ := row_value (Pt.row1 S10.out 0 rfl)
              clear hown hg hat SH9 OW9 SR9
              refine hK.out _ _ ⟨(S10.out.cellsM 3 rfl).c 0 _ rfl, (S10.out.cellsM 3 rfl).c 1 _ rfl, (S10.out.cellsM 3 rfl).c 2 _ rfl, (S10.out.cellsM 3 rfl).c 3 _ rfl, (S10.out.cellsM 3 rfl).c 4 _ rfl⟩ (fun hHeld => ?_)
              clear hK K
              try simp only [Act.put, List.getElem_toArray, List.getElem_cons_succ, List.getElem_cons_zero, List.setIfInBounds_toArray, List.set_cons_zero, List.set_cons_succ]
              refine tkH 7 (by assumption) (h := ?_)
              refine wpAnyH_ready (rs := [8]) (by kernel_rfl) (by simp) ?_
              refine AllReadyH.cons rfl (fun K hK => ?_) AllReadyH.nil
              have S11 : Seal (Pt w u34 [[Res.cells (w.heap.size) [.int .i64 (s.last + 1), .slice ao s.items.length cap]], [Res.row 43 5 (.slice bo35 (s.items.length + 1) c36) (s.items.length + 1) (itemE.all s.items ps ++ [.int .i64 (s.last + 1), .string m.fu, .string m.fd, .slice ro m.rc.length rc, .slice q2 m.body.length d2])], [Res.row 43 5 (.slice (some ⟨w5.heap.size + 1, 0, none⟩) 1 1) (1) ([.int .i64 (s.last + 1), .string m.fu, .string m.fd, .slice ro m.rc.length rc, .slice q2 m.body.length d2])], [Res.cells (k7) [.int .i64 (s.last + 1), .string m.fu, .string m.fd, .slice ro m.rc.length rc, .slice q2 m.body.length d2]], [Res.row 105 4 (.slice ro m.rc.length rc) (m.rc.length) (rcNew now m.rc)], [Res.row 9 1 (.slice q2 m.body.length d2) (m.body.length) (m.body.map Value.string)], [Res.cells (w.heap.size + 1 + 1) [.int .i64 0, .slice none 0 0]], [Res.cells (w.heap.size + 1) [.string m.fu, .string m.fd, .slice a1 m.rc.length c1, .slice a2 m.body.length c2]]]) := ⟨S10.out.bring 2 rfl⟩
              have oc0 := (S11.out.cellsM 0 rfl).c 1 _ rfl
              have of0 := (S11.out.cellsM 0 rfl).f 1 (by simp)
              have S12 : Seal (Pt w (u34.setCell ⟨w.heap.size, 1, none⟩ (.slice bo35 (s.items.length + 1) c36)) [[Res.cells (w.heap.size) [.int .i64 (s.last + 1), .slice bo35 (s.items.length + 1) c36]], [Res.row 43 5 (.slice bo35 (s.items.length + 1) c36) (s.items.length + 1) (itemE.all s.items ps ++ [.int .i64 (s.last + 1), .string m.fu, .string m.fd, .slice ro m.rc.length rc, .slice q2 m.body.length d2])], [Res.row 43 5 (.slice (some ⟨w5.heap.size + 1, 0, none⟩) 1 1) (1) ([.int .i64 (s.last + 1), .string m.fu, .string m.fd, .slice ro m.rc.length rc, .slice q2 m.body.length d2])], [Res.cells (k7) [.int .i64 (s.last + 1), .string m.fu, .string m.fd, .slice ro m.rc.length rc, .slice q2 m.body.length d2]], [Res.row 105 4 (.slice ro m.rc.length rc) (m.rc.length) (rcNew now m.rc)], [Res.row 9 1 (.slice q2 m.body.length d2) (m.body.length) (m.body.map Value.string)], [Res.cells (w.heap.size + 1 + 1) [.int .i64 0, .slice none 0 0]], [Res.cells (w.heap.size + 1) [.string m.fu, .string m.fd, .slice a1 m.rc.length c1, .slice a2 m.body.length c2]]]) := ⟨(S11.out).set 1 (.slice bo35 (s.items.length + 1) c36) (by simp)⟩
              go_simp
              refine hK.out _ _ ⟨(S12.out.cellsM 3 rfl).c 0 _ rfl, (S12.out.cellsM 3 rfl).c 1 _ rfl, (S12.out.cellsM 3 rfl).c 2 _ rfl, (S12.out.cellsM 3 rfl).c 3 _ rfl, (S12.out.cellsM 3 rfl).c 4 _ rfl⟩ (fun hHeld => ?_)
              clear hK K
              try simp only [Act.put, List.getElem_toArray, List.getElem_cons_succ, List.getElem_cons_zero, List.setIfInBounds_toArray, List.set_cons_zero, List.set_cons_succ]
              clear oc0 of0
              refine wpAnyH_done (by kernel_rfl) ?_ _
              go_wp2_with fail
              go_meet
              exact ⟨bo35, c36, (Pt.prefix (As := [[Res.cells (w.heap.size) [.int .i64 (s.last + 1), .slice bo35 (s.items.length + 1) c36]], [Res.row 43 5 (.slice bo35 (s.items.length + 1) c36) (s.items.length + 1) (itemE.all s.items ps ++ [.int .i64 (s.last + 1), .string m.fu, .string m.fd, .slice ro m.rc.length rc, .slice q2 m.body.length d2])], [Res.cells (k7) [.int .i64 (s.last + 1), .string m.fu, .string m.fd, .slice ro m.rc.length rc, .slice q2 m.body.length d2]], [Res.row 105 4 (.slice ro m.rc.length rc) (m.rc.length) (rcNew now m.rc)], [Res.row 9 1 (.slice q2 m.body.length d2) (m.body.length) (m.body.map Value.string)], [Res.cells (w.heap.size + 1) [.string m.fu, .string m.fd, .slice a1 m.rc.length c1, .slice a2 m.body.length c2]], [Res.cells (w.heap.size + 1 + 1) [.int .i64 0, .slice none 0 0]]]) (Bs := [[Res.row 43 5 (.slice (some ⟨w5.heap.size + 1, 0, none⟩) 1 1) (1) ([.int .i64 (s.last + 1), .string m.fu, .string m.fd, .slice ro m.rc.length rc, .slice q2 m.body.length d2])]]) (Pt.bring ((Pt.bring ((Pt.bring ((Pt.bring ((Pt.bring ((Pt.bring ((Pt.bring (S12.out) 6 rfl)) 7 rfl)) 7 rfl)) 7 rfl)) 7 rfl)) 6 rfl)) 6 rfl))⟩
          · have S8 : Seal (Pt w ((w5.alloc (.cells #[] 43)).alloc (.cells #[.int .i64 (s.last + 1), .string m.fu, .string m.fd, .slice ro m.rc.length rc, .slice q2 m.body.length d2] 43)).drew [[Res.row 43 5 (.slice (some ⟨w5.heap.size + 1, 0, none⟩) 1 1) (1) ([.int .i64 (s.last + 1), .string m.fu, .string m.fd, .slice ro m.rc.length rc, .slice q2 m.body.length d2])], [Res.row 43 5 (.slice (some ⟨w5.heap.size, 0, none⟩) 0 0) (0) ([])], [Res.cells (w.heap.size) [.int .i64 (s.last + 1), .slice ao s.items.length cap]], [Res.cells (k7) [.int .i64 (s.last + 1), .string m.fu, .string m.fd, .slice ro m.rc.length rc, .slice q2 m.body.length d2]], [Res.row 105 4 (.slice ro m.rc.length rc) (m.rc.length) (rcNew now m.rc)], [Res.row 9 1 (.slice q2 m.body.length d2) (m.body.length) (m.body.map Value.string)], [Res.cells (w.heap.size + 1 + 1) [.int .i64 0, .slice none 0 0]], [Res.cells (w.heap.size + 1) [.string m.fu, .string m.fd, .slice a1 m.rc.length c1, .slice a2 m.body.length c2]]]) := ⟨by have h := Pt.built S7.out #[.int .i64 (s.last + 1), .string m.fu, .string m.fd, .slice ro m.rc.length rc, .slice q2 m.body.length d2] 43 5 1 (by decide) rfl; simp only [World.size_alloc, World.size_drew'] at h; exact h⟩
            go_simp
            refine hK.out _ _ ⟨(S8.out.cellsM 3 rfl).c 0 _ rfl, (S8.out.cellsM 3 rfl).c 1 _ rfl, (S8.out.cellsM 3 rfl).c 2 _ rfl, (S8.out.cellsM 3 rfl).c 3 _ rfl, (S8.out.cellsM 3 rfl).c 4 _ rfl⟩ (fun hHeld => ?_)
            clear hK K
            try simp only [Act.put, List.getElem_toArray, List.getElem_cons_succ, List.getElem_cons_zero, List.setIfInBounds_toArray, List.set_cons_zero, List.set_cons_succ]
            refine wpAnyH_ready (rs := [2]) (by kernel_rfl) (by simp) ?_
            refine AllReadyH.cons rfl (fun K hK => ?_) AllReadyH.nil
            have ol0 := (S8.out.cellsM 2 rfl).c 1 _ rfl
            go_simp
            refine hK.out _ _ ⟨(S8.out.cellsM 3 rfl).c 0 _ rfl, (S8.out.cellsM 3 rfl).c 1 _ rfl, (S8.out.cellsM 3 rfl).c 2 _ rfl, (S8.out.cellsM 3 rfl).c 3 _ rfl, (S8.out.cellsM 3 rfl).c 4 _ rfl⟩ (fun hHeld => ?_)
            clear hK K
            try simp only [Act.put, List.getElem_toArray, List.getElem_cons_succ, List.getElem_cons_zero, List.setIfInBounds_toArray, List.set_cons_zero, List.set_cons_succ]
            clear ol0
            refine wpAnyH_ready (rs := [3]) (by kernel_rfl) (by simp) ?_
            refine AllReadyH.cons rfl (fun K hK => ?_) AllReadyH.nil
            have SH8 : Seal (Pt w ((w5.alloc (.cells #[] 43)).alloc (.cells #[.int .i64 (s.last + 1), .string m.fu, .string m.fd, .slice ro m.rc.length rc, .slice q2 m.body.length d2] 43)).drew [[Res.row 43 5 (.slice (some ⟨w5.heap.size, 0, none⟩) 0 0) (0) ([])], [Res.row 43 5 (.slice (some ⟨w5.heap.size + 1, 0, none⟩) 1 1) (1) ([.int .i64 (s.last + 1), .string m.fu, .string m.fd, .slice ro m.rc.length rc, .slice q2 m.body.length d2])], [Res.cells (w.heap.size) [.int .i64 (s.last + 1), .slice ao s.items.length cap]], [Res.cells (k7) [.int .i64 (s.last + 1), .string m.fu, .string m.fd, .slice ro m.rc.length rc, .slice q2 m.body.length d2]], [Res.row 105 4 (.slice ro m.rc.length rc) (m.rc.length) (rcNew now m.rc)], [Res.row 9 1 (.slice q2 m.body.length d2) (m.body.length) (m.body.map Value.string)], [Res.cells (w.heap.size + 1 + 1) [.int .i64 0, .slice none 0 0]], [Res.cells (w.heap.size + 1) [.string m.fu, .string m.fd, .slice a1 m.rc.length c1, .slice a2 m.body.length c2]]]) := ⟨S8.out.bring 1 rfl⟩
            have OW8 : Seal _ := ⟨Pt.row1 SH8.out 0 rfl⟩
            have SR8 : Seal _ := ⟨((HS.out.later S8.out.below).get List.mem_cons_self)⟩
            refine step_append_first rfl _ _ 23 rfl 0 43 iItem (.agg #[.int .i64 0, .string ByteArray.empty, .string ByteArray.empty, .slice none 0 0, .slice none 0 0]) 5 88 Tryz.underlying23 hiItem hz0Item hz1Item hz2Item rfl (by decide) (.slice (some ⟨w5.heap.size, 0, none⟩) 0 0) (by rfl) OW8.out (ao) (s.items.length) (cap) (itemE.all s.items ps) (by rfl) SR8.out (by first | exact items_all_one _ _ | (intro u hu; simp only [List.mem_cons, List.not_mem_nil, or_false] at hu; rcases hu with rfl | rfl | rfl | rfl | rfl <;> rfl)) (by unfold maxLen; omega) (by omega) (Nat.zero_le _) ?_
            intro v37 u38 hown hg hat
            have S9 : Seal (Pt w u38 [[Res.row 43 5 (v37) (s.items.length) (itemE.all s.items ps)], [Res.row 43 5 (.slice (some ⟨w5.heap.size + 1, 0, none⟩) 1 1) (1) ([.int .i64 (s.last + 1), .string m.fu, .string m.fd, .slice ro m.rc.length rc, .slice q2 m.body.length d2])], [Res.cells (w.heap.size) [.int .i64 (s.last + 1), .slice ao s.items.length cap]], [Res.cells (k7) [.int .i64 (s.last + 1), .string m.fu, .string m.fd, .slice ro m.rc.length rc, .slice q2 m.body.length d2]], [Res.row 105 4 (.slice ro m.rc.length rc) (m.rc.length) (rcNew now m.rc)], [Res.row 9 1 (.slice q2 m.body.length d2) (m.body.length) (m.body.map Value.string)], [Res.cells (w.heap.size + 1 + 1) [.int .i64 0, .slice none 0 0]], [Res.cells (w.heap.size + 1) [.string m.fu, .string m.fd, .slice a1 m.rc.length c1, .slice a2 m.body.length c2]]]) := ⟨Pt.app SH8.out hown hg (by simpa using hat)⟩
            obtain ⟨bo39, c40, rfl, _⟩ := row_value (Pt.row1 S9.out 0 rfl)
            clear hown hg hat SH8 OW8 SR8
            refine hK.out _ _ ⟨(S9.out.cellsM 3 rfl).c 0 _ rfl, (S9.out.cellsM 3 rfl).c 1 _ rfl, (S9.out.cellsM 3 rfl).c 2 _ rfl, (S9.out.cellsM 3 rfl).c 3 _ rfl, (S9.out.cellsM 3 rfl).c 4 _ rfl⟩ (fun hHeld => ?_)
            clear hK K
            try simp only [Act.put, List.getElem_toArray, List.getElem_cons_succ, List.getElem_cons_zero, List.setIfInBounds_toArray, List.set_cons_zero, List.set_cons_succ]
            refine wpAnyH_ready (rs := [6]) (by kernel_rfl) (by simp) ?_
            refine AllReadyH.cons rfl (fun K hK => ?_) AllReadyH.nil
            have SH9 : Seal (Pt w u38 [[Res.row 43 5 (.slice bo39 (s.items.length) c40) (s.items.length) (itemE.all s.items ps)], [Res.row 43 5 (.slice (some ⟨w5.heap.size + 1, 0, none⟩) 1 1) (1) ([.int .i64 (s.last + 1), .string m.fu, .string m.fd, .slice ro m.rc.length rc, .slice q2 m.body.length d2])], [Res.cells (w.heap.size) [.int .i64 (s.last + 1), .slice ao s.items.length cap]], [Res.cells (k7) [.int .i64 (s.last + 1), .string m.fu, .string m.fd, .slice ro m.rc.length rc, .slice q2 m.body.length d2]], [Res.row 105 4 (.slice ro m.rc.length rc) (m.rc.length) (rcNew now m.rc)], [Res.row 9 1 (.slice q2 m.body.length d2) (m.body.length) (m.body.map Value.string)], [Res.cells (w.heap.size + 1 + 1) [.int .i64 0, .slice none 0 0]], [Res.cells (w.heap.size + 1) [.string m.fu, .string m.fd, .slice a1 m.rc.length c1, .slice a2 m.body.length c2]]]) := ⟨S9.out.bring 0 rfl⟩
            have OW9 : Seal _ := ⟨Pt.row1 SH9.out 0 rfl⟩
            have SR9 : Seal _ := ⟨(Pt.row1 S9.out 1 rfl)⟩
            refine step_append_any rfl _ _ 23 rfl 0 43 iItem (.agg #[.int .i64 0, .string ByteArray.empty, .string ByteArray.empty, .slice none 0 0, .slice none 0 0]) 5 88 Tryz.underlying23 hiItem hz0Item hz1Item hz2Item rfl (by decide) (.slice bo39 (s.items.length) c40) (s.items.length) (itemE.all s.items ps) (by rfl) OW9.out ((some ⟨w5.heap.size + 1, 0, none⟩)) (1) (1) ([.int .i64 (s.last + 1), .string m.fu, .string m.fd, .slice ro m.rc.length rc, .slice q2 m.body.length d2]) (by rfl) SR9.out (by first | exact items_all_one _ _ | (intro u hu; simp only [List.mem_cons, List.not_mem_nil, or_false] at hu; rcases hu with rfl | rfl | rfl | rfl | rfl <;> rfl)) (by unfold maxLen; omega) (by omega) (Nat.zero_le _) ?_
            intro v41 u42 hown hg hat
            have S10 : Seal (Pt w u42 [[Res.row 43 5 (v41) (s.items.length + 1) (itemE.all s.items ps ++ [.int .i64 (s.last + 1), .string m.fu, .string m.fd, .slice ro m.rc.length rc, .slice q2 m.body.length d2])], [Res.row 43 5 (.slice (some ⟨w5.heap.size + 1, 0, none⟩) 1 1) (1) ([.int .i64 (s.last + 1), .string m.fu, .string m.fd, .slice ro m.rc.length rc, .slice q2 m.body.length d2])], [Res.cells (w.heap.size) [.int .i64 (s.last + 1), .slice ao s.items.length cap]], [Res.cells (k7) [.int .i64 (s.last + 1), .string m.fu, .string m.fd, .slice ro m.rc.length rc, .slice q2 m.body.length d2]], [Res.row 105 4 (.slice ro m.rc.length rc) (m.rc.length) (rcNew now m.rc)], [Res.row 9 1 (.slice q2 m.body.length d2) (m.body.length) (m.body.map Value.string)], [Res.cells (w.heap.size + 1 + 1) [.int .i64 0, .slice none 0 0]], [Res.cells (w.heap.size + 1) [.string m.fu, .string m.fd, .slice a1 m.rc.length c1, .slice a2 m.body.length c2]]]) := ⟨Pt.app SH9.out hown hg (by simpa using hat)⟩
            obtain ⟨bo43, c44, rfl, _⟩ := row_value (Pt.row1 S10.out 0 rfl)
            clear hown hg hat SH9 OW9 SR9
            refine hK.out _ _ ⟨(S10.out.cellsM 3 rfl).c 0 _ rfl, (S10.out.cellsM 3 rfl).c 1 _ rfl, (S10.out.cellsM 3 rfl).c 2 _ rfl, (S10.out.cellsM 3 rfl).c 3 _ rfl, (S10.out.cellsM 3 rfl).c 4 _ rfl⟩ (fun hHeld => ?_)
            clear hK K
            try simp only [Act.put, List.getElem_toArray, List.getElem_cons_succ, List.getElem_cons_zero, List.setIfInBounds_toArray, List.set_cons_zero, List.set_cons_succ]
            refine tkH 7 (by assumption) (h := ?_)
            refine wpAnyH_ready (rs := [8]) (by kernel_rfl) (by simp) ?_
            refine AllReadyH.cons rfl (fun K hK => ?_) AllReadyH.nil
            have S11 : Seal (Pt w u42 [[Res.cells (w.heap.size) [.int .i64 (s.last + 1), .slice ao s.items.length cap]], [Res.row 43 5 (.slice bo43 (s.items.length + 1) c44) (s.items.length + 1) (itemE.all s.items ps ++ [.int .i64 (s.last + 1), .string m.fu, .string m.fd, .slice ro m.rc.length rc, .slice q2 m.body.length d2])], [Res.row 43 5 (.slice (some ⟨w5.heap.size + 1, 0, none⟩) 1 1) (1) ([.int .i64 (s.last + 1), .string m.fu, .string m.fd, .slice ro m.rc.length rc, .slice q2 m.body.length d2])], [Res.cells (k7) [.int .i64 (s.last + 1), .string m.fu, .string m.fd, .slice ro m.rc.length rc, .slice q2 m.body.length d2]], [Res.row 105 4 (.slice ro m.rc.length rc) (m.rc.length) (rcNew now m.rc)], [Res.row 9 1 (.slice q2 m.body.length d2) (m.body.length) (m.body.map Value.string)], [Res.cells (w.heap.size + 1 + 1) [.int .i64 0, .slice none 0 0]], [Res.cells (w.heap.size + 1) [.string m.fu, .string m.fd, .slice a1 m.rc.length c1, .slice a2 m.body.length c2]]]) := ⟨S10.out.bring 2 rfl⟩
            have oc0 := (S11.out.cellsM 0 rfl).c 1 _ rfl
            have of0 := (S11.out.cellsM 0 rfl).f 1 (by simp)
            have S12 : Seal (Pt w (u42.setCell ⟨w.heap.size, 1, none⟩ (.slice bo43 (s.items.length + 1) c44)) [[Res.cells (w.heap.size) [.int .i64 (s.last + 1), .slice bo43 (s.items.length + 1) c44]], [Res.row 43 5 (.slice bo43 (s.items.length + 1) c44) (s.items.length + 1) (itemE.all s.items ps ++ [.int .i64 (s.last + 1), .string m.fu, .string m.fd, .slice ro m.rc.length rc, .slice q2 m.body.length d2])], [Res.row 43 5 (.slice (some ⟨w5.heap.size + 1, 0, none⟩) 1 1) (1) ([.int .i64 (s.last + 1), .string m.fu, .string m.fd, .slice ro m.rc.length rc, .slice q2 m.body.length d2])], [Res.cells (k7) [.int .i64 (s.last + 1), .string m.fu, .string m.fd, .slice ro m.rc.length rc, .slice q2 m.body.length d2]], [Res.row 105 4 (.slice ro m.rc.length rc) (m.rc.length) (rcNew now m.rc)], [Res.row 9 1 (.slice q2 m.body.length d2) (m.body.length) (m.body.map Value.string)], [Res.cells (w.heap.size + 1 + 1) [.int .i64 0, .slice none 0 0]], [Res.cells (w.heap.size + 1) [.string m.fu, .string m.fd, .slice a1 m.rc.length c1, .slice a2 m.body.length c2]]]) := ⟨(S11.out).set 1 (.slice bo43 (s.items.length + 1) c44) (by simp)⟩
            go_simp
            refine hK.out _ _ ⟨(S12.out.cellsM 3 rfl).c 0 _ rfl, (S12.out.cellsM 3 rfl).c 1 _ rfl, (S12.out.cellsM 3 rfl).c 2 _ rfl, (S12.out.cellsM 3 rfl).c 3 _ rfl, (S12.out.cellsM 3 rfl).c 4 _ rfl⟩ (fun hHeld => ?_)
            clear hK K
            try simp only [Act.put, List.getElem_toArray, List.getElem_cons_succ, List.getElem_cons_zero, List.setIfInBounds_toArray, List.set_cons_zero, List.set_cons_succ]
            clear oc0 of0
            refine wpAnyH_done (by kernel_rfl) ?_ _
            go_wp2_with fail
            go_meet
            exact ⟨bo43, c44, (Pt.prefix (As := [[Res.cells (w.heap.size) [.int .i64 (s.last + 1), .slice bo43 (s.items.length + 1) c44]], [Res.row 43 5 (.slice bo43 (s.items.length + 1) c44) (s.items.length + 1) (itemE.all s.items ps ++ [.int .i64 (s.last + 1), .string m.fu, .string m.fd, .slice ro m.rc.length rc, .slice q2 m.body.length d2])], [Res.cells (k7) [.int .i64 (s.last + 1), .string m.fu, .string m.fd, .slice ro m.rc.length rc, .slice q2 m.body.length d2]], [Res.row 105 4 (.slice ro m.rc.length rc) (m.rc.length) (rcNew now m.rc)], [Res.row 9 1 (.slice q2 m.body.length d2) (m.body.length) (m.body.map Value.string)], [Res.cells (w.heap.size + 1) [.string m.fu, .string m.fd, .slice a1 m.rc.length c1, .slice a2 m.body.length c2]], [Res.cells (w.heap.size + 1 + 1) [.int .i64 0, .slice none 0 0]]]) (Bs := [[Res.row 43 5 (.slice (some ⟨w5.heap.size + 1, 0, none⟩) 1 1) (1) ([.int .i64 (s.last + 1), .string m.fu, .string m.fd, .slice ro m.rc.length rc, .slice q2 m.body.length d2])]]) (Pt.bring ((Pt.bring ((Pt.bring ((Pt.bring ((Pt.bring ((Pt.bring ((Pt.bring (S12.out) 6 rfl)) 7 rfl)) 7 rfl)) 7 rfl)) 7 rfl)) 6 rfl)) 6 rfl))⟩
        · have ol0 := (S6.out.cellsM 0 rfl).c 1 _ rfl
          go_simp
          refine hK.out _ _ ⟨(S6.out.cellsM 1 rfl).c 0 _ rfl, (S6.out.cellsM 1 rfl).c 1 _ rfl, (S6.out.cellsM 1 rfl).c 2 _ rfl, (S6.out.cellsM 1 rfl).c 3 _ rfl, (S6.out.cellsM 1 rfl).c 4 _ rfl⟩ (fun hHeld => ?_)
          clear hK K
          try simp only [Act.put, List.getElem_toArray, List.getElem_cons_succ, List.getElem_cons_zero, List.setIfInBounds_toArray, List.set_cons_zero, List.set_cons_succ]
          clear ol0
          refine wpAnyH_ready (rs := [0, 5]) (by kernel_rfl) (by simp) ?_
          refine AllReadyH.cons rfl (fun K hK => ?_) (AllReadyH.cons rfl (fun K hK => ?_) AllReadyH.nil)
          · have S7 : Seal (Pt w (w5.alloc (.cells #[] 43)).drew [[Res.row 43 5 (.slice (some ⟨w5.heap.size, 0, none⟩) 0 0) (0) ([])], [Res.cells (w.heap.size) [.int .i64 (s.last + 1), .slice ao s.items.length cap]], [Res.cells (k7) [.int .i64 (s.last + 1), .string m.fu, .string m.fd, .slice ro m.rc.length rc, .slice q2 m.body.length d2]], [Res.row 105 4 (.slice ro m.rc.length rc) (m.rc.length) (rcNew now m.rc)], [Res.row 9 1 (.slice q2 m.body.length d2) (m.body.length) (m.body.map Value.string)], [Res.cells (w.heap.size + 1 + 1) [.int .i64 0, .slice none 0 0]], [Res.cells (w.heap.size + 1) [.string m.fu, .string m.fd, .slice a1 m.rc.length c1, .slice a2 m.body.length c2]]]) := ⟨Pt.built S6.out #[] 43 5 0 (by decide) rfl⟩
            go_simp
            refine hK.out _ _ ⟨(S7.out.cellsM 2 rfl).c 0 _ rfl, (S7.out.cellsM 2 rfl).c 1 _ rfl, (S7.out.cellsM 2 rfl).c 2 _ rfl, (S7.out.cellsM 2 rfl).c 3 _ rfl, (S7.out.cellsM 2 rfl).c 4 _ rfl⟩ (fun hHeld => ?_)
            clear hK K
            try simp only [Act.put, List.getElem_toArray, List.getElem_cons_succ, List.getElem_cons_zero, List.setIfInBounds_toArray, List.set_cons_zero, List.set_cons_succ]
            refine wpAnyH_ready (rs := [3, 5]) (by kernel_rfl) (by simp) ?_
            refine AllReadyH.cons rfl (fun K hK => ?_) (AllReadyH.cons rfl (fun K hK => ?_) AllReadyH.nil)
            · have SH7 : Seal (Pt w (w5.alloc (.cells #[] 43)).drew [[Res.row 43 5 (.slice (some ⟨w5.heap.size, 0, none⟩) 0 0) (0) ([])], [Res.cells (w.heap.size) [.int .i64 (s.last + 1), .slice ao s.items.length cap]], [Res.cells (k7) [.int .i64 (s.last + 1), .string m.fu, .string m.fd, .slice ro m.rc.length rc, .slice q2 m.body.length d2]], [Res.row 105 4 (.slice ro m.rc.length rc) (m.rc.length) (rcNew now m.rc)], [Res.row 9 1 (.slice q2 m.body.length d2) (m.body.length) (m.body.map Value.string)], [Res.cells (w.heap.size + 1 + 1) [.int .i64 0, .slice none 0 0]], [Res.cells (w.heap.size + 1) [.string m.fu, .string m.fd, .slice a1 m.rc.length c1, .slice a2 m.body.length c2]]]) := ⟨S7.out.bring 0 rfl⟩
              have OW7 : Seal _ := ⟨Pt.row1 SH7.out 0 rfl⟩
              have SR7 : Seal _ := ⟨((HS.out.later S7.out.below).get List.mem_cons_self)⟩
              refine step_append_first rfl _ _ 23 rfl 0 43 iItem (.agg #[.int .i64 0, .string ByteArray.empty, .string ByteArray.empty, .slice none 0 0, .slice none 0 0]) 5 88 Tryz.underlying23 hiItem hz0Item hz1Item hz2Item rfl (by decide) (.slice (some ⟨w5.heap.size, 0, none⟩) 0 0) (by rfl) OW7.out (ao) (s.items.length) (cap) (itemE.all s.items ps) (by rfl) SR7.out (by first | exact items_all_one _ _ | (intro u hu; simp only [List.mem_cons, List.not_mem_nil, or_false] at hu; rcases hu with rfl | rfl | rfl | rfl | rfl <;> rfl)) (by unfold maxLen; omega) (by omega) (Nat.zero_le _) ?_
              intro v45 u46 hown hg hat
              have S8 : Seal (Pt w u46 [[Res.row 43 5 (v45) (s.items.length) (itemE.all s.items ps)], [Res.cells (w.heap.size) [.int .i64 (s.last + 1), .slice ao s.items.length cap]], [Res.cells (k7) [.int .i64 (s.last + 1), .string m.fu, .string m.fd, .slice ro m.rc.length rc, .slice q2 m.body.length d2]], [Res.row 105 4 (.slice ro m.rc.length rc) (m.rc.length) (rcNew now m.rc)], [Res.row 9 1 (.slice q2 m.body.length d2) (m.body.length) (m.body.map Value.string)], [Res.cells (w.heap.size + 1 + 1) [.int .i64 0, .slice none 0 0]], [Res.cells (w.heap.size + 1) [.string m.fu, .string m.fd, .slice a1 m.rc.length c1, .slice a2 m.body.length c2]]]) := ⟨Pt.app SH7.out hown hg (by simpa using hat)⟩
              obtain ⟨bo47, c48, rfl, _⟩ := row_value (Pt.row1 S8.out 0 rfl)
              clear hown hg hat SH7 OW7 SR7
              refine hK.out _ _ ⟨(S8.out.cellsM 2 rfl).c 0 _ rfl, (S8.out.cellsM 2 rfl).c 1 _ rfl, (S8.out.cellsM 2 rfl).c 2 _ rfl, (S8.out.cellsM 2 rfl).c 3 _ rfl, (S8.out.cellsM 2 rfl).c 4 _ rfl⟩ (fun hHeld => ?_)
              clear hK K
              try simp only [Act.put, List.getElem_toArray, List.getElem_cons_succ, List.getElem_cons_zero, List.setIfInBounds_toArray, List.set_cons_zero, List.set_cons_succ]
              refine wpAnyH_ready (rs := [5]) (by kernel_rfl) (by simp) ?_
              refine AllReadyH.cons rfl (fun K hK => ?_) AllReadyH.nil
              have S9 : Seal (Pt w (u46.alloc (.cells #[.int .i64 (s.last + 1), .string m.fu, .string m.fd, .slice ro m.rc.length rc, .slice q2 m.body.length d2] 43)) [[Res.row 43 5 (.slice (some ⟨u46.heap.size, 0, none⟩) 1 1) (1) ([.int .i64 (s.last + 1), .string m.fu, .string m.fd, .slice ro m.rc.length rc, .slice q2 m.body.length d2])], [Res.row 43 5 (.slice bo47 (s.items.length) c48) (s.items.length) (itemE.all s.items ps)], [Res.cells (w.heap.size) [.int .i64 (s.last + 1), .slice ao s.items.length cap]], [Res.cells (k7) [.int .i64 (s.last + 1), .string m.fu, .string m.fd, .slice ro m.rc.length rc, .slice q2 m.body.length d2]], [Res.row 105 4 (.slice ro m.rc.length rc) (m.rc.length) (rcNew now m.rc)], [Res.row 9 1 (.slice q2 m.body.length d2) (m.body.length) (m.body.map Value.string)], [Res.cells (w.heap.size + 1 + 1) [.int .i64 0, .slice none 0 0]], [Res.cells (w.heap.size + 1) [.string m.fu, .string m.fd, .slice a1 m.rc.length c1, .slice a2 m.body.length c2]]]) := ⟨Pt.built S8.out #[.int .i64 (s.last + 1), .string m.fu, .string m.fd, .slice ro m.rc.length rc, .slice q2 m.body.length d2] 43 5 1 (by decide) rfl⟩
              go_simp
              refine hK.out _ _ ⟨(S9.out.cellsM 3 rfl).c 0 _ rfl, (S9.out.cellsM 3 rfl).c 1 _ rfl, (S9.out.cellsM 3 rfl).c 2 _ rfl, (S9.out.cellsM 3 rfl).c 3 _ rfl, (S9.out.cellsM 3 rfl).c 4 _ rfl⟩ (fun hHeld => ?_)
              clear hK K
              try simp only [Act.put, List.getElem_toArray, List.getElem_cons_succ, List.getElem_cons_zero, List.setIfInBounds_toArray, List.set_cons_zero, List.set_cons_succ]
              refine wpAnyH_ready (rs := [6]) (by kernel_rfl) (by simp) ?_
              refine AllReadyH.cons rfl (fun K hK => ?_) AllReadyH.nil
              have SH9 : Seal (Pt w (u46.alloc (.cells #[.int .i64 (s.last + 1), .string m.fu, .string m.fd, .slice ro m.rc.length rc, .slice q2 m.body.length d2] 43)) [[Res.row 43 5 (.slice bo47 (s.items.length) c48) (s.items.length) (itemE.all s.items ps)], [Res.row 43 5 (.slice (some ⟨u46.heap.size, 0, none⟩) 1 1) (1) ([.int .i64 (s.last + 1), .string m.fu, .string m.fd, .slice ro m.rc.length rc, .slice q2 m.body.length d2])], [Res.cells (w.heap.size) [.int .i64 (s.last + 1), .slice ao s.items.length cap]], [Res.cells (k7) [.int .i64 (s.last + 1), .string m.fu, .string m.fd, .slice ro m.rc.length rc, .slice q2 m.body.length d2]], [Res.row 105 4 (.slice ro m.rc.length rc) (m.rc.length) (rcNew now m.rc)], [Res.row 9 1 (.slice q2 m.body.length d2) (m.body.length) (m.body.map Value.string)], [Res.cells (w.heap.size + 1 + 1) [.int .i64 0, .slice none 0 0]], [Res.cells (w.heap.size + 1) [.string m.fu, .string m.fd, .slice a1 m.rc.length c1, .slice a2 m.body.length c2]]]) := ⟨S9.out.bring 1 rfl⟩
              have OW9 : Seal _ := ⟨Pt.row1 SH9.out 0 rfl⟩
              have SR9 : Seal _ := ⟨(Pt.row1 S9.out 0 rfl)⟩
              refine step_append_any rfl _ _ 23 rfl 0 43 iItem (.agg #[.int .i64 0, .string ByteArray.empty, .string ByteArray.empty, .slice none 0 0, .slice none 0 0]) 5 88 Tryz.underlying23 hiItem hz0Item hz1Item hz2Item rfl (by decide) (.slice bo47 (s.items.length) c48) (s.items.length) (itemE.all s.items ps) (by rfl) OW9.out ((some ⟨u46.heap.size, 0, none⟩)) (1) (1) ([.int .i64 (s.last + 1), .string m.fu, .string m.fd, .slice ro m.rc.length rc, .slice q2 m.body.length d2]) (by rfl) SR9.out (by first | exact items_all_one _ _ | (intro u hu; simp only [List.mem_cons, List.not_mem_nil, or_false] at hu; rcases hu with rfl | rfl | rfl | rfl | rfl <;> rfl)) (by unfold maxLen; omega) (by omega) (Nat.zero_le _) ?_
              intro v49 u50 hown hg hat
              have S10 : Seal (Pt w u50 [[Res.row 43 5 (v49) (s.items.length + 1) (itemE.all s.items ps ++ [.int .i64 (s.last + 1), .string m.fu, .string m.fd, .slice ro m.rc.length rc, .slice q2 m.body.length d2])], [Res.row 43 5 (.slice (some ⟨u46.heap.size, 0, none⟩) 1 1) (1) ([.int .i64 (s.last + 1), .string m.fu, .string m.fd, .slice ro m.rc.length rc, .slice q2 m.body.length d2])], [Res.cells (w.heap.size) [.int .i64 (s.last + 1), .slice ao s.items.length cap]], [Res.cells (k7) [.int .i64 (s.last + 1), .string m.fu, .string m.fd, .slice ro m.rc.length rc, .slice q2 m.body.length d2]], [Res.row 105 4 (.slice ro m.rc.length rc) (m.rc.length) (rcNew now m.rc)], [Res.row 9 1 (.slice q2 m.body.length d2) (m.body.length) (m.body.map Value.string)], [Res.cells (w.heap.size + 1 + 1) [.int .i64 0, .slice none 0 0]], [Res.cells (w.heap.size + 1) [.string m.fu, .string m.fd, .slice a1 m.rc.length c1, .slice a2 m.body.length c2]]]) := ⟨Pt.app SH9.out hown hg (by simpa using hat)⟩
              obtain ⟨bo51, c52, rfl, _⟩ := row_value (Pt.row1 S10.out 0 rfl)
              clear hown hg hat SH9 OW9 SR9
              refine hK.out _ _ ⟨(S10.out.cellsM 3 rfl).c 0 _ rfl, (S10.out.cellsM 3 rfl).c 1 _ rfl, (S10.out.cellsM 3 rfl).c 2 _ rfl, (S10.out.cellsM 3 rfl).c 3 _ rfl, (S10.out.cellsM 3 rfl).c 4 _ rfl⟩ (fun hHeld => ?_)
              clear hK K
              try simp only [Act.put, List.getElem_toArray, List.getElem_cons_succ, List.getElem_cons_zero, List.setIfInBounds_toArray, List.set_cons_zero, List.set_cons_succ]
              refine tkH 7 (by assumption) (h := ?_)
              refine wpAnyH_ready (rs := [8]) (by kernel_rfl) (by simp) ?_
              refine AllReadyH.cons rfl (fun K hK => ?_) AllReadyH.nil
              have S11 : Seal (Pt w u50 [[Res.cells (w.heap.size) [.int .i64 (s.last + 1), .slice ao s.items.length cap]], [Res.row 43 5 (.slice bo51 (s.items.length + 1) c52) (s.items.length + 1) (itemE.all s.items ps ++ [.int .i64 (s.last + 1), .string m.fu, .string m.fd, .slice ro m.rc.length rc, .slice q2 m.body.length d2])], [Res.row 43 5 (.slice (some ⟨u46.heap.size, 0, none⟩) 1 1) (1) ([.int .i64 (s.last + 1), .string m.fu, .string m.fd, .slice ro m.rc.length rc, .slice q2 m.body.length d2])], [Res.cells (k7) [.int .i64 (s.last + 1), .string m.fu, .string m.fd, .slice ro m.rc.length rc, .slice q2 m.body.length d2]], [Res.row 105 4 (.slice ro m.rc.length rc) (m.rc.length) (rcNew now m.rc)], [Res.row 9 1 (.slice q2 m.body.length d2) (m.body.length) (m.body.map Value.string)], [Res.cells (w.heap.size + 1 + 1) [.int .i64 0, .slice none 0 0]], [Res.cells (w.heap.size + 1) [.string m.fu, .string m.fd, .slice a1 m.rc.length c1, .slice a2 m.body.length c2]]]) := ⟨S10.out.bring 2 rfl⟩
              have oc0 := (S11.out.cellsM 0 rfl).c 1 _ rfl
              have of0 := (S11.out.cellsM 0 rfl).f 1 (by simp)
              have S12 : Seal (Pt w (u50.setCell ⟨w.heap.size, 1, none⟩ (.slice bo51 (s.items.length + 1) c52)) [[Res.cells (w.heap.size) [.int .i64 (s.last + 1), .slice bo51 (s.items.length + 1) c52]], [Res.row 43 5 (.slice bo51 (s.items.length + 1) c52) (s.items.length + 1) (itemE.all s.items ps ++ [.int .i64 (s.last + 1), .string m.fu, .string m.fd, .slice ro m.rc.length rc, .slice q2 m.body.length d2])], [Res.row 43 5 (.slice (some ⟨u46.heap.size, 0, none⟩) 1 1) (1) ([.int .i64 (s.last + 1), .string m.fu, .string m.fd, .slice ro m.rc.length rc, .slice q2 m.body.length d2])], [Res.cells (k7) [.int .i64 (s.last + 1), .string m.fu, .string m.fd, .slice ro m.rc.length rc, .slice q2 m.body.length d2]], [Res.row 105 4 (.slice ro m.rc.length rc) (m.rc.length) (rcNew now m.rc)], [Res.row 9 1 (.slice q2 m.body.length d2) (m.body.length) (m.body.map Value.string)], [Res.cells (w.heap.size + 1 + 1) [.int .i64 0, .slice none 0 0]], [Res.cells (w.heap.size + 1) [.string m.fu, .string m.fd, .slice a1 m.rc.length c1, .slice a2 m.body.length c2]]]) := ⟨(S11.out).set 1 (.slice bo51 (s.items.length + 1) c52) (by simp)⟩
              go_simp
              refine hK.out _ _ ⟨(S12.out.cellsM 3 rfl).c 0 _ rfl, (S12.out.cellsM 3 rfl).c 1 _ rfl, (S12.out.cellsM 3 rfl).c 2 _ rfl, (S12.out.cellsM 3 rfl).c 3 _ rfl, (S12.out.cellsM 3 rfl).c 4 _ rfl⟩ (fun hHeld => ?_)
              clear hK K
              try simp only [Act.put, List.getElem_toArray, List.getElem_cons_succ, List.getElem_cons_zero, List.setIfInBounds_toArray, List.set_cons_zero, List.set_cons_succ]
              clear oc0 of0
              refine wpAnyH_done (by kernel_rfl) ?_ _
              go_wp2_with fail
              go_meet
              exact ⟨bo51, c52, (Pt.prefix (As := [[Res.cells (w.heap.size) [.int .i64 (s.last + 1), .slice bo51 (s.items.length + 1) c52]], [Res.row 43 5 (.slice bo51 (s.items.length + 1) c52) (s.items.length + 1) (itemE.all s.items ps ++ [.int .i64 (s.last + 1), .string m.fu, .string m.fd, .slice ro m.rc.length rc, .slice q2 m.body.length d2])], [Res.cells (k7) [.int .i64 (s.last + 1), .string m.fu, .string m.fd, .slice ro m.rc.length rc, .slice q2 m.body.length d2]], [Res.row 105 4 (.slice ro m.rc.length rc) (m.rc.length) (rcNew now m.rc)], [Res.row 9 1 (.slice q2 m.body.length d2) (m.body.length) (m.body.map Value.string)], [Res.cells (w.heap.size + 1) [.string m.fu, .string m.fd, .slice a1 m.rc.length c1, .slice a2 m.body.length c2]], [Res.cells (w.heap.size + 1 + 1) [.int .i64 0, .slice none 0 0]]]) (Bs := [[Res.row 43 5 (.slice (some ⟨u46.heap.size, 0, none⟩) 1 1) (1) ([.int .i64 (s.last + 1), .string m.fu, .string m.fd, .slice ro m.rc.length rc, .slice q2 m.body.length d2])]]) (Pt.bring ((Pt.bring ((Pt.bring ((Pt.bring ((Pt.bring ((Pt.bring ((Pt.bring (S12.out) 6 rfl)) 7 rfl)) 7 rfl)) 7 rfl)) 7 rfl)) 6 rfl)) 6 rfl))⟩
            · have S8 : Seal (Pt w ((w5.alloc (.cells #[] 43)).alloc (.cells #[.int .i64 (s.last + 1), .string m.fu, .string m.fd, .slice ro m.rc.length rc, .slice q2 m.body.length d2] 43)).drew [[Res.row 43 5 (.slice (some ⟨w5.heap.size + 1, 0, none⟩) 1 1) (1) ([.int .i64 (s.last + 1), .string m.fu, .string m.fd, .slice ro m.rc.length rc, .slice q2 m.body.length d2])], [Res.row 43 5 (.slice (some ⟨w5.heap.size, 0, none⟩) 0 0) (0) ([])], [Res.cells (w.heap.size) [.int .i64 (s.last + 1), .slice ao s.items.length cap]], [Res.cells (k7) [.int .i64 (s.last + 1), .string m.fu, .string m.fd, .slice ro m.rc.length rc, .slice q2 m.body.length d2]], [Res.row 105 4 (.slice ro m.rc.length rc) (m.rc.length) (rcNew now m.rc)], [Res.row 9 1 (.slice q2 m.body.length d2) (m.body.length) (m.body.map Value.string)], [Res.cells (w.heap.size + 1 + 1) [.int .i64 0, .slice none 0 0]], [Res.cells (w.heap.size + 1) [.string m.fu, .string m.fd, .slice a1 m.rc.length c1, .slice a2 m.body.length c2]]]) := ⟨by have h := Pt.built S7.out #[.int .i64 (s.last + 1), .string m.fu, .string m.fd, .slice ro m.rc.length rc, .slice q2 m.body.length d2] 43 5 1 (by decide) rfl; simp only [World.size_alloc, World.size_drew'] at h; exact h⟩
              go_simp
              refine hK.out _ _ ⟨(S8.out.cellsM 3 rfl).c 0 _ rfl, (S8.out.cellsM 3 rfl).c 1 _ rfl, (S8.out.cellsM 3 rfl).c 2 _ rfl, (S8.out.cellsM 3 rfl).c 3 _ rfl, (S8.out.cellsM 3 rfl).c 4 _ rfl⟩ (fun hHeld => ?_)
              clear hK K
              try simp only [Act.put, List.getElem_toArray, List.getElem_cons_succ, List.getElem_cons_zero, List.setIfInBounds_toArray, List.set_cons_zero, List.set_cons_succ]
              refine wpAnyH_ready (rs := [3]) (by kernel_rfl) (by simp) ?_
              refine AllReadyH.cons rfl (fun K hK => ?_) AllReadyH.nil
              have SH8 : Seal (Pt w ((w5.alloc (.cells #[] 43)).alloc (.cells #[.int .i64 (s.last + 1), .string m.fu, .string m.fd, .slice ro m.rc.length rc, .slice q2 m.body.length d2] 43)).drew [[Res.row 43 5 (.slice (some ⟨w5.heap.size, 0, none⟩) 0 0) (0) ([])], [Res.row 43 5 (.slice (some ⟨w5.heap.size + 1, 0, none⟩) 1 1) (1) ([.int .i64 (s.last + 1), .string m.fu, .string m.fd, .slice ro m.rc.length rc, .slice q2 m.body.length d2])], [Res.cells (w.heap.size) [.int .i64 (s.last + 1), .slice ao s.items.length cap]], [Res.cells (k7) [.int .i64 (s.last + 1), .string m.fu, .string m.fd, .slice ro m.rc.length rc, .slice q2 m.body.length d2]], [Res.row 105 4 (.slice ro m.rc.length rc) (m.rc.length) (rcNew now m.rc)], [Res.row 9 1 (.slice q2 m.body.length d2) (m.body.length) (m.body.map Value.string)], [Res.cells (w.heap.size + 1 + 1) [.int .i64 0, .slice none 0 0]], [Res.cells (w.heap.size + 1) [.string m.fu, .string m.fd, .slice a1 m.rc.length c1, .slice a2 m.body.length c2]]]) := ⟨S8.out.bring 1 rfl⟩
              have OW8 : Seal _ := ⟨Pt.row1 SH8.out 0 rfl⟩
              have SR8 : Seal _ := ⟨((HS.out.later S8.out.below).get List.mem_cons_self)⟩
              refine step_append_first rfl _ _ 23 rfl 0 43 iItem (.agg #[.int .i64 0, .string ByteArray.empty, .string ByteArray.empty, .slice none 0 0, .slice none 0 0]) 5 88 Tryz.underlying23 hiItem hz0Item hz1Item hz2Item rfl (by decide) (.slice (some ⟨w5.heap.size, 0, none⟩) 0 0) (by rfl) OW8.out (ao) (s.items.length) (cap) (itemE.all s.items ps) (by rfl) SR8.out (by first | exact items_all_one _ _ | (intro u hu; simp only [List.mem_cons, List.not_mem_nil, or_false] at hu; rcases hu with rfl | rfl | rfl | rfl | rfl <;> rfl)) (by unfold maxLen; omega) (by omega) (Nat.zero_le _) ?_
              intro v53 u54 hown hg hat
              have S9 : Seal (Pt w u54 [[Res.row 43 5 (v53) (s.items.length) (itemE.all s.items ps)], [Res.row 43 5 (.slice (some ⟨w5.heap.size + 1, 0, none⟩) 1 1) (1) ([.int .i64 (s.last + 1), .string m.fu, .string m.fd, .slice ro m.rc.length rc, .slice q2 m.body.length d2])], [Res.cells (w.heap.size) [.int .i64 (s.last + 1), .slice ao s.items.length cap]], [Res.cells (k7) [.int .i64 (s.last + 1), .string m.fu, .string m.fd, .slice ro m.rc.length rc, .slice q2 m.body.length d2]], [Res.row 105 4 (.slice ro m.rc.length rc) (m.rc.length) (rcNew now m.rc)], [Res.row 9 1 (.slice q2 m.body.length d2) (m.body.length) (m.body.map Value.string)], [Res.cells (w.heap.size + 1 + 1) [.int .i64 0, .slice none 0 0]], [Res.cells (w.heap.size + 1) [.string m.fu, .string m.fd, .slice a1 m.rc.length c1, .slice a2 m.body.length c2]]]) := ⟨Pt.app SH8.out hown hg (by simpa using hat)⟩
              obtain ⟨bo55, c56, rfl, _⟩ := row_value (Pt.row1 S9.out 0 rfl)
              clear hown hg hat SH8 OW8 SR8
              refine hK.out _ _ ⟨(S9.out.cellsM 3 rfl).c 0 _ rfl, (S9.out.cellsM 3 rfl).c 1 _ rfl, (S9.out.cellsM 3 rfl).c 2 _ rfl, (S9.out.cellsM 3 rfl).c 3 _ rfl, (S9.out.cellsM 3 rfl).c 4 _ rfl⟩ (fun hHeld => ?_)
              clear hK K
              try simp only [Act.put, List.getElem_toArray, List.getElem_cons_succ, List.getElem_cons_zero, List.setIfInBounds_toArray, List.set_cons_zero, List.set_cons_succ]
              refine wpAnyH_ready (rs := [6]) (by kernel_rfl) (by simp) ?_
              refine AllReadyH.cons rfl (fun K hK => ?_) AllReadyH.nil
              have SH9 : Seal (Pt w u54 [[Res.row 43 5 (.slice bo55 (s.items.length) c56) (s.items.length) (itemE.all s.items ps)], [Res.row 43 5 (.slice (some ⟨w5.heap.size + 1, 0, none⟩) 1 1) (1) ([.int .i64 (s.last + 1), .string m.fu, .string m.fd, .slice ro m.rc.length rc, .slice q2 m.body.length d2])], [Res.cells (w.heap.size) [.int .i64 (s.last + 1), .slice ao s.items.length cap]], [Res.cells (k7) [.int .i64 (s.last + 1), .string m.fu, .string m.fd, .slice ro m.rc.length rc, .slice q2 m.body.length d2]], [Res.row 105 4 (.slice ro m.rc.length rc) (m.rc.length) (rcNew now m.rc)], [Res.row 9 1 (.slice q2 m.body.length d2) (m.body.length) (m.body.map Value.string)], [Res.cells (w.heap.size + 1 + 1) [.int .i64 0, .slice none 0 0]], [Res.cells (w.heap.size + 1) [.string m.fu, .string m.fd, .slice a1 m.rc.length c1, .slice a2 m.body.length c2]]]) := ⟨S9.out.bring 0 rfl⟩
              have OW9 : Seal _ := ⟨Pt.row1 SH9.out 0 rfl⟩
              have SR9 : Seal _ := ⟨(Pt.row1 S9.out 1 rfl)⟩
              refine step_append_any rfl _ _ 23 rfl 0 43 iItem (.agg #[.int .i64 0, .string ByteArray.empty, .string ByteArray.empty, .slice none 0 0, .slice none 0 0]) 5 88 Tryz.underlying23 hiItem hz0Item hz1Item hz2Item rfl (by decide) (.slice bo55 (s.items.length) c56) (s.items.length) (itemE.all s.items ps) (by rfl) OW9.out ((some ⟨w5.heap.size + 1, 0, none⟩)) (1) (1) ([.int .i64 (s.last + 1), .string m.fu, .string m.fd, .slice ro m.rc.length rc, .slice q2 m.body.length d2]) (by rfl) SR9.out (by first | exact items_all_one _ _ | (intro u hu; simp only [List.mem_cons, List.not_mem_nil, or_false] at hu; rcases hu with rfl | rfl | rfl | rfl | rfl <;> rfl)) (by unfold maxLen; omega) (by omega) (Nat.zero_le _) ?_
              intro v57 u58 hown hg hat
              have S10 : Seal (Pt w u58 [[Res.row 43 5 (v57) (s.items.length + 1) (itemE.all s.items ps ++ [.int .i64 (s.last + 1), .string m.fu, .string m.fd, .slice ro m.rc.length rc, .slice q2 m.body.length d2])], [Res.row 43 5 (.slice (some ⟨w5.heap.size + 1, 0, none⟩) 1 1) (1) ([.int .i64 (s.last + 1), .string m.fu, .string m.fd, .slice ro m.rc.length rc, .slice q2 m.body.length d2])], [Res.cells (w.heap.size) [.int .i64 (s.last + 1), .slice ao s.items.length cap]], [Res.cells (k7) [.int .i64 (s.last + 1), .string m.fu, .string m.fd, .slice ro m.rc.length rc, .slice q2 m.body.length d2]], [Res.row 105 4 (.slice ro m.rc.length rc) (m.rc.length) (rcNew now m.rc)], [Res.row 9 1 (.slice q2 m.body.length d2) (m.body.length) (m.body.map Value.string)], [Res.cells (w.heap.size + 1 + 1) [.int .i64 0, .slice none 0 0]], [Res.cells (w.heap.size + 1) [.string m.fu, .string m.fd, .slice a1 m.rc.length c1, .slice a2 m.body.length c2]]]) := ⟨Pt.app SH9.out hown hg (by simpa using hat)⟩
              obtain ⟨bo59, c60, rfl, _⟩ := row_value (Pt.row1 S10.out 0 rfl)
              clear hown hg hat SH9 OW9 SR9
              refine hK.out _ _ ⟨(S10.out.cellsM 3 rfl).c 0 _ rfl, (S10.out.cellsM 3 rfl).c 1 _ rfl, (S10.out.cellsM 3 rfl).c 2 _ rfl, (S10.out.cellsM 3 rfl).c 3 _ rfl, (S10.out.cellsM 3 rfl).c 4 _ rfl⟩ (fun hHeld => ?_)
              clear hK K
              try simp only [Act.put, List.getElem_toArray, List.getElem_cons_succ, List.getElem_cons_zero, List.setIfInBounds_toArray, List.set_cons_zero, List.set_cons_succ]
              refine tkH 7 (by assumption) (h := ?_)
              refine wpAnyH_ready (rs := [8]) (by kernel_rfl) (by simp) ?_
              refine AllReadyH.cons rfl (fun K hK => ?_) AllReadyH.nil
              have S11 : Seal (Pt w u58 [[Res.cells (w.heap.size) [.int .i64 (s.last + 1), .slice ao s.items.length cap]], [Res.row 43 5 (.slice bo59 (s.items.length + 1) c60) (s.items.length + 1) (itemE.all s.items ps ++ [.int .i64 (s.last + 1), .string m.fu, .string m.fd, .slice ro m.rc.length rc, .slice q2 m.body.length d2])], [Res.row 43 5 (.slice (some ⟨w5.heap.size + 1, 0, none⟩) 1 1) (1) ([.int .i64 (s.last + 1), .string m.fu, .string m.fd, .slice ro m.rc.length rc, .slice q2 m.body.length d2])], [Res.cells (k7) [.int .i64 (s.last + 1), .string m.fu, .string m.fd, .slice ro m.rc.length rc, .slice q2 m.body.length d2]], [Res.row 105 4 (.slice ro m.rc.length rc) (m.rc.length) (rcNew now m.rc)], [Res.row 9 1 (.slice q2 m.body.length d2) (m.body.length) (m.body.map Value.string)], [Res.cells (w.heap.size + 1 + 1) [.int .i64 0, .slice none 0 0]], [Res.cells (w.heap.size + 1) [.string m.fu, .string m.fd, .slice a1 m.rc.length c1, .slice a2 m.body.length c2]]]) := ⟨S10.out.bring 2 rfl⟩
              have oc0 := (S11.out.cellsM 0 rfl).c 1 _ rfl
              have of0 := (S11.out.cellsM 0 rfl).f 1 (by simp)
              have S12 : Seal (Pt w (u58.setCell ⟨w.heap.size, 1, none⟩ (.slice bo59 (s.items.length + 1) c60)) [[Res.cells (w.heap.size) [.int .i64 (s.last + 1), .slice bo59 (s.items.length + 1) c60]], [Res.row 43 5 (.slice bo59 (s.items.length + 1) c60) (s.items.length + 1) (itemE.all s.items ps ++ [.int .i64 (s.last + 1), .string m.fu, .string m.fd, .slice ro m.rc.length rc, .slice q2 m.body.length d2])], [Res.row 43 5 (.slice (some ⟨w5.heap.size + 1, 0, none⟩) 1 1) (1) ([.int .i64 (s.last + 1), .string m.fu, .string m.fd, .slice ro m.rc.length rc, .slice q2 m.body.length d2])], [Res.cells (k7) [.int .i64 (s.last + 1), .string m.fu, .string m.fd, .slice ro m.rc.length rc, .slice q2 m.body.length d2]], [Res.row 105 4 (.slice ro m.rc.length rc) (m.rc.length) (rcNew now m.rc)], [Res.row 9 1 (.slice q2 m.body.length d2) (m.body.length) (m.body.map Value.string)], [Res.cells (w.heap.size + 1 + 1) [.int .i64 0, .slice none 0 0]], [Res.cells (w.heap.size + 1) [.string m.fu, .string m.fd, .slice a1 m.rc.length c1, .slice a2 m.body.length c2]]]) := ⟨(S11.out).set 1 (.slice bo59 (s.items.length + 1) c60) (by simp)⟩
              go_simp
              refine hK.out _ _ ⟨(S12.out.cellsM 3 rfl).c 0 _ rfl, (S12.out.cellsM 3 rfl).c 1 _ rfl, (S12.out.cellsM 3 rfl).c 2 _ rfl, (S12.out.cellsM 3 rfl).c 3 _ rfl, (S12.out.cellsM 3 rfl).c 4 _ rfl⟩ (fun hHeld => ?_)
              clear hK K
              try simp only [Act.put, List.getElem_toArray, List.getElem_cons_succ, List.getElem_cons_zero, List.setIfInBounds_toArray, List.set_cons_zero, List.set_cons_succ]
              clear oc0 of0
              refine wpAnyH_done (by kernel_rfl) ?_ _
              go_wp2_with fail
              go_meet
              exact ⟨bo59, c60, (Pt.prefix (As := [[Res.cells (w.heap.size) [.int .i64 (s.last + 1), .slice bo59 (s.items.length + 1) c60]], [Res.row 43 5 (.slice bo59 (s.items.length + 1) c60) (s.items.length + 1) (itemE.all s.items ps ++ [.int .i64 (s.last + 1), .string m.fu, .string m.fd, .slice ro m.rc.length rc, .slice q2 m.body.length d2])], [Res.cells (k7) [.int .i64 (s.last + 1), .string m.fu, .string m.fd, .slice ro m.rc.length rc, .slice q2 m.body.length d2]], [Res.row 105 4 (.slice ro m.rc.length rc) (m.rc.length) (rcNew now m.rc)], [Res.row 9 1 (.slice q2 m.body.length d2) (m.body.length) (m.body.map Value.string)], [Res.cells (w.heap.size + 1) [.string m.fu, .string m.fd, .slice a1 m.rc.length c1, .slice a2 m.body.length c2]], [Res.cells (w.heap.size + 1 + 1) [.int .i64 0, .slice none 0 0]]]) (Bs := [[Res.row 43 5 (.slice (some ⟨w5.heap.size + 1, 0, none⟩) 1 1) (1) ([.int .i64 (s.last + 1), .string m.fu, .string m.fd, .slice ro m.rc.length rc, .slice q2 m.body.length d2])]]) (Pt.bring ((Pt.bring ((Pt.bring ((Pt.bring ((Pt.bring ((Pt.bring ((Pt.bring (S12.out) 6 rfl)) 7 rfl)) 7 rfl)) 7 rfl)) 7 rfl)) 6 rfl)) 6 rfl))⟩
          · have S7 : Seal (Pt w (w5.alloc (.cells #[.int .i64 (s.last + 1), .string m.fu, .string m.fd, .slice ro m.rc.length rc, .slice q2 m.body.length d2] 43)).drew [[Res.row 43 5 (.slice (some ⟨w5.heap.size, 0, none⟩) 1 1) (1) ([.int .i64 (s.last + 1), .string m.fu, .string m.fd, .slice ro m.rc.length rc, .slice q2 m.body.length d2])], [Res.cells (w.heap.size) [.int .i64 (s.last + 1), .slice ao s.items.length cap]], [Res.cells (k7) [.int .i64 (s.last + 1), .string m.fu, .string m.fd, .slice ro m.rc.length rc, .slice q2 m.body.length d2]], [Res.row 105 4 (.slice ro m.rc.length rc) (m.rc.length) (rcNew now m.rc)], [Res.row 9 1 (.slice q2 m.body.length d2) (m.body.length) (m.body.map Value.string)], [Res.cells (w.heap.size + 1 + 1) [.int .i64 0, .slice none 0 0]], [Res.cells (w.heap.size + 1) [.string m.fu, .string m.fd, .slice a1 m.rc.length c1, .slice a2 m.body.length c2]]]) := ⟨Pt.built S6.out #[.int .i64 (s.last + 1), .string m.fu, .string m.fd, .slice ro m.rc.length rc, .slice q2 m.body.length d2] 43 5 1 (by decide) rfl⟩
            go_simp
            refine hK.out _ _ ⟨(S7.out.cellsM 2 rfl).c 0 _ rfl, (S7.out.cellsM 2 rfl).c 1 _ rfl, (S7.out.cellsM 2 rfl).c 2 _ rfl, (S7.out.cellsM 2 rfl).c 3 _ rfl, (S7.out.cellsM 2 rfl).c 4 _ rfl⟩ (fun hHeld => ?_)
            clear hK K
            try simp only [Act.put, List.getElem_toArray, List.getElem_cons_succ, List.getElem_cons_zero, List.setIfInBounds_toArray, List.set_cons_zero, List.set_cons_succ]
            refine wpAnyH_ready (rs := [0]) (by kernel_rfl) (by simp) ?_
            refine AllReadyH.cons rfl (fun K hK => ?_) AllReadyH.nil
            have S8 : Seal (Pt w ((w5.alloc (.cells #[.int .i64 (s.last + 1), .string m.fu, .string m.fd, .slice ro m.rc.length rc, .slice q2 m.body.length d2] 43)).alloc (.cells #[] 43)).drew [[Res.row 43 5 (.slice (some ⟨w5.heap.size + 1, 0, none⟩) 0 0) (0) ([])], [Res.row 43 5 (.slice (some ⟨w5.heap.size, 0, none⟩) 1 1) (1) ([.int .i64 (s.last + 1), .string m.fu, .string m.fd, .slice ro m.rc.length rc, .slice q2 m.body.length d2])], [Res.cells (w.heap.size) [.int .i64 (s.last + 1), .slice ao s.items.length cap]], [Res.cells (k7) [.int .i64 (s.last + 1), .string m.fu, .string m.fd, .slice ro m.rc.length rc, .slice q2 m.body.length d2]], [Res.row 105 4 (.slice ro m.rc.length rc) (m.rc.length) (rcNew now m.rc)], [Res.row 9 1 (.slice q2 m.body.length d2) (m.body.length) (m.body.map Value.string)], [Res.cells (w.heap.size + 1 + 1) [.int .i64 0, .slice none 0 0]], [Res.cells (w.heap.size + 1) [.string m.fu, .string m.fd, .slice a1 m.rc.length c1, .slice a2 m.body.length c2]]]) := ⟨by have h := Pt.built S7.out #[] 43 5 0 (by decide) rfl; simp only [World.size_alloc, World.size_drew'] at h; exact h⟩
            go_simp
            refine hK.out _ _ ⟨(S8.out.cellsM 3 rfl).c 0 _ rfl, (S8.out.cellsM 3 rfl).c 1 _ rfl, (S8.out.cellsM 3 rfl).c 2 _ rfl, (S8.out.cellsM 3 rfl).c 3 _ rfl, (S8.out.cellsM 3 rfl).c 4 _ rfl⟩ (fun hHeld => ?_)
            clear hK K
            try simp only [Act.put, List.getElem_toArray, List.getElem_cons_succ, List.getElem_cons_zero, List.setIfInBounds_toArray, List.set_cons_zero, List.set_cons_succ]
            refine wpAnyH_ready (rs := [3]) (by kernel_rfl) (by simp) ?_
            refine AllReadyH.cons rfl (fun K hK => ?_) AllReadyH.nil
            have SH8 : Seal (Pt w ((w5.alloc (.cells #[.int .i64 (s.last + 1), .string m.fu, .string m.fd, .slice ro m.rc.length rc, .slice q2 m.body.length d2] 43)).alloc (.cells #[] 43)).drew [[Res.row 43 5 (.slice (some ⟨w5.heap.size + 1, 0, none⟩) 0 0) (0) ([])], [Res.row 43 5 (.slice (some ⟨w5.heap.size, 0, none⟩) 1 1) (1) ([.int .i64 (s.last + 1), .string m.fu, .string m.fd, .slice ro m.rc.length rc, .slice q2 m.body.length d2])], [Res.cells (w.heap.size) [.int .i64 (s.last + 1), .slice ao s.items.length cap]], [Res.cells (k7) [.int .i64 (s.last + 1), .string m.fu, .string m.fd, .slice ro m.rc.length rc, .slice q2 m.body.length d2]], [Res.row 105 4 (.slice ro m.rc.length rc) (m.rc.length) (rcNew now m.rc)], [Res.row 9 1 (.slice q2 m.body.length d2) (m.body.length) (m.body.map Value.string)], [Res.cells (w.heap.size + 1 + 1) [.int .i64 0, .slice none 0 0]], [Res.cells (w.heap.size + 1) [.string m.fu, .string m.fd, .slice a1 m.rc.length c1, .slice a2 m.body.length c2]]]) := ⟨S8.out.bring 0 rfl⟩
            have OW8 : Seal _ := ⟨Pt.row1 SH8.out 0 rfl⟩
            have SR8 : Seal _ := ⟨((HS.out.later S8.out.below).get List.mem_cons_self)⟩
            refine step_append_first rfl _ _ 23 rfl 0 43 iItem (.agg #[.int .i64 0, .string ByteArray.empty, .string ByteArray.empty, .slice none 0 0, .slice none 0 0]) 5 88 Tryz.underlying23 hiItem hz0Item hz1Item hz2Item rfl (by decide) (.slice (some ⟨w5.heap.size + 1, 0, none⟩) 0 0) (by rfl) OW8.out (ao) (s.items.length) (cap) (itemE.all s.items ps) (by rfl) SR8.out (by first | exact items_all_one _ _ | (intro u hu; simp only [List.mem_cons, List.not_mem_nil, or_false] at hu; rcases hu with rfl | rfl | rfl | rfl | rfl <;> rfl)) (by unfold maxLen; omega) (by omega) (Nat.zero_le _) ?_
            intro v61 u62 hown hg hat
            have S9 : Seal (Pt w u62 [[Res.row 43 5 (v61) (s.items.length) (itemE.all s.items ps)], [Res.row 43 5 (.slice (some ⟨w5.heap.size, 0, none⟩) 1 1) (1) ([.int .i64 (s.last + 1), .string m.fu, .string m.fd, .slice ro m.rc.length rc, .slice q2 m.body.length d2])], [Res.cells (w.heap.size) [.int .i64 (s.last + 1), .slice ao s.items.length cap]], [Res.cells (k7) [.int .i64 (s.last + 1), .string m.fu, .string m.fd, .slice ro m.rc.length rc, .slice q2 m.body.length d2]], [Res.row 105 4 (.slice ro m.rc.length rc) (m.rc.length) (rcNew now m.rc)], [Res.row 9 1 (.slice q2 m.body.length d2) (m.body.length) (m.body.map Value.string)], [Res.cells (w.heap.size + 1 + 1) [.int .i64 0, .slice none 0 0]], [Res.cells (w.heap.size + 1) [.string m.fu, .string m.fd, .slice a1 m.rc.length c1, .slice a2 m.body.length c2]]]) := ⟨Pt.app SH8.out hown hg (by simpa using hat)⟩
            obtain ⟨bo63, c64, rfl, _⟩ := row_value (Pt.row1 S9.out 0 rfl)
            clear hown hg hat SH8 OW8 SR8
            refine hK.out _ _ ⟨(S9.out.cellsM 3 rfl).c 0 _ rfl, (S9.out.cellsM 3 rfl).c 1 _ rfl, (S9.out.cellsM 3 rfl).c 2 _ rfl, (S9.out.cellsM 3 rfl).c 3 _ rfl, (S9.out.cellsM 3 rfl).c 4 _ rfl⟩ (fun hHeld => ?_)
            clear hK K
            try simp only [Act.put, List.getElem_toArray, List.getElem_cons_succ, List.getElem_cons_zero, List.setIfInBounds_toArray, List.set_cons_zero, List.set_cons_succ]
            refine wpAnyH_ready (rs := [6]) (by kernel_rfl) (by simp) ?_
            refine AllReadyH.cons rfl (fun K hK => ?_) AllReadyH.nil
            have SH9 : Seal (Pt w u62 [[Res.row 43 5 (.slice bo63 (s.items.length) c64) (s.items.length) (itemE.all s.items ps)], [Res.row 43 5 (.slice (some ⟨w5.heap.size, 0, none⟩) 1 1) (1) ([.int .i64 (s.last + 1), .string m.fu, .string m.fd, .slice ro m.rc.length rc, .slice q2 m.body.length d2])], [Res.cells (w.heap.size) [.int .i64 (s.last + 1), .slice ao s.items.length cap]], [Res.cells (k7) [.int .i64 (s.last + 1), .string m.fu, .string m.fd, .slice ro m.rc.length rc, .slice q2 m.body.length d2]], [Res.row 105 4 (.slice ro m.rc.length rc) (m.rc.length) (rcNew now m.rc)], [Res.row 9 1 (.slice q2 m.body.length d2) (m.body.length) (m.body.map Value.string)], [Res.cells (w.heap.size + 1 + 1) [.int .i64 0, .slice none 0 0]], [Res.cells (w.heap.size + 1) [.string m.fu, .string m.fd, .slice a1 m.rc.length c1, .slice a2 m.body.length c2]]]) := ⟨S9.out.bring 0 rfl⟩
            have OW9 : Seal _ := ⟨Pt.row1 SH9.out 0 rfl⟩
            have SR9 : Seal _ := ⟨(Pt.row1 S9.out 1 rfl)⟩
            refine step_append_any rfl _ _ 23 rfl 0 43 iItem (.agg #[.int .i64 0, .string ByteArray.empty, .string ByteArray.empty, .slice none 0 0, .slice none 0 0]) 5 88 Tryz.underlying23 hiItem hz0Item hz1Item hz2Item rfl (by decide) (.slice bo63 (s.items.length) c64) (s.items.length) (itemE.all s.items ps) (by rfl) OW9.out ((some ⟨w5.heap.size, 0, none⟩)) (1) (1) ([.int .i64 (s.last + 1), .string m.fu, .string m.fd, .slice ro m.rc.length rc, .slice q2 m.body.length d2]) (by rfl) SR9.out (by first | exact items_all_one _ _ | (intro u hu; simp only [List.mem_cons, List.not_mem_nil, or_false] at hu; rcases hu with rfl | rfl | rfl | rfl | rfl <;> rfl)) (by unfold maxLen; omega) (by omega) (Nat.zero_le _) ?_
            intro v65 u66 hown hg hat
            have S10 : Seal (Pt w u66 [[Res.row 43 5 (v65) (s.items.length + 1) (itemE.all s.items ps ++ [.int .i64 (s.last + 1), .string m.fu, .string m.fd, .slice ro m.rc.length rc, .slice q2 m.body.length d2])], [Res.row 43 5 (.slice (some ⟨w5.heap.size, 0, none⟩) 1 1) (1) ([.int .i64 (s.last + 1), .string m.fu, .string m.fd, .slice ro m.rc.length rc, .slice q2 m.body.length d2])], [Res.cells (w.heap.size) [.int .i64 (s.last + 1), .slice ao s.items.length cap]], [Res.cells (k7) [.int .i64 (s.last + 1), .string m.fu, .string m.fd, .slice ro m.rc.length rc, .slice q2 m.body.length d2]], [Res.row 105 4 (.slice ro m.rc.length rc) (m.rc.length) (rcNew now m.rc)], [Res.row 9 1 (.slice q2 m.body.length d2) (m.body.length) (m.body.map Value.string)], [Res.cells (w.heap.size + 1 + 1) [.int .i64 0, .slice none 0 0]], [Res.cells (w.heap.size + 1) [.string m.fu, .string m.fd, .slice a1 m.rc.length c1, .slice a2 m.body.length c2]]]) := ⟨Pt.app SH9.out hown hg (by simpa using hat)⟩
            obtain ⟨bo67, c68, rfl, _⟩ := row_value (Pt.row1 S10.out 0 rfl)
            clear hown hg hat SH9 OW9 SR9
            refine hK.out _ _ ⟨(S10.out.cellsM 3 rfl).c 0 _ rfl, (S10.out.cellsM 3 rfl).c 1 _ rfl, (S10.out.cellsM 3 rfl).c 2 _ rfl, (S10.out.cellsM 3 rfl).c 3 _ rfl, (S10.out.cellsM 3 rfl).c 4 _ rfl⟩ (fun hHeld => ?_)
            clear hK K
            try simp only [Act.put, List.getElem_toArray, List.getElem_cons_succ, List.getElem_cons_zero, List.setIfInBounds_toArray, List.set_cons_zero, List.set_cons_succ]
            refine tkH 7 (by assumption) (h := ?_)
            refine wpAnyH_ready (rs := [8]) (by kernel_rfl) (by simp) ?_
            refine AllReadyH.cons rfl (fun K hK => ?_) AllReadyH.nil
            have S11 : Seal (Pt w u66 [[Res.cells (w.heap.size) [.int .i64 (s.last + 1), .slice ao s.items.length cap]], [Res.row 43 5 (.slice bo67 (s.items.length + 1) c68) (s.items.length + 1) (itemE.all s.items ps ++ [.int .i64 (s.last + 1), .string m.fu, .string m.fd, .slice ro m.rc.length rc, .slice q2 m.body.length d2])], [Res.row 43 5 (.slice (some ⟨w5.heap.size, 0, none⟩) 1 1) (1) ([.int .i64 (s.last + 1), .string m.fu, .string m.fd, .slice ro m.rc.length rc, .slice q2 m.body.length d2])], [Res.cells (k7) [.int .i64 (s.last + 1), .string m.fu, .string m.fd, .slice ro m.rc.length rc, .slice q2 m.body.length d2]], [Res.row 105 4 (.slice ro m.rc.length rc) (m.rc.length) (rcNew now m.rc)], [Res.row 9 1 (.slice q2 m.body.length d2) (m.body.length) (m.body.map Value.string)], [Res.cells (w.heap.size + 1 + 1) [.int .i64 0, .slice none 0 0]], [Res.cells (w.heap.size + 1) [.string m.fu, .string m.fd, .slice a1 m.rc.length c1, .slice a2 m.body.length c2]]]) := ⟨S10.out.bring 2 rfl⟩
            have oc0 := (S11.out.cellsM 0 rfl).c 1 _ rfl
            have of0 := (S11.out.cellsM 0 rfl).f 1 (by simp)
            have S12 : Seal (Pt w (u66.setCell ⟨w.heap.size, 1, none⟩ (.slice bo67 (s.items.length + 1) c68)) [[Res.cells (w.heap.size) [.int .i64 (s.last + 1), .slice bo67 (s.items.length + 1) c68]], [Res.row 43 5 (.slice bo67 (s.items.length + 1) c68) (s.items.length + 1) (itemE.all s.items ps ++ [.int .i64 (s.last + 1), .string m.fu, .string m.fd, .slice ro m.rc.length rc, .slice q2 m.body.length d2])], [Res.row 43 5 (.slice (some ⟨w5.heap.size, 0, none⟩) 1 1) (1) ([.int .i64 (s.last + 1), .string m.fu, .string m.fd, .slice ro m.rc.length rc, .slice q2 m.body.length d2])], [Res.cells (k7) [.int .i64 (s.last + 1), .string m.fu, .string m.fd, .slice ro m.rc.length rc, .slice q2 m.body.length d2]], [Res.row 105 4 (.slice ro m.rc.length rc) (m.rc.length) (rcNew now m.rc)], [Res.row 9 1 (.slice q2 m.body.length d2) (m.body.length) (m.body.map Value.string)], [Res.cells (w.heap.size + 1 + 1) [.int .i64 0, .slice none 0 0]], [Res.cells (w.heap.size + 1) [.string m.fu, .string m.fd, .slice a1 m.rc.length c1, .slice a2 m.body.length c2]]]) := ⟨(S11.out).set 1 (.slice bo67 (s.items.length + 1) c68) (by simp)⟩
            go_simp
            refine hK.out _ _ ⟨(S12.out.cellsM 3 rfl).c 0 _ rfl, (S12.out.cellsM 3 rfl).c 1 _ rfl, (S12.out.cellsM 3 rfl).c 2 _ rfl, (S12.out.cellsM 3 rfl).c 3 _ rfl, (S12.out.cellsM 3 rfl).c 4 _ rfl⟩ (fun hHeld => ?_)
            clear hK K
            try simp only [Act.put, List.getElem_toArray, List.getElem_cons_succ, List.getElem_cons_zero, List.setIfInBounds_toArray, List.set_cons_zero, List.set_cons_succ]
            clear oc0 of0
            refine wpAnyH_done (by kernel_rfl) ?_ _
            go_wp2_with fail
            go_meet
            exact ⟨bo67, c68, (Pt.prefix (As := [[Res.cells (w.heap.size) [.int .i64 (s.last + 1), .slice bo67 (s.items.length + 1) c68]], [Res.row 43 5 (.slice bo67 (s.items.length + 1) c68) (s.items.length + 1) (itemE.all s.items ps ++ [.int .i64 (s.last + 1), .string m.fu, .string m.fd, .slice ro m.rc.length rc, .slice q2 m.body.length d2])], [Res.cells (k7) [.int .i64 (s.last + 1), .string m.fu, .string m.fd, .slice ro m.rc.length rc, .slice q2 m.body.length d2]], [Res.row 105 4 (.slice ro m.rc.length rc) (m.rc.length) (rcNew now m.rc)], [Res.row 9 1 (.slice q2 m.body.length d2) (m.body.length) (m.body.map Value.string)], [Res.cells (w.heap.size + 1) [.string m.fu, .string m.fd, .slice a1 m.rc.length c1, .slice a2 m.body.length c2]], [Res.cells (w.heap.size + 1 + 1) [.int .i64 0, .slice none 0 0]]]) (Bs := [[Res.row 43 5 (.slice (some ⟨w5.heap.size, 0, none⟩) 1 1) (1) ([.int .i64 (s.last + 1), .string m.fu, .string m.fd, .slice ro m.rc.length rc, .slice q2 m.body.length d2])]]) (Pt.bring ((Pt.bring ((Pt.bring ((Pt.bring ((Pt.bring ((Pt.bring ((Pt.bring (S12.out) 6 rfl)) 7 rfl)) 7 rfl)) 7 rfl)) 7 rfl)) 6 rfl)) 6 rfl))⟩
        · have S7 : Seal (Pt w (w5.alloc (.cells #[.int .i64 (s.last + 1), .string m.fu, .string m.fd, .slice ro m.rc.length rc, .slice q2 m.body.length d2] 43)).drew [[Res.row 43 5 (.slice (some ⟨w5.heap.size, 0, none⟩) 1 1) (1) ([.int .i64 (s.last + 1), .string m.fu, .string m.fd, .slice ro m.rc.length rc, .slice q2 m.body.length d2])], [Res.cells (w.heap.size) [.int .i64 (s.last + 1), .slice ao s.items.length cap]], [Res.cells (k7) [.int .i64 (s.last + 1), .string m.fu, .string m.fd, .slice ro m.rc.length rc, .slice q2 m.body.length d2]], [Res.row 105 4 (.slice ro m.rc.length rc) (m.rc.length) (rcNew now m.rc)], [Res.row 9 1 (.slice q2 m.body.length d2) (m.body.length) (m.body.map Value.string)], [Res.cells (w.heap.size + 1 + 1) [.int .i64 0, .slice none 0 0]], [Res.cells (w.heap.size + 1) [.string m.fu, .string m.fd, .slice a1 m.rc.length c1, .slice a2 m.body.length c2]]]) := ⟨Pt.built S6.out #[.int .i64 (s.last + 1), .string m.fu, .string m.fd, .slice ro m.rc.length rc, .slice q2 m.body.length d2] 43 5 1 (by decide) rfl⟩
          go_simp
          refine hK.out _ _ ⟨(S7.out.cellsM 2 rfl).c 0 _ rfl, (S7.out.cellsM 2 rfl).c 1 _ rfl, (S7.out.cellsM 2 rfl).c 2 _ rfl, (S7.out.cellsM 2 rfl).c 3 _ rfl, (S7.out.cellsM 2 rfl).c 4 _ rfl⟩ (fun hHeld => ?_)
          clear hK K
          try simp only [Act.put, List.getElem_toArray, List.getElem_cons_succ, List.getElem_cons_zero, List.setIfInBounds_toArray, List.set_cons_zero, List.set_cons_succ]
          refine wpAnyH_ready (rs := [0, 2]) (by kernel_rfl) (by simp) ?_
          refine AllReadyH.cons rfl (fun K hK => ?_) (AllReadyH.cons rfl (fun K hK => ?_) AllReadyH.nil)
          · have S8 : Seal (Pt w ((w5.alloc (.cells #[.int .i64 (s.last + 1), .string m.fu, .string m.fd, .slice ro m.rc.length rc, .slice q2 m.body.length d2] 43)).alloc (.cells #[] 43)).drew [[Res.row 43 5 (.slice (some ⟨w5.heap.size + 1, 0, none⟩) 0 0) (0) ([])], [Res.row 43 5 (.slice (some ⟨w5.heap.size, 0, none⟩) 1 1) (1) ([.int .i64 (s.last + 1), .string m.fu, .string m.fd, .slice ro m.rc.length rc, .slice q2 m.body.length d2])], [Res.cells (w.heap.size) [.int .i64 (s.last + 1), .slice ao s.items.length cap]], [Res.cells (k7) [.int .i64 (s.last + 1), .string m.fu, .string m.fd, .slice ro m.rc.length rc, .slice q2 m.body.length d2]], [Res.row 105 4 (.slice ro m.rc.length rc) (m.rc.length) (rcNew now m.rc)], [Res.row 9 1 (.slice q2 m.body.length d2) (m.body.length) (m.body.map Value.string)], [Res.cells (w.heap.size + 1 + 1) [.int .i64 0, .slice none 0 0]], [Res.cells (w.heap.size + 1) [.string m.fu, .string m.fd, .slice a1 m.rc.length c1, .slice a2 m.body.length c2]]]) := ⟨by have h := Pt.built S7.out #[] 43 5 0 (by decide) rfl; simp only [World.size_alloc, World.size_drew'] at h; exact h⟩
            go_simp
            refine hK.out _ _ ⟨(S8.out.cellsM 3 rfl).c 0 _ rfl, (S8.out.cellsM 3 rfl).c 1 _ rfl, (S8.out.cellsM 3 rfl).c 2 _ rfl, (S8.out.cellsM 3 rfl).c 3 _ rfl, (S8.out.cellsM 3 rfl).c 4 _ rfl⟩ (fun hHeld => ?_)
            clear hK K
            try simp only [Act.put, List.getElem_toArray, List.getElem_cons_succ, List.getElem_cons_zero, List.setIfInBounds_toArray, List.set_cons_zero, List.set_cons_succ]
            refine wpAnyH_ready (rs := [2]) (by kernel_rfl) (by simp) ?_
            refine AllReadyH.cons rfl (fun K hK => ?_) AllReadyH.nil
            have ol0 := (S8.out.cellsM 2 rfl).c 1 _ rfl
            go_simp
            refine hK.out _ _ ⟨(S8.out.cellsM 3 rfl).c 0 _ rfl, (S8.out.cellsM 3 rfl).c 1 _ rfl, (S8.out.cellsM 3 rfl).c 2 _ rfl, (S8.out.cellsM 3 rfl).c 3 _ rfl, (S8.out.cellsM 3 rfl).c 4 _ rfl⟩ (fun hHeld => ?_)
            clear hK K
            try simp only [Act.put, List.getElem_toArray, List.getElem_cons_succ, List.getElem_cons_zero, List.setIfInBounds_toArray, List.set_cons_zero, List.set_cons_succ]
            clear ol0
            refine wpAnyH_ready (rs := [3]) (by kernel_rfl) (by simp) ?_
            refine AllReadyH.cons rfl (fun K hK => ?_) AllReadyH.nil
            have SH8 : Seal (Pt w ((w5.alloc (.cells #[.int .i64 (s.last + 1), .string m.fu, .string m.fd, .slice ro m.rc.length rc, .slice q2 m.body.length d2] 43)).alloc (.cells #[] 43)).drew [[Res.row 43 5 (.slice (some ⟨w5.heap.size + 1, 0, none⟩) 0 0) (0) ([])], [Res.row 43 5 (.slice (some ⟨w5.heap.size, 0, none⟩) 1 1) (1) ([.int .i64 (s.last + 1), .string m.fu, .string m.fd, .slice ro m.rc.length rc, .slice q2 m.body.length d2])], [Res.cells (w.heap.size) [.int .i64 (s.last + 1), .slice ao s.items.length cap]], [Res.cells (k7) [.int .i64 (s.last + 1), .string m.fu, .string m.fd, .slice ro m.rc.length rc, .slice q2 m.body.length d2]], [Res.row 105 4 (.slice ro m.rc.length rc) (m.rc.length) (rcNew now m.rc)], [Res.row 9 1 (.slice q2 m.body.length d2) (m.body.length) (m.body.map Value.string)], [Res.cells (w.heap.size + 1 + 1) [.int .i64 0, .slice none 0 0]], [Res.cells (w.heap.size + 1) [.string m.fu, .string m.fd, .slice a1 m.rc.length c1, .slice a2 m.body.length c2]]]) := ⟨S8.out.bring 0 rfl⟩
            have OW8 : Seal _ := ⟨Pt.row1 SH8.out 0 rfl⟩
            have SR8 : Seal _ := ⟨((HS.out.later S8.out.below).get List.mem_cons_self)⟩
            refine step_append_first rfl _ _ 23 rfl 0 43 iItem (.agg #[.int .i64 0, .string ByteArray.empty, .string ByteArray.empty, .slice none 0 0, .slice none 0 0]) 5 88 Tryz.underlying23 hiItem hz0Item hz1Item hz2Item rfl (by decide) (.slice (some ⟨w5.heap.size + 1, 0, none⟩) 0 0) (by rfl) OW8.out (ao) (s.items.length) (cap) (itemE.all s.items ps) (by rfl) SR8.out (by first | exact items_all_one _ _ | (intro u hu; simp only [List.mem_cons, List.not_mem_nil, or_false] at hu; rcases hu with rfl | rfl | rfl | rfl | rfl <;> rfl)) (by unfold maxLen; omega) (by omega) (Nat.zero_le _) ?_
            intro v69 u70 hown hg hat
            have S9 : Seal (Pt w u70 [[Res.row 43 5 (v69) (s.items.length) (itemE.all s.items ps)], [Res.row 43 5 (.slice (some ⟨w5.heap.size, 0, none⟩) 1 1) (1) ([.int .i64 (s.last + 1), .string m.fu, .string m.fd, .slice ro m.rc.length rc, .slice q2 m.body.length d2])], [Res.cells (w.heap.size) [.int .i64 (s.last + 1), .slice ao s.items.length cap]], [Res.cells (k7) [.int .i64 (s.last + 1), .string m.fu, .string m.fd, .slice ro m.rc.length rc, .slice q2 m.body.length d2]], [Res.row 105 4 (.slice ro m.rc.length rc) (m.rc.length) (rcNew now m.rc)], [Res.row 9 1 (.slice q2 m.body.length d2) (m.body.length) (m.body.map Value.string)], [Res.cells (w.heap.size + 1 + 1) [.int .i64 0, .slice none 0 0]], [Res.cells (w.heap.size + 1) [.string m.fu, .string m.fd, .slice a1 m.rc.length c1, .slice a2 m.body.length c2]]]) := ⟨Pt.app SH8.out hown hg (by simpa using hat)⟩
            obtain ⟨bo71, c72, rfl, _⟩ := row_value (Pt.row1 S9.out 0 rfl)
            clear hown hg hat SH8 OW8 SR8
            refine hK.out _ _ ⟨(S9.out.cellsM 3 rfl).c 0 _ rfl, (S9.out.cellsM 3 rfl).c 1 _ rfl, (S9.out.cellsM 3 rfl).c 2 _ rfl, (S9.out.cellsM 3 rfl).c 3 _ rfl, (S9.out.cellsM 3 rfl).c 4 _ rfl⟩ (fun hHeld => ?_)
            clear hK K
            try simp only [Act.put, List.getElem_toArray, List.getElem_cons_succ, List.getElem_cons_zero, List.setIfInBounds_toArray, List.set_cons_zero, List.set_cons_succ]
            refine wpAnyH_ready (rs := [6]) (by kernel_rfl) (by simp) ?_
            refine AllReadyH.cons rfl (fun K hK => ?_) AllReadyH.nil
            have SH9 : Seal (Pt w u70 [[Res.row 43 5 (.slice bo71 (s.items.length) c72) (s.items.length) (itemE.all s.items ps)], [Res.row 43 5 (.slice (some ⟨w5.heap.size, 0, none⟩) 1 1) (1) ([.int .i64 (s.last + 1), .string m.fu, .string m.fd, .slice ro m.rc.length rc, .slice q2 m.body.length d2])], [Res.cells (w.heap.size) [.int .i64 (s.last + 1), .slice ao s.items.length cap]], [Res.cells (k7) [.int .i64 (s.last + 1), .string m.fu, .string m.fd, .slice ro m.rc.length rc, .slice q2 m.body.length d2]], [Res.row 105 4 (.slice ro m.rc.length rc) (m.rc.length) (rcNew now m.rc)], [Res.row 9 1 (.slice q2 m.body.length d2) (m.body.length) (m.body.map Value.string)], [Res.cells (w.heap.size + 1 + 1) [.int .i64 0, .slice none 0 0]], [Res.cells (w.heap.size + 1) [.string m.fu, .string m.fd, .slice a1 m.rc.length c1, .slice a2 m.body.length c2]]]) := ⟨S9.out.bring 0 rfl⟩
            have OW9 : Seal _ := ⟨Pt.row1 SH9.out 0 rfl⟩
            have SR9 : Seal _ := ⟨(Pt.row1 S9.out 1 rfl)⟩
            refine step_append_any rfl _ _ 23 rfl 0 43 iItem (.agg #[.int .i64 0, .string ByteArray.empty, .string ByteArray.empty, .slice none 0 0, .slice none 0 0]) 5 88 Tryz.underlying23 hiItem hz0Item hz1Item hz2Item rfl (by decide) (.slice bo71 (s.items.length) c72) (s.items.length) (itemE.all s.items ps) (by rfl) OW9.out ((some ⟨w5.heap.size, 0, none⟩)) (1) (1) ([.int .i64 (s.last + 1), .string m.fu, .string m.fd, .slice ro m.rc.length rc, .slice q2 m.body.length d2]) (by rfl) SR9.out (by first | exact items_all_one _ _ | (intro u hu; simp only [List.mem_cons, List.not_mem_nil, or_false] at hu; rcases hu with rfl | rfl | rfl | rfl | rfl <;> rfl)) (by unfold maxLen; omega) (by omega) (Nat.zero_le _) ?_
            intro v73 u74 hown hg hat
            have S10 : Seal (Pt w u74 [[Res.row 43 5 (v73) (s.items.length + 1) (itemE.all s.items ps ++ [.int .i64 (s.last + 1), .string m.fu, .string m.fd, .slice ro m.rc.length rc, .slice q2 m.body.length d2])], [Res.row 43 5 (.slice (some ⟨w5.heap.size, 0, none⟩) 1 1) (1) ([.int .i64 (s.last + 1), .string m.fu, .string m.fd, .slice ro m.rc.length rc, .slice q2 m.body.length d2])], [Res.cells (w.heap.size) [.int .i64 (s.last + 1), .slice ao s.items.length cap]], [Res.cells (k7) [.int .i64 (s.last + 1), .string m.fu, .string m.fd, .slice ro m.rc.length rc, .slice q2 m.body.length d2]], [Res.row 105 4 (.slice ro m.rc.length rc) (m.rc.length) (rcNew now m.rc)], [Res.row 9 1 (.slice q2 m.body.length d2) (m.body.length) (m.body.map Value.string)], [Res.cells (w.heap.size + 1 + 1) [.int .i64 0, .slice none 0 0]], [Res.cells (w.heap.size + 1) [.string m.fu, .string m.fd, .slice a1 m.rc.length c1, .slice a2 m.body.length c2]]]) := ⟨Pt.app SH9.out hown hg (by simpa using hat)⟩
            obtain ⟨bo75, c76, rfl, _⟩ := row_value (Pt.row1 S10.out 0 rfl)
            clear hown hg hat SH9 OW9 SR9
            refine hK.out _ _ ⟨(S10.out.cellsM 3 rfl).c 0 _ rfl, (S10.out.cellsM 3 rfl).c 1 _ rfl, (S10.out.cellsM 3 rfl).c 2 _ rfl, (S10.out.cellsM 3 rfl).c 3 _ rfl, (S10.out.cellsM 3 rfl).c 4 _ rfl⟩ (fun hHeld => ?_)
            clear hK K
            try simp only [Act.put, List.getElem_toArray, List.getElem_cons_succ, List.getElem_cons_zero, List.setIfInBounds_toArray, List.set_cons_zero, List.set_cons_succ]
            refine tkH 7 (by assumption) (h := ?_)
            refine wpAnyH_ready (rs := [8]) (by kernel_rfl) (by simp) ?_
            refine AllReadyH.cons rfl (fun K hK => ?_) AllReadyH.nil
            have S11 : Seal (Pt w u74 [[Res.cells (w.heap.size) [.int .i64 (s.last + 1), .slice ao s.items.length cap]], [Res.row 43 5 (.slice bo75 (s.items.length + 1) c76) (s.items.length + 1) (itemE.all s.items ps ++ [.int .i64 (s.last + 1), .string m.fu, .string m.fd, .slice ro m.rc.length rc, .slice q2 m.body.length d2])], [Res.row 43 5 (.slice (some ⟨w5.heap.size, 0, none⟩) 1 1) (1) ([.int .i64 (s.last + 1), .string m.fu, .string m.fd, .slice ro m.rc.length rc, .slice q2 m.body.length d2])], [Res.cells (k7) [.int .i64 (s.last + 1), .string m.fu, .string m.fd, .slice ro m.rc.length rc, .slice q2 m.body.length d2]], [Res.row 105 4 (.slice ro m.rc.length rc) (m.rc.length) (rcNew now m.rc)], [Res.row 9 1 (.slice q2 m.body.length d2) (m.body.length) (m.body.map Value.string)], [Res.cells (w.heap.size + 1 + 1) [.int .i64 0, .slice none 0 0]], [Res.cells (w.heap.size + 1) [.string m.fu, .string m.fd, .slice a1 m.rc.length c1, .slice a2 m.body.length c2]]]) := ⟨S10.out.bring 2 rfl⟩
            have oc0 := (S11.out.cellsM 0 rfl).c 1 _ rfl
            have of0 := (S11.out.cellsM 0 rfl).f 1 (by simp)
            have S12 : Seal (Pt w (u74.setCell ⟨w.heap.size, 1, none⟩ (.slice bo75 (s.items.length + 1) c76)) [[Res.cells (w.heap.size) [.int .i64 (s.last + 1), .slice bo75 (s.items.length + 1) c76]], [Res.row 43 5 (.slice bo75 (s.items.length + 1) c76) (s.items.length + 1) (itemE.all s.items ps ++ [.int .i64 (s.last + 1), .string m.fu, .string m.fd, .slice ro m.rc.length rc, .slice q2 m.body.length d2])], [Res.row 43 5 (.slice (some ⟨w5.heap.size, 0, none⟩) 1 1) (1) ([.int .i64 (s.last + 1), .string m.fu, .string m.fd, .slice ro m.rc.length rc, .slice q2 m.body.length d2])], [Res.cells (k7) [.int .i64 (s.last + 1), .string m.fu, .string m.fd, .slice ro m.rc.length rc, .slice q2 m.body.length d2]], [Res.row 105 4 (.slice ro m.rc.length rc) (m.rc.length) (rcNew now m.rc)], [Res.row 9 1 (.slice q2 m.body.length d2) (m.body.length) (m.body.map Value.string)], [Res.cells (w.heap.size + 1 + 1) [.int .i64 0, .slice none 0 0]], [Res.cells (w.heap.size + 1) [.string m.fu, .string m.fd, .slice a1 m.rc.length c1, .slice a2 m.body.length c2]]]) := ⟨(S11.out).set 1 (.slice bo75 (s.items.length + 1) c76) (by simp)⟩
            go_simp
            refine hK.out _ _ ⟨(S12.out.cellsM 3 rfl).c 0 _ rfl, (S12.out.cellsM 3 rfl).c 1 _ rfl, (S12.out.cellsM 3 rfl).c 2 _ rfl, (S12.out.cellsM 3 rfl).c 3 _ rfl, (S12.out.cellsM 3 rfl).c 4 _ rfl⟩ (fun hHeld => ?_)
            clear hK K
            try simp only [Act.put, List.getElem_toArray, List.getElem_cons_succ, List.getElem_cons_zero, List.setIfInBounds_toArray, List.set_cons_zero, List.set_cons_succ]
            clear oc0 of0
            refine wpAnyH_done (by kernel_rfl) ?_ _
            go_wp2_with fail
            go_meet
            exact ⟨bo75, c76, (Pt.prefix (As := [[Res.cells (w.heap.size) [.int .i64 (s.last + 1), .slice bo75 (s.items.length + 1) c76]], [Res.row 43 5 (.slice bo75 (s.items.length + 1) c76) (s.items.length + 1) (itemE.all s.items ps ++ [.int .i64 (s.last + 1), .string m.fu, .string m.fd, .slice ro m.rc.length rc, .slice q2 m.body.length d2])], [Res.cells (k7) [.int .i64 (s.last + 1), .string m.fu, .string m.fd, .slice ro m.rc.length rc, .slice q2 m.body.length d2]], [Res.row 105 4 (.slice ro m.rc.length rc) (m.rc.length) (rcNew now m.rc)], [Res.row 9 1 (.slice q2 m.body.length d2) (m.body.length) (m.body.map Value.string)], [Res.cells (w.heap.size + 1) [.string m.fu, .string m.fd, .slice a1 m.rc.length c1, .slice a2 m.body.length c2]], [Res.cells (w.heap.size + 1 + 1) [.int .i64 0, .slice none 0 0]]]) (Bs := [[Res.row 43 5 (.slice (some ⟨w5.heap.size, 0, none⟩) 1 1) (1) ([.int .i64 (s.last + 1), .string m.fu, .string m.fd, .slice ro m.rc.length rc, .slice q2 m.body.length d2])]]) (Pt.bring ((Pt.bring ((Pt.bring ((Pt.bring ((Pt.bring ((Pt.bring ((Pt.bring (S12.out) 6 rfl)) 7 rfl)) 7 rfl)) 7 rfl)) 7 rfl)) 6 rfl)) 6 rfl))⟩
          · have ol0 := (S7.out.cellsM 1 rfl).c 1 _ rfl
            go_simp
            refine hK.out _ _ ⟨(S7.out.cellsM 2 rfl).c 0 _ rfl, (S7.out.cellsM 2 rfl).c 1 _ rfl, (S7.out.cellsM 2 rfl).c 2 _ rfl, (S7.out.cellsM 2 rfl).c 3 _ rfl, (S7.out.cellsM 2 rfl).c 4 _ rfl⟩ (fun hHeld => ?_)
            clear hK K
            try simp only [Act.put, List.getElem_toArray, List.getElem_cons_succ, List.getElem_cons_zero, List.setIfInBounds_toArray, List.set_cons_zero, List.set_cons_succ]
            clear ol0
            refine wpAnyH_ready (rs := [0]) (by kernel_rfl) (by simp) ?_
            refine AllReadyH.cons rfl (fun K hK => ?_) AllReadyH.nil
            have S8 : Seal (Pt w ((w5.alloc (.cells #[.int .i64 (s.last + 1), .string m.fu, .string m.fd, .slice ro m.rc.length rc, .slice q2 m.body.length d2] 43)).alloc (.cells #[] 43)).drew [[Res.row 43 5 (.slice (some ⟨w5.heap.size + 1, 0, none⟩) 0 0) (0) ([])], [Res.row 43 5 (.slice (some ⟨w5.heap.size, 0, none⟩) 1 1) (1) ([.int .i64 (s.last + 1), .string m.fu, .string m.fd, .slice ro m.rc.length rc, .slice q2 m.body.length d2])], [Res.cells (w.heap.size) [.int .i64 (s.last + 1), .slice ao s.items.length cap]], [Res.cells (k7) [.int .i64 (s.last + 1), .string m.fu, .string m.fd, .slice ro m.rc.length rc, .slice q2 m.body.length d2]], [Res.row 105 4 (.slice ro m.rc.length rc) (m.rc.length) (rcNew now m.rc)], [Res.row 9 1 (.slice q2 m.body.length d2) (m.body.length) (m.body.map Value.string)], [Res.cells (w.heap.size + 1 + 1) [.int .i64 0, .slice none 0 0]], [Res.cells (w.heap.size + 1) [.string m.fu, .string m.fd, .slice a1 m.rc.length c1, .slice a2 m.body.length c2]]]) := ⟨by have h := Pt.built S7.out #[] 43 5 0 (by decide) rfl; simp only [World.size_alloc, World.size_drew'] at h; exact h⟩
            go_simp
            refine hK.out _ _ ⟨(S8.out.cellsM 3 rfl).c 0 _ rfl, (S8.out.cellsM 3 rfl).c 1 _ rfl, (S8.out.cellsM 3 rfl).c 2 _ rfl, (S8.out.cellsM 3 rfl).c 3 _ rfl, (S8.out.cellsM 3 rfl).c 4 _ rfl⟩ (fun hHeld => ?_)
            clear hK K
            try simp only [Act.put, List.getElem_toArray, List.getElem_cons_succ, List.getElem_cons_zero, List.setIfInBounds_toArray, List.set_cons_zero, List.set_cons_succ]
            refine wpAnyH_ready (rs := [3]) (by kernel_rfl) (by simp) ?_
            refine AllReadyH.cons rfl (fun K hK => ?_) AllReadyH.nil
            have SH8 : Seal (Pt w ((w5.alloc (.cells #[.int .i64 (s.last + 1), .string m.fu, .string m.fd, .slice ro m.rc.length rc, .slice q2 m.body.length d2] 43)).alloc (.cells #[] 43)).drew [[Res.row 43 5 (.slice (some ⟨w5.heap.size + 1, 0, none⟩) 0 0) (0) ([])], [Res.row 43 5 (.slice (some ⟨w5.heap.size, 0, none⟩) 1 1) (1) ([.int .i64 (s.last + 1), .string m.fu, .string m.fd, .slice ro m.rc.length rc, .slice q2 m.body.length d2])], [Res.cells (w.heap.size) [.int .i64 (s.last + 1), .slice ao s.items.length cap]], [Res.cells (k7) [.int .i64 (s.last + 1), .string m.fu, .string m.fd, .slice ro m.rc.length rc, .slice q2 m.body.length d2]], [Res.row 105 4 (.slice ro m.rc.length rc) (m.rc.length) (rcNew now m.rc)], [Res.row 9 1 (.slice q2 m.body.length d2) (m.body.length) (m.body.map Value.string)], [Res.cells (w.heap.size + 1 + 1) [.int .i64 0, .slice none 0 0]], [Res.cells (w.heap.size + 1) [.string m.fu, .string m.fd, .slice a1 m.rc.length c1, .slice a2 m.body.length c2]]]) := ⟨S8.out.bring 0 rfl⟩
            have OW8 : Seal _ := ⟨Pt.row1 SH8.out 0 rfl⟩
            have SR8 : Seal _ := ⟨((HS.out.later S8.out.below).get List.mem_cons_self)⟩
            refine step_append_first rfl _ _ 23 rfl 0 43 iItem (.agg #[.int .i64 0, .string ByteArray.empty, .string ByteArray.empty, .slice none 0 0, .slice none 0 0]) 5 88 Tryz.underlying23 hiItem hz0Item hz1Item hz2Item rfl (by decide) (.slice (some ⟨w5.heap.size + 1, 0, none⟩) 0 0) (by rfl) OW8.out (ao) (s.items.length) (cap) (itemE.all s.items ps) (by rfl) SR8.out (by first | exact items_all_one _ _ | (intro u hu; simp only [List.mem_cons, List.not_mem_nil, or_false] at hu; rcases hu with rfl | rfl | rfl | rfl | rfl <;> rfl)) (by unfold maxLen; omega) (by omega) (Nat.zero_le _) ?_
            intro v77 u78 hown hg hat
            have S9 : Seal (Pt w u78 [[Res.row 43 5 (v77) (s.items.length) (itemE.all s.items ps)], [Res.row 43 5 (.slice (some ⟨w5.heap.size, 0, none⟩) 1 1) (1) ([.int .i64 (s.last + 1), .string m.fu, .string m.fd, .slice ro m.rc.length rc, .slice q2 m.body.length d2])], [Res.cells (w.heap.size) [.int .i64 (s.last + 1), .slice ao s.items.length cap]], [Res.cells (k7) [.int .i64 (s.last + 1), .string m.fu, .string m.fd, .slice ro m.rc.length rc, .slice q2 m.body.length d2]], [Res.row 105 4 (.slice ro m.rc.length rc) (m.rc.length) (rcNew now m.rc)], [Res.row 9 1 (.slice q2 m.body.length d2) (m.body.length) (m.body.map Value.string)], [Res.cells (w.heap.size + 1 + 1) [.int .i64 0, .slice none 0 0]], [Res.cells (w.heap.size + 1) [.string m.fu, .string m.fd, .slice a1 m.rc.length c1, .slice a2 m.body.length c2]]]) := ⟨Pt.app SH8.out hown hg (by simpa using hat)⟩
            obtain ⟨bo79, c80, rfl, _⟩ := row_value (Pt.row1 S9.out 0 rfl)
            clear hown hg hat SH8 OW8 SR8
            refine hK.out _ _ ⟨(S9.out.cellsM 3 rfl).c 0 _ rfl, (S9.out.cellsM 3 rfl).c 1 _ rfl, (S9.out.cellsM 3 rfl).c 2 _ rfl, (S9.out.cellsM 3 rfl).c 3 _ rfl, (S9.out.cellsM 3 rfl).c 4 _ rfl⟩ (fun hHeld => ?_)
            clear hK K
            try simp only [Act.put, List.getElem_toArray, List.getElem_cons_succ, List.getElem_cons_zero, List.setIfInBounds_toArray, List.set_cons_zero, List.set_cons_succ]
            refine wpAnyH_ready (rs := [6]) (by kernel_rfl) (by simp) ?_
            refine AllReadyH.cons rfl (fun K hK => ?_) AllReadyH.nil
            have SH9 : Seal (Pt w u78 [[Res.row 43 5 (.slice bo79 (s.items.length) c80) (s.items.length) (itemE.all s.items ps)], [Res.row 43 5 (.slice (some ⟨w5.heap.size, 0, none⟩) 1 1) (1) ([.int .i64 (s.last + 1), .string m.fu, .string m.fd, .slice ro m.rc.length rc, .slice q2 m.body.length d2])], [Res.cells (w.heap.size) [.int .i64 (s.last + 1), .slice ao s.items.length cap]], [Res.cells (k7) [.int .i64 (s.last + 1), .string m.fu, .string m.fd, .slice ro m.rc.length rc, .slice q2 m.body.length d2]], [Res.row 105 4 (.slice ro m.rc.length rc) (m.rc.length) (rcNew now m.rc)], [Res.row 9 1 (.slice q2 m.body.length d2) (m.body.length) (m.body.map Value.string)], [Res.cells (w.heap.size + 1 + 1) [.int .i64 0, .slice none 0 0]], [Res.cells (w.heap.size + 1) [.string m.fu, .string m.fd, .slice a1 m.rc.length c1, .slice a2 m.body.length c2]]]) := ⟨S9.out.bring 0 rfl⟩
            have OW9 : Seal _ := ⟨Pt.row1 SH9.out 0 rfl⟩
            have SR9 : Seal _ := ⟨(Pt.row1 S9.out 1 rfl)⟩
            refine step_append_any rfl _ _ 23 rfl 0 43 iItem (.agg #[.int .i64 0, .string ByteArray.empty, .string ByteArray.empty, .slice none 0 0, .slice none 0 0]) 5 88 Tryz.underlying23 hiItem hz0Item hz1Item hz2Item rfl (by decide) (.slice bo79 (s.items.length) c80) (s.items.length) (itemE.all s.items ps) (by rfl) OW9.out ((some ⟨w5.heap.size, 0, none⟩)) (1) (1) ([.int .i64 (s.last + 1), .string m.fu, .string m.fd, .slice ro m.rc.length rc, .slice q2 m.body.length d2]) (by rfl) SR9.out (by first | exact items_all_one _ _ | (intro u hu; simp only [List.mem_cons, List.not_mem_nil, or_false] at hu; rcases hu with rfl | rfl | rfl | rfl | rfl <;> rfl)) (by unfold maxLen; omega) (by omega) (Nat.zero_le _) ?_
            intro v81 u82 hown hg hat
            have S10 : Seal (Pt w u82 [[Res.row 43 5 (v81) (s.items.length + 1) (itemE.all s.items ps ++ [.int .i64 (s.last + 1), .string m.fu, .string m.fd, .slice ro m.rc.length rc, .slice q2 m.body.length d2])], [Res.row 43 5 (.slice (some ⟨w5.heap.size, 0, none⟩) 1 1) (1) ([.int .i64 (s.last + 1), .string m.fu, .string m.fd, .slice ro m.rc.length rc, .slice q2 m.body.length d2])], [Res.cells (w.heap.size) [.int .i64 (s.last + 1), .slice ao s.items.length cap]], [Res.cells (k7) [.int .i64 (s.last + 1), .string m.fu, .string m.fd, .slice ro m.rc.length rc, .slice q2 m.body.length d2]], [Res.row 105 4 (.slice ro m.rc.length rc) (m.rc.length) (rcNew now m.rc)], [Res.row 9 1 (.slice q2 m.body.length d2) (m.body.length) (m.body.map Value.string)], [Res.cells (w.heap.size + 1 + 1) [.int .i64 0, .slice none 0 0]], [Res.cells (w.heap.size + 1) [.string m.fu, .string m.fd, .slice a1 m.rc.length c1, .slice a2 m.body.length c2]]]) := ⟨Pt.app SH9.out hown hg (by simpa using hat)⟩
            obtain ⟨bo83, c84, rfl, _⟩ := row_value (Pt.row1 S10.out 0 rfl)
            clear hown hg hat SH9 OW9 SR9
            refine hK.out _ _ ⟨(S10.out.cellsM 3 rfl).c 0 _ rfl, (S10.out.cellsM 3 rfl).c 1 _ rfl, (S10.out.cellsM 3 rfl).c 2 _ rfl, (S10.out.cellsM 3 rfl).c 3 _ rfl, (S10.out.cellsM 3 rfl).c 4 _ rfl⟩ (fun hHeld => ?_)
            clear hK K
            try simp only [Act.put, List.getElem_toArray, List.getElem_cons_succ, List.getElem_cons_zero, List.setIfInBounds_toArray, List.set_cons_zero, List.set_cons_succ]
            refine tkH 7 (by assumption) (h := ?_)
            refine wpAnyH_ready (rs := [8]) (by kernel_rfl) (by simp) ?_
            refine AllReadyH.cons rfl (fun K hK => ?_) AllReadyH.nil
            have S11 : Seal (Pt w u82 [[Res.cells (w.heap.size) [.int .i64 (s.last + 1), .slice ao s.items.length cap]], [Res.row 43 5 (.slice bo83 (s.items.length + 1) c84) (s.items.length + 1) (itemE.all s.items ps ++ [.int .i64 (s.last + 1), .string m.fu, .string m.fd, .slice ro m.rc.length rc, .slice q2 m.body.length d2])], [Res.row 43 5 (.slice (some ⟨w5.heap.size, 0, none⟩) 1 1) (1) ([.int .i64 (s.last + 1), .string m.fu, .string m.fd, .slice ro m.rc.length rc, .slice q2 m.body.length d2])], [Res.cells (k7) [.int .i64 (s.last + 1), .string m.fu, .string m.fd, .slice ro m.rc.length rc, .slice q2 m.body.length d2]], [Res.row 105 4 (.slice ro m.rc.length rc) (m.rc.length) (rcNew now m.rc)], [Res.row 9 1 (.slice q2 m.body.length d2) (m.body.length) (m.body.map Value.string)], [Res.cells (w.heap.size + 1 + 1) [.int .i64 0, .slice none 0 0]], [Res.cells (w.heap.size + 1) [.string m.fu, .string m.fd, .slice a1 m.rc.length c1, .slice a2 m.body.length c2]]]) := ⟨S10.out.bring 2 rfl⟩
            have oc0 := (S11.out.cellsM 0 rfl).c 1 _ rfl
            have of0 := (S11.out.cellsM 0 rfl).f 1 (by simp)
            have S12 : Seal (Pt w (u82.setCell ⟨w.heap.size, 1, none⟩ (.slice bo83 (s.items.length + 1) c84)) [[Res.cells (w.heap.size) [.int .i64 (s.last + 1), .slice bo83 (s.items.length + 1) c84]], [Res.row 43 5 (.slice bo83 (s.items.length + 1) c84) (s.items.length + 1) (itemE.all s.items ps ++ [.int .i64 (s.last + 1), .string m.fu, .string m.fd, .slice ro m.rc.length rc, .slice q2 m.body.length d2])], [Res.row 43 5 (.slice (some ⟨w5.heap.size, 0, none⟩) 1 1) (1) ([.int .i64 (s.last + 1), .string m.fu, .string m.fd, .slice ro m.rc.length rc, .slice q2 m.body.length d2])], [Res.cells (k7) [.int .i64 (s.last + 1), .string m.fu, .string m.fd, .slice ro m.rc.length rc, .slice q2 m.body.length d2]], [Res.row 105 4 (.slice ro m.rc.length rc) (m.rc.length) (rcNew now m.rc)], [Res.row 9 1 (.slice q2 m.body.length d2) (m.body.length) (m.body.map Value.string)], [Res.cells (w.heap.size + 1 + 1) [.int .i64 0, .slice none 0 0]], [Res.cells (w.heap.size + 1) [.string m.fu, .string m.fd, .slice a1 m.rc.length c1, .slice a2 m.body.length c2]]]) := ⟨(S11.out).set 1 (.slice bo83 (s.items.length + 1) c84) (by simp)⟩
            go_simp
            refine hK.out _ _ ⟨(S12.out.cellsM 3 rfl).c 0 _ rfl, (S12.out.cellsM 3 rfl).c 1 _ rfl, (S12.out.cellsM 3 rfl).c 2 _ rfl, (S12.out.cellsM 3 rfl).c 3 _ rfl, (S12.out.cellsM 3 rfl).c 4 _ rfl⟩ (fun hHeld => ?_)
            clear hK K
            try simp only [Act.put, List.getElem_toArray, List.getElem_cons_succ, List.getElem_cons_zero, List.setIfInBounds_toArray, List.set_cons_zero, List.set_cons_succ]
            clear oc0 of0
            refine wpAnyH_done (by kernel_rfl) ?_ _
            go_wp2_with fail
            go_meet
            exact ⟨bo83, c84, (Pt.prefix (As := [[Res.cells (w.heap.size) [.int .i64 (s.last + 1), .slice bo83 (s.items.length + 1) c84]], [Res.row 43 5 (.slice bo83 (s.items.length + 1) c84) (s.items.length + 1) (itemE.all s.items ps ++ [.int .i64 (s.last + 1), .string m.fu, .string m.fd, .slice ro m.rc.length rc, .slice q2 m.body.length d2])], [Res.cells (k7) [.int .i64 (s.last + 1), .string m.fu, .string m.fd, .slice ro m.rc.length rc, .slice q2 m.body.length d2]], [Res.row 105 4 (.slice ro m.rc.length rc) (m.rc.length) (rcNew now m.rc)], [Res.row 9 1 (.slice q2 m.body.length d2) (m.body.length) (m.body.map Value.string)], [Res.cells (w.heap.size + 1) [.string m.fu, .string m.fd, .slice a1 m.rc.length c1, .slice a2 m.body.length c2]], [Res.cells (w.heap.size + 1 + 1) [.int .i64 0, .slice none 0 0]]]) (Bs := [[Res.row 43 5 (.slice (some ⟨w5.heap.size, 0, none⟩) 1 1) (1) ([.int .i64 (s.last + 1), .string m.fu, .string m.fd, .slice ro m.rc.length rc, .slice q2 m.body.length d2])]]) (Pt.bring ((Pt.bring ((Pt.bring ((Pt.bring ((Pt.bring ((Pt.bring ((Pt.bring (S12.out) 6 rfl)) 7 rfl)) 7 rfl)) 7 rfl)) 7 rfl)) 6 rfl)) 6 rfl))⟩
      case rest =>
      obtain ⟨bo, c, hS⟩ := hcut
      have S9 : Seal (Pt w wc [[Res.cells w.heap.size [.int .i64 (s.last + 1), .slice bo (s.items.length + 1) c]], [Res.row 43 5 (.slice bo (s.items.length + 1) c) (s.items.length + 1) (itemE.all s.items ps ++ [.int .i64 (s.last + 1), .string m.fu, .string m.fd, .slice ro m.rc.length rc, .slice q2 m.body.length d2])], [Res.cells (k7) [.int .i64 (s.last + 1), .string m.fu, .string m.fd, .slice ro m.rc.length rc, .slice q2 m.body.length d2]], [Res.row 105 4 (.slice ro m.rc.length rc) (m.rc.length) (rcNew now m.rc)], [Res.row 9 1 (.slice q2 m.body.length d2) (m.body.length) (m.body.map Value.string)], [Res.cells (w.heap.size + 1) [.string m.fu, .string m.fd, .slice a1 m.rc.length c1, .slice a2 m.body.length c2]], [Res.cells (w.heap.size + 1 + 1) [.int .i64 0, .slice none 0 0]]]) := ⟨hS⟩
      clear hS
      generalize wc = w6 at *
      have u0 := (S9.out.cellsM 0 rfl).c 0 _ rfl
      have u1 := (S9.out.cellsM 0 rfl).c 1 _ rfl
      have r0 := (S9.out.cellsM 6 rfl).c 0 _ rfl
      have r1 := (S9.out.cellsM 6 rfl).c 1 _ rfl
      have h0' := (S9.out.cellsM 6 rfl).f 0 (by simp)
      have h1' := (S9.out.cellsM 6 rfl).f 1 (by simp)
      go_wp2
      have e9 : (addD s m now).items.length = s.items.length + 1 := by simp [addD]
      refine bodyPost_ret (v := .agg #[.int .i64 (s.last + 1), .slice bo (s.items.length + 1) c]) (by simp [results, Tryz.results68, go_sem, r0, r1]) rfl ⟨bo, c, ⟨ro, rc, q2, d2⟩, by show _ = Ending.returned (.agg #[.int .i64 (s.last + 1), .slice bo (addD s m now).items.length c]); rw [e9], ?_⟩
      have s4 := ((S9.out.bring 6 rfl).set 0 (.int .i64 (s.last + 1)) (by simp)).set 1 (.slice bo (s.items.length + 1) c) (by simp)
      have s5 := ((s4.tail.bring 4 rfl).bring 4 rfl).bring 3 rfl
      have k5 : St w _ [Res.row 43 5 (.slice bo (s.items.length + 1) c) (s.items.length + 1) (itemE.all s.items ps ++ [.int .i64 (s.last + 1), .string m.fu, .string m.fd, .slice ro m.rc.length rc, .slice q2 m.body.length d2]), Res.row 105 4 (.slice ro m.rc.length rc) m.rc.length (rcNew now m.rc), Res.row 9 1 (.slice q2 m.body.length d2) m.body.length (m.body.map Value.string)] := Pt.prefix (As := [[Res.row 43 5 (.slice bo (s.items.length + 1) c) (s.items.length + 1) (itemE.all s.items ps ++ [.int .i64 (s.last + 1), .string m.fu, .string m.fd, .slice ro m.rc.length rc, .slice q2 m.body.length d2])], [Res.row 105 4 (.slice ro m.rc.length rc) m.rc.length (rcNew now m.rc)], [Res.row 9 1 (.slice q2 m.body.length d2) m.body.length (m.body.map Value.string)]]) (Bs := [[Res.cells (w.heap.size) [.int .i64 (s.last + 1), .slice bo (s.items.length + 1) c]], [Res.cells (k7) [.int .i64 (s.last + 1), .string m.fu, .string m.fd, .slice ro m.rc.length rc, .slice q2 m.body.length d2]], [Res.cells (w.heap.size + 1) [.string m.fu, .string m.fd, .slice a1 m.rc.length c1, .slice a2 m.body.length c2]]]) s5
      have k6 := StX.join (StX.tail HS.out) k5
      have hc : itemE.cells (newItemD (s.last + 1) m now) ⟨ro, rc, q2, d2⟩ = [.int .i64 (s.last + 1), .string m.fu, .string m.fd, .slice ro m.rc.length rc, .slice q2 m.body.length d2] := by
        show [Value.int .i64 (s.last + 1), .string m.fu, .string m.fd, .slice ro (m.rc.map (newRcpt now)).length rc, .slice q2 m.body.length d2] = _
        rw [List.length_map]
      have hr : itemE.res (newItemD (s.last + 1) m now) ⟨ro, rc, q2, d2⟩ = [Res.row 105 4 (.slice ro m.rc.length rc) m.rc.length (rcNew now m.rc), Res.row 9 1 (.slice q2 m.body.length d2) m.body.length (m.body.map Value.string)] := by
        show [Res.row 105 4 (.slice ro (m.rc.map (newRcpt now)).length rc) (m.rc.map (newRcpt now)).length (rcNew now m.rc), Res.row 9 1 (.slice q2 m.body.length d2) m.body.length (m.body.map Value.string)] = _
        rw [List.length_map]
      have e1 : itemsR bo c (addD s m now).items (ps ++ [⟨ro, rc, q2, d2⟩]) = Res.row 43 5 (.slice bo (s.items.length + 1) c) (s.items.length + 1) (itemE.all s.items ps ++ [.int .i64 (s.last + 1), .string m.fu, .string m.fd, .slice ro m.rc.length rc, .slice q2 m.body.length d2]) :: (itemE.ress s.items ps ++ [Res.row 105 4 (.slice ro m.rc.length rc) m.rc.length (rcNew now m.rc), Res.row 9 1 (.slice q2 m.body.length d2) m.body.length (m.body.map Value.string)]) := by
        unfold addD itemsR Elem.row
        dsimp only
        rw [itemE.all_snoc HL.out, itemE.ress_snoc HL.out, hc, hr, List.length_append, List.length_singleton]
        rfl
      rw [e1]
      refine k6.perm (List.Perm.cons _ ?_)
      show ([Res.row 105 4 (.slice ro m.rc.length rc) m.rc.length (rcNew now m.rc), Res.row 9 1 (.slice q2 m.body.length d2) m.body.length (m.body.map Value.string)] ++ (itemE.ress s.items ps ++ l)).Perm ((itemE.ress s.items ps ++ [Res.row 105 4 (.slice ro m.rc.length rc) m.rc.length (rcNew now m.rc), Res.row 9 1 (.slice q2 m.body.length d2) m.body.length (m.body.map Value.string)]) ++ l)
      rw [← List.append_assoc]
      exact List.perm_append_comm.append_right l
end Go.Proofs.YtcaknjdolfheaaaGreatDoor
namespace Go.Proofs.YtcaknjdolfheaaaGreatDoor
open Go Go.RowKit

theorem ret_sb {v : Array Value} {D : SpoolD} {p : SpoolP} {q : Bool} {e : SpoolD × Bool} (h : e = (D, q)) (hv : v = spoolKV D p) : Ending.returned (.tuple #[.agg v, .bool q]) = .returned (.tuple #[.agg (spoolKV e.1 p), .bool e.2]) := by rw [h, hv]
theorem Pt.only {w0 w : World} {R : List Res} (h : Pt w0 w [R]) : St w0 w R := by
  have h' : St w0 w (R ++ []) := h
  rwa [List.append_nil] at h'
theorem noSpool_parts (w : World) : St w w (spoolKR noSpoolD ⟨none, 0, []⟩) := (St.start w).nothing 43 5

set_option maxHeartbeats 6400000 in
set_option maxRecDepth 100000 in
theorem specSpoolAdd_K (s : SpoolD) (m : MailD) (now : Int) (hz : spoolKZ s) (hmz : mailKZ m) (w0 w : World) (Ls : List (List Res)) (ps : SpoolP) (pm : MailP) (i j : Nat) (h : Pt w0 w Ls) (hi : Ls[i]? = some (spoolKR s ps)) (hj : Ls[j]? = some (mailKR m pm)) (hfs : spoolKF s ps) (_ : mailKF m pm) :
    Calls Tryz.prog 17 #[.agg (spoolKV s ps), .agg (mailKV m pm), .int .i64 now] w fun e w' => ∃ r, e = .returned (.tuple #[.agg (spoolKV (addR s m now).1 r), .bool (addR s m now).2]) ∧ spoolKF (addR s m now).1 r ∧ St w w' (spoolKR (addR s m now).1 r) := by
  have HS : Seal _ := ⟨h.bring i hi⟩
  have HM : Seal (MailOwn w 0 m pm.a1 pm.c1 pm.a2 pm.c2) := ⟨h.nth j hj _ (List.mem_singleton.2 rfl)⟩
  have HA : Seal (ItemRow w ps.a s.items) := ⟨spoolK_read hfs (h.nth i hi)⟩
  have HF : Seal _ := ⟨hfs⟩
  have HZ : Seal _ := ⟨hz⟩
  have HMZ : Seal _ := ⟨hmz⟩
  clear h hi hj hfs hz hmz
  have S0 : Seal (Pt w (((w.alloc (.cells (spoolKV s ps) 25)).alloc (.cells (mailKV m pm) 31)).alloc (.cells #[.int .i64 0, .slice none 0 0] 25)) [[Res.cells (w.heap.size + 1 + 1) [.int .i64 0, .slice none 0 0]], [Res.cells (w.heap.size + 1) (mailKL m pm)], [Res.cells w.heap.size (spoolKL s ps)]]) := ⟨by
    have h := (((Pt.start w).alloc (spoolKV s ps) 25).alloc (mailKV m pm) 31).alloc #[.int .i64 0, .slice none 0 0] 25
    simp only [World.size_alloc] at h
    exact h⟩
  go_enter Tryz.func17, Tryz.ntmps17
  go_wp2_with fail
  refine (l5Ok_any s ps.a ps.c _ (HA.out.below itemP_stays S0.out.below (Nat.le_refl _)) HZ.out).mono ?_
  rintro e w1 ⟨rfl, hb⟩
  have S1 : Seal _ := ⟨S0.out.later hb⟩
  clear hb S0
  cases hok : spoolB s
  · have HE : Seal _ := ⟨addR_bad (m := m) (now := now) hok⟩
    have r0 := (S1.out.cellsM 0 rfl).c 0 _ rfl
    have r1 := (S1.out.cellsM 0 rfl).c 1 _ rfl
    have f0 := (S1.out.cellsM 0 rfl).f 0 (by simp)
    have f1 := (S1.out.cellsM 0 rfl).f 1 (by simp)
    clear hok
    go_wp2
    refine bodyPost_ret (v := .tuple #[.agg #[.int .i64 0, .slice none 0 0], .bool false]) (by simp [results, Tryz.results17, go_sem, r0, r1]) rfl ⟨⟨none, 0, []⟩, ret_sb HE.out rfl, by rw [HE.out]; rfl, ?_⟩
    rw [HE.out]
    have s4 := ((S1.out.set 0 (.int .i64 0) (by simp)).set 1 (.slice none 0 0) (by simp)).nothing 43 5
    exact Pt.prefix (As := [[Res.row 43 5 (.slice none 0 0) 0 []]]) s4
  have HO : Seal _ := ⟨hok⟩
  obtain ⟨sm1, sm2, sm3, sm4⟩ := spool_small hok
  clear hok
  have g0 := (S1.out.cellsM 2 rfl).c 0 _ rfl
  have g1 := (S1.out.cellsM 2 rfl).c 1 _ rfl
  go_wp2_with fail
  refine (l5Copy_any _ s ps.a ps.c ps.ps HF.out w0 _ (StX.later HS.out S1.out.below) HZ.out).mono ?_
  rintro e w2 ⟨bo, c, qs, rfl, hqs, hk⟩
  have HQ : Seal _ := ⟨hqs⟩
  have S2 : Seal (Pt w (w2.alloc (.cells #[.int .i64 s.last, .slice bo s.items.length c] 25)) [[Res.cells w2.heap.size [.int .i64 s.last, .slice bo s.items.length c]], itemsR bo c s.items qs, [Res.cells (w.heap.size + 1 + 1) [.int .i64 0, .slice none 0 0]], [Res.cells (w.heap.size + 1) (mailKL m pm)], [Res.cells w.heap.size (spoolKL s ps)]]) := ⟨(Pt.join S1.out hk).alloc #[.int .i64 s.last, .slice bo s.items.length c] 25⟩
  clear hk hqs S1 g0 g1
  have g0 := (S2.out.cellsM 3 rfl).c 0 _ rfl
  have g1 := (S2.out.cellsM 3 rfl).c 1 _ rfl
  have g2 := (S2.out.cellsM 3 rfl).c 2 _ rfl
  have g3 := (S2.out.cellsM 3 rfl).c 3 _ rfl
  have gl := (S2.out.cellsM 3 rfl).lt
  go_wp2_with fail
  refine (l2Ok_any m pm.a1 pm.c1 pm.a2 pm.c2 _ ((HM.out.later S2.out.below).at) HMZ.out).mono ?_
  rintro e w3 ⟨rfl, hb⟩
  have S3 : Seal _ := ⟨S2.out.later hb⟩
  clear hb S2 g0 g1 g2 g3 gl
  cases hmb : mailB m
  · have hno : Seal (mayAdd s m now = false) := ⟨by unfold mayAdd; rw [hmb]; rfl⟩
    clear hmb
    have HE : Seal _ := ⟨addR_no HO.out hno.out⟩
    have g0 := (S3.out.cellsM 0 rfl).c 0 _ rfl
    have g1 := (S3.out.cellsM 0 rfl).c 1 _ rfl
    have gl := (S3.out.cellsM 0 rfl).lt
    have r0 := (S3.out.cellsM 2 rfl).c 0 _ rfl
    have r1 := (S3.out.cellsM 2 rfl).c 1 _ rfl
    have f0 := (S3.out.cellsM 2 rfl).f 0 (by simp)
    have f1 := (S3.out.cellsM 2 rfl).f 1 (by simp)
    go_wp2
    refine bodyPost_ret (v := .tuple #[.agg #[.int .i64 s.last, .slice bo s.items.length c], .bool false]) (by simp [results, Tryz.results17, go_sem, r0, r1]) rfl ⟨⟨bo, c, qs⟩, ret_sb HE.out rfl, by rw [HE.out]; exact HQ.out, ?_⟩
    rw [HE.out]
    have s4 := ((S3.out.bring 2 rfl).set 0 (.int .i64 s.last) (by simp)).set 1 (.slice bo s.items.length c) (by simp)
    have s5 := s4.bring 2 rfl
    exact Pt.only (Pt.prefix (As := [itemsR bo c s.items qs]) (Bs := [[Res.cells (w.heap.size + 1 + 1) [.int .i64 s.last, .slice bo s.items.length c]], [Res.cells w2.heap.size [.int .i64 s.last, .slice bo s.items.length c]], [Res.cells (w.heap.size + 1) (mailKL m pm)], [Res.cells w.heap.size (spoolKL s ps)]]) s5)
  have HMB : Seal _ := ⟨hmb⟩
  clear hmb
  go_wp2_with fail
  refine (l1In_any now 0 9999 _).mono ?_
  rintro e w4 ⟨rfl, rfl⟩
  cases ht : inB now 0 9999
  · have hno : Seal (mayAdd s m now = false) := ⟨by unfold mayAdd timeB; rw [HMB.out, ht]; rfl⟩
    clear ht
    have HE : Seal _ := ⟨addR_no HO.out hno.out⟩
    have g0 := (S3.out.cellsM 0 rfl).c 0 _ rfl
    have g1 := (S3.out.cellsM 0 rfl).c 1 _ rfl
    have gl := (S3.out.cellsM 0 rfl).lt
    have r0 := (S3.out.cellsM 2 rfl).c 0 _ rfl
    have r1 := (S3.out.cellsM 2 rfl).c 1 _ rfl
    have f0 := (S3.out.cellsM 2 rfl).f 0 (by simp)
    have f1 := (S3.out.cellsM 2 rfl).f 1 (by simp)
    go_wp2
    refine bodyPost_ret (v := .tuple #[.agg #[.int .i64 s.last, .slice bo s.items.length c], .bool false]) (by simp [results, Tryz.results17, go_sem, r0, r1]) rfl ⟨⟨bo, c, qs⟩, ret_sb HE.out rfl, by rw [HE.out]; exact HQ.out, ?_⟩
    rw [HE.out]
    have s4 := ((S3.out.bring 2 rfl).set 0 (.int .i64 s.last) (by simp)).set 1 (.slice bo s.items.length c) (by simp)
    have s5 := s4.bring 2 rfl
    exact Pt.only (Pt.prefix (As := [itemsR bo c s.items qs]) (Bs := [[Res.cells (w.heap.size + 1 + 1) [.int .i64 s.last, .slice bo s.items.length c]], [Res.cells w2.heap.size [.int .i64 s.last, .slice bo s.items.length c]], [Res.cells (w.heap.size + 1) (mailKL m pm)], [Res.cells w.heap.size (spoolKL s ps)]]) s5)
  have HT : Seal _ := ⟨ht⟩
  clear ht
  have g0 := (S3.out.cellsM 4 rfl).c 0 _ rfl
  have g1 := (S3.out.cellsM 4 rfl).c 1 _ rfl
  have gl := (S3.out.cellsM 4 rfl).lt
  go_wp2_with fail
  refine (l5Room_any s ps.a ps.c _).mono ?_
  rintro e w5 ⟨rfl, hb⟩
  have S4 : Seal _ := ⟨S3.out.later hb⟩
  clear hb S3 g0 g1 gl
  cases hr : roomB s
  · have hno : Seal (mayAdd s m now = false) := ⟨by unfold mayAdd timeB; rw [HMB.out, HT.out, hr]; rfl⟩
    clear hr
    have HE : Seal _ := ⟨addR_no HO.out hno.out⟩
    have g0 := (S4.out.cellsM 0 rfl).c 0 _ rfl
    have g1 := (S4.out.cellsM 0 rfl).c 1 _ rfl
    have gl := (S4.out.cellsM 0 rfl).lt
    have r0 := (S4.out.cellsM 2 rfl).c 0 _ rfl
    have r1 := (S4.out.cellsM 2 rfl).c 1 _ rfl
    have f0 := (S4.out.cellsM 2 rfl).f 0 (by simp)
    have f1 := (S4.out.cellsM 2 rfl).f 1 (by simp)
    go_wp2
    refine bodyPost_ret (v := .tuple #[.agg #[.int .i64 s.last, .slice bo s.items.length c], .bool false]) (by simp [results, Tryz.results17, go_sem, r0, r1]) rfl ⟨⟨bo, c, qs⟩, ret_sb HE.out rfl, by rw [HE.out]; exact HQ.out, ?_⟩
    rw [HE.out]
    have s4 := ((S4.out.bring 2 rfl).set 0 (.int .i64 s.last) (by simp)).set 1 (.slice bo s.items.length c) (by simp)
    have s5 := s4.bring 2 rfl
    exact Pt.only (Pt.prefix (As := [itemsR bo c s.items qs]) (Bs := [[Res.cells (w.heap.size + 1 + 1) [.int .i64 s.last, .slice bo s.items.length c]], [Res.cells w2.heap.size [.int .i64 s.last, .slice bo s.items.length c]], [Res.cells (w.heap.size + 1) (mailKL m pm)], [Res.cells w.heap.size (spoolKL s ps)]]) s5)
  have hyes : Seal (mayAdd s m now = true) := ⟨by unfold mayAdd timeB; rw [HMB.out, HT.out, hr]; rfl⟩
  clear hr
  have HE : Seal _ := ⟨addR_yes HO.out hyes.out⟩
  have g0 := (S4.out.cellsM 0 rfl).c 0 _ rfl
  have g1 := (S4.out.cellsM 0 rfl).c 1 _ rfl
  have gl := (S4.out.cellsM 0 rfl).lt
  have x0 := (S4.out.cellsM 3 rfl).c 0 _ rfl
  have x1 := (S4.out.cellsM 3 rfl).c 1 _ rfl
  have x2 := (S4.out.cellsM 3 rfl).c 2 _ rfl
  have x3 := (S4.out.cellsM 3 rfl).c 3 _ rfl
  have xl := (S4.out.cellsM 3 rfl).lt
  go_wp2_with fail
  refine (l5Add_any _ s bo c qs HQ.out m pm.a1 pm.c1 pm.a2 pm.c2 now w _ (S4.out.bring 1 rfl) (HM.out.later S4.out.below) (by omega) HMZ.out sm3 sm4).mono ?_
  rintro e w6 ⟨bo2, c2, q, rfl, hk⟩
  have S6 : Seal (Pt w w6 [itemsR bo2 c2 (addD s m now).items (qs ++ [q]), [Res.cells w2.heap.size [.int .i64 s.last, .slice bo s.items.length c]], [Res.cells (w.heap.size + 1 + 1) [.int .i64 0, .slice none 0 0]], [Res.cells (w.heap.size + 1) (mailKL m pm)], [Res.cells w.heap.size (spoolKL s ps)]]) := ⟨hk⟩
  clear hk S4 g0 g1 gl x0 x1 x2 x3 xl
  have e9 : (addD s m now).items.length = s.items.length + 1 := by simp [addD]
  have r0 := (S6.out.cellsM 2 rfl).c 0 _ rfl
  have r1 := (S6.out.cellsM 2 rfl).c 1 _ rfl
  have f0 := (S6.out.cellsM 2 rfl).f 0 (by simp)
  have f1 := (S6.out.cellsM 2 rfl).f 1 (by simp)
  have HE9 : Seal _ := ⟨e9⟩
  clear e9
  go_wp2
  refine bodyPost_ret (v := .tuple #[.agg #[.int .i64 (addD s m now).last, .slice bo2 (addD s m now).items.length c2], .bool true]) (by simp [results, Tryz.results17, go_sem, r0, r1]) rfl ⟨⟨bo2, c2, qs ++ [q]⟩, ret_sb HE.out rfl, by rw [HE.out]; show (qs ++ [q]).length = (addD s m now).items.length; rw [HE9.out, List.length_append, HQ.out]; rfl, ?_⟩
  rw [HE.out]
  have s4 := ((S6.out.bring 2 rfl).set 0 (.int .i64 (addD s m now).last) (by simp)).set 1 (.slice bo2 (addD s m now).items.length c2) (by simp)
  exact Pt.only (Pt.prefix (As := [itemsR bo2 c2 (addD s m now).items (qs ++ [q])]) (Bs := [[Res.cells w2.heap.size [.int .i64 s.last, .slice bo s.items.length c]], [Res.cells (w.heap.size + 1) (mailKL m pm)], [Res.cells w.heap.size (spoolKL s ps)]]) s4.tail)
end Go.Proofs.YtcaknjdolfheaaaGreatDoor
namespace Go.Proofs.YtcaknjdolfheaaaGreatDoor
open Go Go.RowKit

set_option maxHeartbeats 1600000 in
set_option maxRecDepth 100000 in
theorem waiting_any (u d : ByteArray) (now : Int) (b : Nat) (w : World) (hc : w.cell? ⟨b, 0, none⟩ = some (.int .i64 now)) :
    Calls Tryz.prog 117 #[.agg #[.string u, .string d], .pointer (some ⟨b, 0, none⟩)] w fun e w' => e = .returned (.agg #[.string u, .string d, .int .i64 0, .int .i64 now]) ∧ Below w.heap.size w w' := by
  have s0 := ((St.start w).alloc #[.string u, .string d] 27).alloc noRcpt 105
  simp only [World.size_alloc] at s0
  have c1 := heldc hc s0.below
  have g0 := s0.two.head.c 0 _ rfl
  have g1 := s0.two.head.c 1 _ rfl
  have lb := World.block_lt_of_cell? w _ hc
  have n1 : b ≠ w.heap.size := by intro e; subst e; exact absurd lb (Nat.lt_irrefl _)
  have n2 : b ≠ w.heap.size + 1 := by intro e; subst e; exact absurd lb (by simp)
  clear hc s0 lb
  go_enter Tryz.func117, Tryz.ntmps117
  go_wp2
  refine bodyPost_ret (v := .agg #[.string u, .string d, .int .i64 0, .int .i64 now]) (by simp [results, Tryz.results117, go_sem]) rfl ⟨rfl, ?_⟩
  exact ((Below.refl _ _).alloc (Nat.le_refl _) _).alloc (by simp) _

set_option maxHeartbeats 3200000 in
set_option maxRecDepth 100000 in
theorem eachWaiting_any (a1 : Option Addr) (c1 : Nat) (ps : List (ByteArray × ByteArray)) (now : Int) (b : Nat) (w : World) (hr : PairRow w a1 ps) (hl : ps.length ≤ 1048576) (hc : w.cell? ⟨b, 0, none⟩ = some (.int .i64 now)) :
    Calls Tryz.prog 118 #[.slice a1 ps.length c1, .func (.func 117) #[] #[.pointer (some ⟨b, 0, none⟩)]] w fun e w' => ∃ ro c, e = .returned (.slice ro ps.length c) ∧ Pt w w' [[Res.row 105 4 (.slice ro ps.length c) ps.length (rcNew now ps)]] := by
  obtain ⟨i0, hi, hz0, hz1, hz2⟩ := info_parts infoRcpt
  have HR : Seal _ := ⟨hr⟩
  have HC : Seal _ := ⟨hc⟩
  have S0 : Seal (Pt w w [[Res.row 105 4 (.slice none 0 0) 0 (rcNew now (ps.take 0))]]) := ⟨(Pt.start w).nothing 105 4⟩
  clear hr hc
  go_enter Tryz.func118, Tryz.ntmps118
  go_wp2
  go_loopw [5, 10] (fun v i wr => ∃ (k : Nat) (ro : Option Addr) (rc : Nat), k ≤ ps.length ∧ i = .int .i64 k ∧ v = .slice ro k rc ∧ Seal (Pt w wr [[Res.row 105 4 (.slice ro k rc) k (rcNew now (ps.take k))]])) (fun _ i _ => ps.length - (intOf i).toNat)
  case atStart => exact ⟨0, none, 0, Nat.zero_le _, rfl, rfl, S0⟩
  case round =>
    obtain ⟨k, ro, rc, hk, rfl, rfl, S⟩ := hrel
    clear S0
    by_cases hlt : k < ps.length
    · obtain ⟨p, hp⟩ : ∃ p, ps[k]? = some p := ⟨_, List.getElem?_eq_getElem hlt⟩
      obtain ⟨q, off, rfl, c0, c1'⟩ := (HR.out.below S.out.below (Nat.le_refl _)) k p hp
      have HE : Seal _ := ⟨rcNew_snoc (now := now) hp⟩
      have S1 : Seal (Pt w (wr.alloc (.cells #[.string p.1, .string p.2] 27)) _) := ⟨S.out.alloc #[.string p.1, .string p.2] 27⟩
      have C : Seal _ := ⟨waiting_any p.1 p.2 now b _ (heldc HC.out S1.out.below)⟩
      clear hp S
      go_wp2_with fail
      refine C.out.mono ?_
      rintro e w2 ⟨rfl, hb⟩
      have S2 : Seal (Pt w w2 [[Res.cells wr.heap.size [.string p.1, .string p.2]], [Res.row 105 4 (.slice ro k rc) k (rcNew now (ps.take k))]]) := ⟨S1.out.later hb⟩
      have S3 : Seal (Pt w (w2.alloc (.cells (rcptV (newRcpt now p)) 105)) [[Res.row 105 4 (.slice ro k rc) k (rcNew now (ps.take k))], [Res.row 105 4 (.slice (some ⟨w2.heap.size, 0, none⟩) 1 1) 1 (rcptL (newRcpt now p))], [Res.cells wr.heap.size [.string p.1, .string p.2]]]) := ⟨(Pt.built S2.out (rcptV (newRcpt now p)) 105 4 1 (by decide) rfl).bring 2 rfl⟩
      have OW : Seal _ := ⟨Pt.row1 S3.out 0 rfl⟩
      have SR : Seal _ := ⟨own_news (Pt.row1 S3.out 1 rfl)⟩
      clear hb S1 S2 C c0 c1'
      go_wp2_with (at_builtin; refine wpList_append_own_at _ rfl _ _ 41 rfl 0 105 i0 (.agg #[.string ByteArray.empty, .string ByteArray.empty, .int .i64 0, .int .i64 0]) 4 48 Tryz.underlying41 hi hz0 hz1 hz2 rfl (by decide) _ _ _ rfl OW.out ⟨w2.heap.size, 0, none⟩ 1 1 (rcptL (newRcpt now p)) rfl rfl ?c1 ?c2 ?c3 ?c4 ?c5 ?_)
      case c1 => exact SR.out
      case c2 => exact rcpt_cells_one _
      case c3 => unfold maxLen; omega
      case c4 => omega
      case c5 => exact Nat.zero_le _
      · intro v' w3 hown hg _ hat
        have s4 := Pt.app S3.out hown hg (by first | exact hat | (rw [World.size_alloc]; exact hat))
        obtain ⟨ro', rc', rfl, _⟩ := row_value (Pt.row1 s4 0 rfl)
        have S4 : Seal (Pt w w3 [[Res.row 105 4 (.slice ro' (k + 1) rc') (k + 1) (rcNew now (ps.take (k + 1)))]]) := ⟨by
          rw [← HE.out]
          exact Pt.prefix (As := [[Res.row 105 4 (.slice ro' (k + 1) rc') (k + 1) (rcNew now (ps.take k) ++ rcptL (newRcpt now p))]]) s4⟩
        clear hown hg hat OW SR S3 s4
        go_wp2
        go_roundw
        case rel => exact ⟨k + 1, ro', rc', by omega, by go_num, rfl, S4⟩
        case measure => simp [intOf]; omega
    · obtain rfl : k = ps.length := by omega
      have S1 : Seal (Pt w wr [[Res.row 105 4 (.slice ro ps.length rc) ps.length (rcNew now ps)]]) := ⟨by have h := S.out; rw [List.take_length] at h; exact h⟩
      clear S
      go_wp2
      go_ret
      exact ⟨ro, rc, rfl, S1.out⟩

theorem Pt.rowAdd {w0 w w' : World} {Ls : List (List Res)} (h : Pt w0 w Ls) (hb : Below w.heap.size w w') {e : TypeId} {size : Nat} {v : Value} {n : Nat} {xs : List Value} (ho : w'.ownsRow w.heap.size e size v n xs) : Pt w0 w' ([Res.row e size v n xs] :: Ls) := StX.row (l := Ls.flatten) h hb ho

set_option maxHeartbeats 6400000 in
set_option maxRecDepth 100000 in
theorem newItem_any (i : Int) (m : MailD) (pm : MailP) (now : Int) (w : World) (ho : MailOwn w 0 m pm.a1 pm.c1 pm.a2 pm.c2) (hmz : mailKZ m) :
    Calls Tryz.prog 62 #[.int .i64 i, .agg (mailKV m pm), .int .i64 now] w fun e w' => ∃ q, e = .returned (.agg (itemV (newItemD i m now) q)) ∧ St w w' (itemE.res (newItemD i m now) q) := by
  have z1 := hmz.rcl
  have z2 := hmz.bol
  have HO : Seal _ := ⟨ho⟩
  clear ho hmz
  have S0 : Seal (Pt w (((w.alloc (.cells (mailKV m pm) 31)).alloc (.cells #[.int .i64 now] 3)).alloc (.cells noItem 43)) [[Res.cells (w.heap.size + 1 + 1) [.int .i64 0, .string { data := #[] }, .string { data := #[] }, .slice none 0 0, .slice none 0 0]], [Res.cells (w.heap.size + 1) [.int .i64 now]], [Res.cells w.heap.size (mailKL m pm)]]) := ⟨by
    have h := (((Pt.start w).alloc (mailKV m pm) 31).alloc #[.int .i64 now] 3).alloc noItem 43
    simp only [World.size_alloc] at h
    exact h⟩
  go_enter Tryz.func62, Tryz.ntmps62
  go_upto_region 2 with fail
  generalize ((w.alloc (.cells (mailKV m pm) 31)).alloc (.cells #[.int .i64 now] 3)).alloc (.cells noItem 43) = wq at *
  have S1 : Seal (Pt w wq.drew [[Res.cells (w.heap.size + 1 + 1) [.int .i64 0, .string { data := #[] }, .string { data := #[] }, .slice none 0 0, .slice none 0 0]], [Res.cells (w.heap.size + 1) [.int .i64 now]], [Res.cells (w.heap.size) [.string m.fu, .string m.fd, .slice pm.a1 m.rc.length pm.c1, .slice pm.a2 m.body.length pm.c2]]]) := ⟨S0.out.drew⟩
  refine wp_region_held_drew (S := (fun w' => w'.cell? ⟨w.heap.size, 0, none⟩ = some (.string m.fu) ∧ w'.cell? ⟨w.heap.size, 1, none⟩ = some (.string m.fd) ∧ w'.cell? ⟨w.heap.size, 2, none⟩ = some (.slice pm.a1 m.rc.length pm.c1) ∧ w'.cell? ⟨w.heap.size, 3, none⟩ = some (.slice pm.a2 m.body.length pm.c2))) (by kernel_rfl) ⟨(S1.out.cellsM 2 rfl).c 0 _ rfl, (S1.out.cellsM 2 rfl).c 1 _ rfl, (S1.out.cellsM 2 rfl).c 2 _ rfl, (S1.out.cellsM 2 rfl).c 3 _ rfl⟩ (fun hHeld => ?_)
  refine tkH 0 (by assumption) (h := ?_)
  refine tkH 1 (by assumption) (h := ?_)
  refine tkH 2 (by assumption) (h := ?_)
  refine tkH 3 (by assumption) (h := ?_)
  refine tkH 4 (by assumption) (h := ?_)
  refine tkH 5 (by assumption) (h := ?_)
  refine tkH 7 (by assumption) (h := ?_)
  refine tkH 8 (by assumption) (h := ?_)
  refine wpAnyH_ready (rs := [6]) (by kernel_rfl) (by simp) ?_
  refine AllReadyH.cons rfl (fun K hK => ?_) AllReadyH.nil
  try dsimp only at hHeld
  go_split_ands
  go_simp
  refine (eachWaiting_any pm.a1 pm.c1 m.rc now (w.heap.size + 1) _ ((HO.out.later S1.out.below).at.rc) z1 ((S1.out.cellsM 1 rfl).c 0 _ rfl)).mono ?_
  rintro e w6 ⟨ro, rc, rfl, hk⟩
  have S2 : Seal (Pt w w6 [[Res.row 105 4 (.slice ro m.rc.length rc) (m.rc.length) (rcNew now m.rc)], [Res.cells (w.heap.size + 1 + 1) [.int .i64 0, .string { data := #[] }, .string { data := #[] }, .slice none 0 0, .slice none 0 0]], [Res.cells (w.heap.size + 1) [.int .i64 now]], [Res.cells (w.heap.size) [.string m.fu, .string m.fd, .slice pm.a1 m.rc.length pm.c1, .slice pm.a2 m.body.length pm.c2]]]) := ⟨Pt.join S1.out hk⟩
  clear hk
  refine hK.out _ _ ⟨(S2.out.cellsM 3 rfl).c 0 _ rfl, (S2.out.cellsM 3 rfl).c 1 _ rfl, (S2.out.cellsM 3 rfl).c 2 _ rfl, (S2.out.cellsM 3 rfl).c 3 _ rfl⟩ (fun hHeld => ?_)
  clear hK K
  try simp only [Act.put, List.getElem_toArray, List.getElem_cons_succ, List.getElem_cons_zero, List.setIfInBounds_toArray, List.set_cons_zero, List.set_cons_succ]
  refine wpAnyH_ready (rs := [9]) (by kernel_rfl) (by simp) ?_
  refine AllReadyH.cons rfl (fun K hK => ?_) AllReadyH.nil
  try dsimp only at hHeld
  go_split_ands
  go_simp
  refine (cloneStrs_any 0 pm.a2 pm.c2 m.body _ ((HO.out.later S2.out.below).body) z2).mono ?_
  rintro e w7 ⟨q2, d2, rfl, k2, hb2⟩
  have S3 : Seal (Pt w w7 [[Res.row 9 1 (.slice q2 m.body.length d2) (m.body.length) (m.body.map Value.string)], [Res.row 105 4 (.slice ro m.rc.length rc) (m.rc.length) (rcNew now m.rc)], [Res.cells (w.heap.size + 1 + 1) [.int .i64 0, .string { data := #[] }, .string { data := #[] }, .slice none 0 0, .slice none 0 0]], [Res.cells (w.heap.size + 1) [.int .i64 now]], [Res.cells (w.heap.size) [.string m.fu, .string m.fd, .slice pm.a1 m.rc.length pm.c1, .slice pm.a2 m.body.length pm.c2]]]) := ⟨Pt.rowAdd S2.out hb2 k2⟩
  clear k2 hb2
  refine hK.out _ _ ⟨(S3.out.cellsM 4 rfl).c 0 _ rfl, (S3.out.cellsM 4 rfl).c 1 _ rfl, (S3.out.cellsM 4 rfl).c 2 _ rfl, (S3.out.cellsM 4 rfl).c 3 _ rfl⟩ (fun hHeld => ?_)
  clear hK K
  try simp only [Act.put, List.getElem_toArray, List.getElem_cons_succ, List.getElem_cons_zero, List.setIfInBounds_toArray, List.set_cons_zero, List.set_cons_succ]
  refine tkH 10 (by assumption) (h := ?_)
  refine wpAnyH_ready (rs := [11]) (by kernel_rfl) (by simp) ?_
  refine AllReadyH.cons rfl (fun K hK => ?_) AllReadyH.nil
  have S4 : Seal (Pt w w7 [[Res.cells (w.heap.size + 1 + 1) [.int .i64 0, .string { data := #[] }, .string { data := #[] }, .slice none 0 0, .slice none 0 0]], [Res.row 9 1 (.slice q2 m.body.length d2) (m.body.length) (m.body.map Value.string)], [Res.row 105 4 (.slice ro m.rc.length rc) (m.rc.length) (rcNew now m.rc)], [Res.cells (w.heap.size + 1) [.int .i64 now]], [Res.cells (w.heap.size) [.string m.fu, .string m.fd, .slice pm.a1 m.rc.length pm.c1, .slice pm.a2 m.body.length pm.c2]]]) := ⟨S3.out.bring 2 rfl⟩
  have oc0 := (S4.out.cellsM 0 rfl).c 0 _ rfl
  have of0 := (S4.out.cellsM 0 rfl).f 0 (by simp)
  have oc1 := (S4.out.cellsM 0 rfl).c 1 _ rfl
  have of1 := (S4.out.cellsM 0 rfl).f 1 (by simp)
  have oc2 := (S4.out.cellsM 0 rfl).c 2 _ rfl
  have of2 := (S4.out.cellsM 0 rfl).f 2 (by simp)
  have oc3 := (S4.out.cellsM 0 rfl).c 3 _ rfl
  have of3 := (S4.out.cellsM 0 rfl).f 3 (by simp)
  have oc4 := (S4.out.cellsM 0 rfl).c 4 _ rfl
  have of4 := (S4.out.cellsM 0 rfl).f 4 (by simp)
  have S5 : Seal (Pt w (((((w7.setCell ⟨w.heap.size + 1 + 1, 0, none⟩ (.int .i64 i)).setCell ⟨w.heap.size + 1 + 1, 1, none⟩ (.string m.fu)).setCell ⟨w.heap.size + 1 + 1, 2, none⟩ (.string m.fd)).setCell ⟨w.heap.size + 1 + 1, 3, none⟩ (.slice ro m.rc.length rc)).setCell ⟨w.heap.size + 1 + 1, 4, none⟩ (.slice q2 m.body.length d2)) [[Res.cells (w.heap.size + 1 + 1) [.int .i64 i, .string m.fu, .string m.fd, .slice ro m.rc.length rc, .slice q2 m.body.length d2]], [Res.row 9 1 (.slice q2 m.body.length d2) (m.body.length) (m.body.map Value.string)], [Res.row 105 4 (.slice ro m.rc.length rc) (m.rc.length) (rcNew now m.rc)], [Res.cells (w.heap.size + 1) [.int .i64 now]], [Res.cells (w.heap.size) [.string m.fu, .string m.fd, .slice pm.a1 m.rc.length pm.c1, .slice pm.a2 m.body.length pm.c2]]]) := ⟨(((((S4.out).set 0 (.int .i64 i) (by simp)).set 1 (.string m.fu) (by simp)).set 2 (.string m.fd) (by simp)).set 3 (.slice ro m.rc.length rc) (by simp)).set 4 (.slice q2 m.body.length d2) (by simp)⟩
  go_simp
  refine hK.out _ _ ⟨(S5.out.cellsM 4 rfl).c 0 _ rfl, (S5.out.cellsM 4 rfl).c 1 _ rfl, (S5.out.cellsM 4 rfl).c 2 _ rfl, (S5.out.cellsM 4 rfl).c 3 _ rfl⟩ (fun hHeld => ?_)
  clear hK K
  try simp only [Act.put, List.getElem_toArray, List.getElem_cons_succ, List.getElem_cons_zero, List.setIfInBounds_toArray, List.set_cons_zero, List.set_cons_succ]
  clear oc0 of0 oc1 of1 oc2 of2 oc3 of3 oc4 of4
  refine wpAnyH_done (by kernel_rfl) ?_ _
  have r0 := (S5.out.cellsM 0 rfl).c 0 _ rfl
  have r1 := (S5.out.cellsM 0 rfl).c 1 _ rfl
  have r2 := (S5.out.cellsM 0 rfl).c 2 _ rfl
  have r3 := (S5.out.cellsM 0 rfl).c 3 _ rfl
  have r4 := (S5.out.cellsM 0 rfl).c 4 _ rfl
  go_wp2
  have hr : itemE.res (newItemD i m now) ⟨ro, rc, q2, d2⟩ = [Res.row 105 4 (.slice ro m.rc.length rc) m.rc.length (rcNew now m.rc), Res.row 9 1 (.slice q2 m.body.length d2) m.body.length (m.body.map Value.string)] := by
    show [Res.row 105 4 (.slice ro (m.rc.map (newRcpt now)).length rc) (m.rc.map (newRcpt now)).length (rcNew now m.rc), strsR q2 d2 m.body] = _
    rw [List.length_map]
  refine bodyPost_ret (v := .agg #[.int .i64 i, .string m.fu, .string m.fd, .slice ro m.rc.length rc, .slice q2 m.body.length d2]) (by simp [results, Tryz.results62, go_sem, r0, r1, r2, r3, r4]) rfl ⟨⟨ro, rc, q2, d2⟩, by show _ = Ending.returned (.agg #[.int .i64 i, .string m.fu, .string m.fd, .slice ro (m.rc.map (newRcpt now)).length rc, .slice q2 m.body.length d2]); rw [List.length_map], ?_⟩
  rw [hr]
  exact Pt.prefix (As := [[Res.row 105 4 (.slice ro m.rc.length rc) (m.rc.length) (rcNew now m.rc)], [Res.row 9 1 (.slice q2 m.body.length d2) (m.body.length) (m.body.map Value.string)]]) (Bs := [[Res.cells (w.heap.size + 1 + 1) [.int .i64 i, .string m.fu, .string m.fd, .slice ro m.rc.length rc, .slice q2 m.body.length d2]], [Res.cells (w.heap.size + 1) [.int .i64 now]], [Res.cells (w.heap.size) [.string m.fu, .string m.fd, .slice pm.a1 m.rc.length pm.c1, .slice pm.a2 m.body.length pm.c2]]]) (Pt.bring (Pt.bring S5.out 1 rfl) 2 rfl)
end Go.Proofs.YtcaknjdolfheaaaGreatDoor
namespace Go.Proofs.YtcaknjdolfheaaaGreatDoor
open Go Go.RowKit

theorem full_no {s : SpoolD} {m : MailD} {now : Int} (h : roomB s = false) : mayAdd s m now = false := by unfold mayAdd; rw [h]; simp
theorem time_no {s : SpoolD} {m : MailD} {now : Int} (h : inB now 0 9999 = false) : mayAdd s m now = false := by unfold mayAdd timeB; rw [h]; simp
theorem mail_no {s : SpoolD} {m : MailD} {now : Int} (h : mailB m = false) : mayAdd s m now = false := by unfold mayAdd; rw [h]; rfl

set_option maxHeartbeats 12800000 in
set_option maxRecDepth 100000 in
theorem implSpoolAdd_K (s : SpoolD) (m : MailD) (now : Int) (hz : spoolKZ s) (hmz : mailKZ m) (w0 w : World) (Ls : List (List Res)) (hmx : HasMax w) (ps : SpoolP) (pm : MailP) (i j : Nat) (h : Pt w0 w Ls) (hi : Ls[i]? = some (spoolKR s ps)) (hj : Ls[j]? = some (mailKR m pm)) (hfs : spoolKF s ps) (_ : mailKF m pm) :
    Calls Tryz.prog 16 #[.agg (spoolKV s ps), .agg (mailKV m pm), .int .i64 now] w fun e w' => ∃ r, e = .returned (.tuple #[.agg (spoolKV (addR s m now).1 r), .bool (addR s m now).2]) ∧ spoolKF (addR s m now).1 r ∧ St w w' (spoolKR (addR s m now).1 r) := by
  obtain ⟨iItem, hiItem, hz0Item, hz1Item, hz2Item⟩ := info_parts infoItem
  have HX : Seal _ := ⟨hmx⟩
  have HS : Seal _ := ⟨h.bring i hi⟩
  have HM : Seal (MailOwn w 0 m pm.a1 pm.c1 pm.a2 pm.c2) := ⟨h.nth j hj _ (List.mem_singleton.2 rfl)⟩
  have HA : Seal (ItemRow w ps.a s.items) := ⟨spoolK_read hfs (h.nth i hi)⟩
  have HF : Seal _ := ⟨hfs⟩
  have HZ : Seal _ := ⟨hz⟩
  have HMZ : Seal _ := ⟨hmz⟩
  clear h hi hj hfs hz hmz hmx
  have S0 : Seal (Pt w (((w.alloc (.cells (spoolKV s ps) 25)).alloc (.cells (mailKV m pm) 31)).alloc (.cells #[.int .i64 0, .slice none 0 0] 25)) [[Res.cells (w.heap.size + 1 + 1) [.int .i64 0, .slice none 0 0]], [Res.cells (w.heap.size + 1) (mailKL m pm)], [Res.cells w.heap.size (spoolKL s ps)]]) := ⟨by
    have h := (((Pt.start w).alloc (spoolKV s ps) 25).alloc (mailKV m pm) 31).alloc #[.int .i64 0, .slice none 0 0] 25
    simp only [World.size_alloc] at h
    exact h⟩
  go_enter Tryz.func16, Tryz.ntmps16
  go_wp2_with fail
  refine (implSpoolOk_any s ps.a ps.c _ (HX.out.below S0.out.below (Nat.le_refl _)) (HA.out.below itemP_stays S0.out.below (Nat.le_refl _)) HZ.out).mono ?_
  rintro e w1 ⟨rfl, hb⟩
  have S1 : Seal _ := ⟨S0.out.later hb⟩
  clear hb S0
  cases hok : spoolB s
  · have HE : Seal _ := ⟨addR_bad (m := m) (now := now) hok⟩
    have r0 := (S1.out.cellsM 0 rfl).c 0 _ rfl
    have r1 := (S1.out.cellsM 0 rfl).c 1 _ rfl
    have f0 := (S1.out.cellsM 0 rfl).f 0 (by simp)
    have f1 := (S1.out.cellsM 0 rfl).f 1 (by simp)
    clear hok
    go_wp2
    refine bodyPost_ret (v := .tuple #[.agg #[.int .i64 0, .slice none 0 0], .bool false]) (by simp [results, Tryz.results16, go_sem, r0, r1]) rfl ⟨⟨none, 0, []⟩, ret_sb HE.out rfl, by rw [HE.out]; rfl, ?_⟩
    rw [HE.out]
    have s4 := ((S1.out.set 0 (.int .i64 0) (by simp)).set 1 (.slice none 0 0) (by simp)).nothing 43 5
    exact Pt.prefix (As := [[Res.row 43 5 (.slice none 0 0) 0 []]]) s4
  have HO : Seal _ := ⟨hok⟩
  obtain ⟨sm1, sm2, sm3, sm4⟩ := spool_small hok
  clear hok
  have g0 := (S1.out.cellsM 2 rfl).c 0 _ rfl
  have g1 := (S1.out.cellsM 2 rfl).c 1 _ rfl
  go_wp2_with fail
  refine (spoolClone_any _ s ps.a ps.c ps.ps HF.out w0 _ (StX.later HS.out S1.out.below) HZ.out).mono ?_
  rintro e w2 ⟨bo, c, qs, rfl, hqs, hk⟩
  have HQ : Seal _ := ⟨hqs⟩
  have S2 : Seal (Pt w (w2.alloc (.cells #[.int .i64 s.last, .slice bo s.items.length c] 25)) [[Res.cells w2.heap.size [.int .i64 s.last, .slice bo s.items.length c]], itemsR bo c s.items qs, [Res.cells (w.heap.size + 1 + 1) [.int .i64 0, .slice none 0 0]], [Res.cells (w.heap.size + 1) (mailKL m pm)], [Res.cells w.heap.size (spoolKL s ps)]]) := ⟨(Pt.join S1.out hk).alloc #[.int .i64 s.last, .slice bo s.items.length c] 25⟩
  clear hk hqs S1 g0 g1
  have g0 := (S2.out.cellsM 3 rfl).c 0 _ rfl
  have g1 := (S2.out.cellsM 3 rfl).c 1 _ rfl
  have g2 := (S2.out.cellsM 3 rfl).c 2 _ rfl
  have g3 := (S2.out.cellsM 3 rfl).c 3 _ rfl
  have gl := (S2.out.cellsM 3 rfl).lt
  go_wp2_with fail
  refine (implMailOk_any m pm.a1 pm.c1 pm.a2 pm.c2 _ (HX.out.below S2.out.below (Nat.le_refl _)) ((HM.out.later S2.out.below).at) HMZ.out (HM.out.rc.cap)).mono ?_
  rintro e w3 ⟨rfl, hb⟩
  have S3 : Seal _ := ⟨S2.out.later hb⟩
  clear hb S2 g0 g1 g2 g3 gl
  cases hmb : mailB m
  · have hno : Seal (mayAdd s m now = false) := ⟨mail_no hmb⟩
    clear hmb
    have HE : Seal _ := ⟨addR_no HO.out hno.out⟩
    have g0 := (S3.out.cellsM 0 rfl).c 0 _ rfl
    have g1 := (S3.out.cellsM 0 rfl).c 1 _ rfl
    have gl := (S3.out.cellsM 0 rfl).lt
    have r0 := (S3.out.cellsM 2 rfl).c 0 _ rfl
    have r1 := (S3.out.cellsM 2 rfl).c 1 _ rfl
    have f0 := (S3.out.cellsM 2 rfl).f 0 (by simp)
    have f1 := (S3.out.cellsM 2 rfl).f 1 (by simp)
    go_wp2
    refine bodyPost_ret (v := .tuple #[.agg #[.int .i64 s.last, .slice bo s.items.length c], .bool false]) (by simp [results, Tryz.results16, go_sem, r0, r1]) rfl ⟨⟨bo, c, qs⟩, ret_sb HE.out rfl, by rw [HE.out]; exact HQ.out, ?_⟩
    rw [HE.out]
    have s4 := ((S3.out.bring 2 rfl).set 0 (.int .i64 s.last) (by simp)).set 1 (.slice bo s.items.length c) (by simp)
    have s5 := s4.bring 2 rfl
    exact Pt.only (Pt.prefix (As := [itemsR bo c s.items qs]) (Bs := [[Res.cells (w.heap.size + 1 + 1) [.int .i64 s.last, .slice bo s.items.length c]], [Res.cells w2.heap.size [.int .i64 s.last, .slice bo s.items.length c]], [Res.cells (w.heap.size + 1) (mailKL m pm)], [Res.cells w.heap.size (spoolKL s ps)]]) s5)
  have HMB : Seal _ := ⟨hmb⟩
  clear hmb
  go_wp2_with fail
  refine (isTime_any now _).mono ?_
  rintro e w4 ⟨rfl, rfl⟩
  cases ht : inB now 0 9999
  · have hno : Seal (mayAdd s m now = false) := ⟨time_no ht⟩
    clear ht
    have HE : Seal _ := ⟨addR_no HO.out hno.out⟩
    have g0 := (S3.out.cellsM 0 rfl).c 0 _ rfl
    have g1 := (S3.out.cellsM 0 rfl).c 1 _ rfl
    have gl := (S3.out.cellsM 0 rfl).lt
    have r0 := (S3.out.cellsM 2 rfl).c 0 _ rfl
    have r1 := (S3.out.cellsM 2 rfl).c 1 _ rfl
    have f0 := (S3.out.cellsM 2 rfl).f 0 (by simp)
    have f1 := (S3.out.cellsM 2 rfl).f 1 (by simp)
    go_wp2
    refine bodyPost_ret (v := .tuple #[.agg #[.int .i64 s.last, .slice bo s.items.length c], .bool false]) (by simp [results, Tryz.results16, go_sem, r0, r1]) rfl ⟨⟨bo, c, qs⟩, ret_sb HE.out rfl, by rw [HE.out]; exact HQ.out, ?_⟩
    rw [HE.out]
    have s4 := ((S3.out.bring 2 rfl).set 0 (.int .i64 s.last) (by simp)).set 1 (.slice bo s.items.length c) (by simp)
    have s5 := s4.bring 2 rfl
    exact Pt.only (Pt.prefix (As := [itemsR bo c s.items qs]) (Bs := [[Res.cells (w.heap.size + 1 + 1) [.int .i64 s.last, .slice bo s.items.length c]], [Res.cells w2.heap.size [.int .i64 s.last, .slice bo s.items.length c]], [Res.cells (w.heap.size + 1) (mailKL m pm)], [Res.cells w.heap.size (spoolKL s ps)]]) s5)
  have HT : Seal _ := ⟨ht⟩
  clear ht
  have x0 := (S3.out.cellsM 4 rfl).c 0 _ rfl
  have x1 := (S3.out.cellsM 4 rfl).c 1 _ rfl
  have xl := (S3.out.cellsM 4 rfl).lt
  by_cases hn : s.items.length = 10
  · have hno : Seal (mayAdd s m now = false) := ⟨full_no (by unfold roomB; rw [decide_eq_false (by omega)]; rfl)⟩
    have q1 : ((s.items.length : Int) == 10) = true := by rw [beq_iff_eq]; omega
    have q2 : (s.items.length == 10) = true := by rw [beq_iff_eq]; exact hn
    have HN : Seal _ := ⟨hn⟩
    clear hn
    have HE : Seal _ := ⟨addR_no HO.out hno.out⟩
    have g0 := (S3.out.cellsM 0 rfl).c 0 _ rfl
    have g1 := (S3.out.cellsM 0 rfl).c 1 _ rfl
    have gl := (S3.out.cellsM 0 rfl).lt
    have r0 := (S3.out.cellsM 2 rfl).c 0 _ rfl
    have r1 := (S3.out.cellsM 2 rfl).c 1 _ rfl
    have f0 := (S3.out.cellsM 2 rfl).f 0 (by simp)
    have f1 := (S3.out.cellsM 2 rfl).f 1 (by simp)
    go_wp2
    refine bodyPost_ret (v := .tuple #[.agg #[.int .i64 s.last, .slice bo s.items.length c], .bool false]) (by simp [results, Tryz.results16, go_sem, r0, r1]) rfl ⟨⟨bo, c, qs⟩, ret_sb HE.out rfl, by rw [HE.out]; exact HQ.out, ?_⟩
    rw [HE.out]
    have s4 := ((S3.out.bring 2 rfl).set 0 (.int .i64 s.last) (by simp)).set 1 (.slice bo s.items.length c) (by simp)
    have s5 := s4.bring 2 rfl
    exact Pt.only (Pt.prefix (As := [itemsR bo c s.items qs]) (Bs := [[Res.cells (w.heap.size + 1 + 1) [.int .i64 s.last, .slice bo s.items.length c]], [Res.cells w2.heap.size [.int .i64 s.last, .slice bo s.items.length c]], [Res.cells (w.heap.size + 1) (mailKL m pm)], [Res.cells w.heap.size (spoolKL s ps)]]) s5)
  by_cases hn2 : s.last = 999
  · have hno : Seal (mayAdd s m now = false) := ⟨full_no (by unfold roomB; rw [decide_eq_false (by omega : ¬ s.last < 999)]; simp)⟩
    have q1 : ((s.items.length : Int) == 10) = false := by rw [beq_eq_false_iff_ne]; omega
    have q2 : (s.items.length == 10) = false := by rw [beq_eq_false_iff_ne]; exact hn
    have q3 : (s.last == 999) = true := by rw [beq_iff_eq]; exact hn2
    have HN : Seal _ := ⟨hn2⟩
    clear hn hn2
    have HE : Seal _ := ⟨addR_no HO.out hno.out⟩
    have g0 := (S3.out.cellsM 0 rfl).c 0 _ rfl
    have g1 := (S3.out.cellsM 0 rfl).c 1 _ rfl
    have gl := (S3.out.cellsM 0 rfl).lt
    have r0 := (S3.out.cellsM 2 rfl).c 0 _ rfl
    have r1 := (S3.out.cellsM 2 rfl).c 1 _ rfl
    have f0 := (S3.out.cellsM 2 rfl).f 0 (by simp)
    have f1 := (S3.out.cellsM 2 rfl).f 1 (by simp)
    go_wp2
    refine bodyPost_ret (v := .tuple #[.agg #[.int .i64 s.last, .slice bo s.items.length c], .bool false]) (by simp [results, Tryz.results16, go_sem, r0, r1]) rfl ⟨⟨bo, c, qs⟩, ret_sb HE.out rfl, by rw [HE.out]; exact HQ.out, ?_⟩
    rw [HE.out]
    have s4 := ((S3.out.bring 2 rfl).set 0 (.int .i64 s.last) (by simp)).set 1 (.slice bo s.items.length c) (by simp)
    have s5 := s4.bring 2 rfl
    exact Pt.only (Pt.prefix (As := [itemsR bo c s.items qs]) (Bs := [[Res.cells (w.heap.size + 1 + 1) [.int .i64 s.last, .slice bo s.items.length c]], [Res.cells w2.heap.size [.int .i64 s.last, .slice bo s.items.length c]], [Res.cells (w.heap.size + 1) (mailKL m pm)], [Res.cells w.heap.size (spoolKL s ps)]]) s5)
  have hyes : Seal (mayAdd s m now = true) := ⟨by unfold mayAdd timeB roomB; rw [HMB.out, HT.out, decide_eq_true (by omega), decide_eq_true (by omega)]; rfl⟩
  have HE : Seal _ := ⟨addR_yes HO.out hyes.out⟩
  have q1 : ((s.items.length : Int) == 10) = false := by rw [beq_eq_false_iff_ne]; omega
  have q2 : (s.items.length == 10) = false := by rw [beq_eq_false_iff_ne]; exact hn
  have q3 : (s.last == 999) = false := by rw [beq_eq_false_iff_ne]; exact hn2
  have hwr : IntKind.i64.wrap (s.last + 1) = s.last + 1 := IntWalk.i64_in _ (by omega)
  clear hn hn2
  obtain ⟨N, hN⟩ : ∃ N, newItemD (s.last + 1) m now = N := ⟨_, rfl⟩
  have HNN : Seal _ := ⟨hN⟩
  have CN : Seal (∀ W, Below w.heap.size w W → Calls Tryz.prog 62 #[.int .i64 (s.last + 1), .agg (mailKV m pm), .int .i64 now] W fun e w' => ∃ q, e = .returned (.agg (itemV N q)) ∧ St W w' (itemE.res N q)) := ⟨fun W hW => by rw [← HNN.out]; exact newItem_any (s.last + 1) m pm now W (HM.out.later hW) HMZ.out⟩
  clear hN
  have y0 := (S3.out.cellsM 0 rfl).c 0 _ rfl
  have y1 := (S3.out.cellsM 0 rfl).c 1 _ rfl
  have yf := (S3.out.cellsM 0 rfl).f 0 (by simp)
  have S4 : Seal (Pt w (w3.setCell ⟨w2.heap.size, 0, none⟩ (.int .i64 (s.last + 1))) [[Res.cells w2.heap.size [.int .i64 (s.last + 1), .slice bo s.items.length c]], [Res.row 43 5 (.slice bo s.items.length c) s.items.length (itemE.all s.items qs)], itemE.ress s.items qs, [Res.cells (w.heap.size + 1 + 1) [.int .i64 0, .slice none 0 0]], [Res.cells (w.heap.size + 1) (mailKL m pm)], [Res.cells w.heap.size (spoolKL s ps)]]) := ⟨S3.out.set 0 (.int .i64 (s.last + 1)) (by simp)⟩
  go_upto_region 7 with fail
  clear y0 y1 yf x0 x1 xl S3
  generalize w3.setCell ⟨w2.heap.size, 0, none⟩ (.int .i64 (s.last + 1)) = w5 at *
  go_cut [] (fun wx => ∃ (b2 : Option Addr) (c2 : Nat) (q : ItemV), Pt w wx [[Res.cells (w2.heap.size) [.int .i64 (s.last + 1), .slice b2 (s.items.length + 1) c2]], [Res.row 43 5 (.slice b2 (s.items.length + 1) c2) (s.items.length + 1) (itemE.all s.items qs ++ [.int .i64 N.id, .string N.fu, .string N.fd, .slice q.a1 N.rc.length q.c1, .slice q.a2 N.body.length q.c2])], itemE.ress s.items qs, itemE.res N q, [Res.cells (w.heap.size + 1 + 1) [.int .i64 0, .slice none 0 0]], [Res.cells (w.heap.size + 1) [.string m.fu, .string m.fd, .slice pm.a1 m.rc.length pm.c1, .slice pm.a2 m.body.length pm.c2]], [Res.cells (w.heap.size) [.int .i64 s.last, .slice ps.a s.items.length ps.c]]])
  case first =>
    have S5 : Seal (Pt w w5.drew [[Res.cells (w2.heap.size) [.int .i64 (s.last + 1), .slice bo s.items.length c]], [Res.row 43 5 (.slice bo s.items.length c) (s.items.length) (itemE.all s.items qs)], itemE.ress s.items qs, [Res.cells (w.heap.size + 1 + 1) [.int .i64 0, .slice none 0 0]], [Res.cells (w.heap.size + 1) [.string m.fu, .string m.fd, .slice pm.a1 m.rc.length pm.c1, .slice pm.a2 m.body.length pm.c2]], [Res.cells (w.heap.size) [.int .i64 s.last, .slice ps.a s.items.length ps.c]]]) := ⟨S4.out.drew⟩
    refine wp_region_held_drew (S := (fun w' => w'.cell? ⟨w2.heap.size, 0, none⟩ = some (.int .i64 (s.last + 1)) ∧ w'.cell? ⟨w.heap.size + 1, 0, none⟩ = some (.string m.fu) ∧ w'.cell? ⟨w.heap.size + 1, 1, none⟩ = some (.string m.fd) ∧ w'.cell? ⟨w.heap.size + 1, 2, none⟩ = some (.slice pm.a1 m.rc.length pm.c1) ∧ w'.cell? ⟨w.heap.size + 1, 3, none⟩ = some (.slice pm.a2 m.body.length pm.c2))) (by kernel_rfl) ⟨(S5.out.cellsM 0 rfl).c 0 _ rfl, (S5.out.cellsM 4 rfl).c 0 _ rfl, (S5.out.cellsM 4 rfl).c 1 _ rfl, (S5.out.cellsM 4 rfl).c 2 _ rfl, (S5.out.cellsM 4 rfl).c 3 _ rfl⟩ (fun hHeld => ?_)
    refine tkH 0 (by assumption) (h := ?_)
    refine tkH 2 (by assumption) (h := ?_)
    refine tkH 3 (by assumption) (h := ?_)
    refine tkH 4 (by assumption) (h := ?_)
    refine tkH 5 (by assumption) (h := ?_)
    refine wpAnyH_ready (rs := [1, 6]) (by kernel_rfl) (by simp) ?_
    refine AllReadyH.cons rfl (fun K hK => ?_) (AllReadyH.cons rfl (fun K hK => ?_) AllReadyH.nil)
    · have ol0 := (S5.out.cellsM 0 rfl).c 1 _ rfl
      go_simp
      refine hK.out _ _ ⟨(S5.out.cellsM 0 rfl).c 0 _ rfl, (S5.out.cellsM 4 rfl).c 0 _ rfl, (S5.out.cellsM 4 rfl).c 1 _ rfl, (S5.out.cellsM 4 rfl).c 2 _ rfl, (S5.out.cellsM 4 rfl).c 3 _ rfl⟩ (fun hHeld => ?_)
      clear hK K
      try simp only [Act.put, List.getElem_toArray, List.getElem_cons_succ, List.getElem_cons_zero, List.setIfInBounds_toArray, List.set_cons_zero, List.set_cons_succ]
      clear ol0
      refine wpAnyH_ready (rs := [6]) (by kernel_rfl) (by simp) ?_
      refine AllReadyH.cons rfl (fun K hK => ?_) AllReadyH.nil
      try dsimp only at hHeld
      go_split_ands
      go_simp
      refine (CN.out _ S5.out.below).mono ?_
      rintro e w6 ⟨q, rfl, hk⟩
      have S6 : Seal (Pt w w6 [itemE.res N q, [Res.cells (w2.heap.size) [.int .i64 (s.last + 1), .slice bo s.items.length c]], [Res.row 43 5 (.slice bo s.items.length c) (s.items.length) (itemE.all s.items qs)], itemE.ress s.items qs, [Res.cells (w.heap.size + 1 + 1) [.int .i64 0, .slice none 0 0]], [Res.cells (w.heap.size + 1) [.string m.fu, .string m.fd, .slice pm.a1 m.rc.length pm.c1, .slice pm.a2 m.body.length pm.c2]], [Res.cells (w.heap.size) [.int .i64 s.last, .slice ps.a s.items.length ps.c]]]) := ⟨Pt.join S5.out hk⟩
      clear hk
      refine hK.out _ _ ⟨(S6.out.cellsM 1 rfl).c 0 _ rfl, (S6.out.cellsM 5 rfl).c 0 _ rfl, (S6.out.cellsM 5 rfl).c 1 _ rfl, (S6.out.cellsM 5 rfl).c 2 _ rfl, (S6.out.cellsM 5 rfl).c 3 _ rfl⟩ (fun hHeld => ?_)
      clear hK K
      try simp only [Act.put, List.getElem_toArray, List.getElem_cons_succ, List.getElem_cons_zero, List.setIfInBounds_toArray, List.set_cons_zero, List.set_cons_succ]
      refine wpAnyH_ready (rs := [7]) (by kernel_rfl) (by simp) ?_
      refine AllReadyH.cons rfl (fun K hK => ?_) AllReadyH.nil
      have S7 : Seal (Pt w (w6.alloc (.cells #[.int .i64 N.id, .string N.fu, .string N.fd, .slice q.a1 N.rc.length q.c1, .slice q.a2 N.body.length q.c2] 43)) [[Res.row 43 5 (.slice (some ⟨w6.heap.size, 0, none⟩) 1 1) (1) ([.int .i64 N.id, .string N.fu, .string N.fd, .slice q.a1 N.rc.length q.c1, .slice q.a2 N.body.length q.c2])], itemE.res N q, [Res.cells (w2.heap.size) [.int .i64 (s.last + 1), .slice bo s.items.length c]], [Res.row 43 5 (.slice bo s.items.length c) (s.items.length) (itemE.all s.items qs)], itemE.ress s.items qs, [Res.cells (w.heap.size + 1 + 1) [.int .i64 0, .slice none 0 0]], [Res.cells (w.heap.size + 1) [.string m.fu, .string m.fd, .slice pm.a1 m.rc.length pm.c1, .slice pm.a2 m.body.length pm.c2]], [Res.cells (w.heap.size) [.int .i64 s.last, .slice ps.a s.items.length ps.c]]]) := ⟨Pt.built S6.out #[.int .i64 N.id, .string N.fu, .string N.fd, .slice q.a1 N.rc.length q.c1, .slice q.a2 N.body.length q.c2] 43 5 1 (by decide) rfl⟩
      go_simp
      refine hK.out _ _ ⟨(S7.out.cellsM 2 rfl).c 0 _ rfl, (S7.out.cellsM 6 rfl).c 0 _ rfl, (S7.out.cellsM 6 rfl).c 1 _ rfl, (S7.out.cellsM 6 rfl).c 2 _ rfl, (S7.out.cellsM 6 rfl).c 3 _ rfl⟩ (fun hHeld => ?_)
      clear hK K
      try simp only [Act.put, List.getElem_toArray, List.getElem_cons_succ, List.getElem_cons_zero, List.setIfInBounds_toArray, List.set_cons_zero, List.set_cons_succ]
      refine wpAnyH_ready (rs := [8]) (by kernel_rfl) (by simp) ?_
      refine AllReadyH.cons rfl (fun K hK => ?_) AllReadyH.nil
      have SH7 : Seal (Pt w (w6.alloc (.cells #[.int .i64 N.id, .string N.fu, .string N.fd, .slice q.a1 N.rc.length q.c1, .slice q.a2 N.body.length q.c2] 43)) [[Res.row 43 5 (.slice bo s.items.length c) (s.items.length) (itemE.all s.items qs)], [Res.row 43 5 (.slice (some ⟨w6.heap.size, 0, none⟩) 1 1) (1) ([.int .i64 N.id, .string N.fu, .string N.fd, .slice q.a1 N.rc.length q.c1, .slice q.a2 N.body.length q.c2])], itemE.res N q, [Res.cells (w2.heap.size) [.int .i64 (s.last + 1), .slice bo s.items.length c]], itemE.ress s.items qs, [Res.cells (w.heap.size + 1 + 1) [.int .i64 0, .slice none 0 0]], [Res.cells (w.heap.size + 1) [.string m.fu, .string m.fd, .slice pm.a1 m.rc.length pm.c1, .slice pm.a2 m.body.length pm.c2]], [Res.cells (w.heap.size) [.int .i64 s.last, .slice ps.a s.items.length ps.c]]]) := ⟨S7.out.bring 3 rfl⟩
      have OW7 : Seal _ := ⟨Pt.row1 SH7.out 0 rfl⟩
      have SR7 : Seal _ := ⟨(Pt.row1 S7.out 0 rfl)⟩
      refine step_append_any rfl _ _ 23 rfl 0 43 iItem (.agg #[.int .i64 0, .string ByteArray.empty, .string ByteArray.empty, .slice none 0 0, .slice none 0 0]) 5 88 Tryz.underlying23 hiItem hz0Item hz1Item hz2Item rfl (by decide) (.slice bo s.items.length c) (s.items.length) (itemE.all s.items qs) (by rfl) OW7.out ((some ⟨w6.heap.size, 0, none⟩)) (1) (1) ([.int .i64 N.id, .string N.fu, .string N.fd, .slice q.a1 N.rc.length q.c1, .slice q.a2 N.body.length q.c2]) (by rfl) SR7.out (items_one N q) (by unfold maxLen; omega) (by omega) (Nat.zero_le _) ?_
      intro v1 u2 hown hg hat
      have S8 : Seal (Pt w u2 [[Res.row 43 5 (v1) (s.items.length + 1) (itemE.all s.items qs ++ [.int .i64 N.id, .string N.fu, .string N.fd, .slice q.a1 N.rc.length q.c1, .slice q.a2 N.body.length q.c2])], [Res.row 43 5 (.slice (some ⟨w6.heap.size, 0, none⟩) 1 1) (1) ([.int .i64 N.id, .string N.fu, .string N.fd, .slice q.a1 N.rc.length q.c1, .slice q.a2 N.body.length q.c2])], itemE.res N q, [Res.cells (w2.heap.size) [.int .i64 (s.last + 1), .slice bo s.items.length c]], itemE.ress s.items qs, [Res.cells (w.heap.size + 1 + 1) [.int .i64 0, .slice none 0 0]], [Res.cells (w.heap.size + 1) [.string m.fu, .string m.fd, .slice pm.a1 m.rc.length pm.c1, .slice pm.a2 m.body.length pm.c2]], [Res.cells (w.heap.size) [.int .i64 s.last, .slice ps.a s.items.length ps.c]]]) := ⟨Pt.app SH7.out hown hg (by simpa using hat)⟩
      obtain ⟨bo3, c4, rfl, _⟩ := row_value (Pt.row1 S8.out 0 rfl)
      clear hown hg hat SH7 OW7 SR7
      refine hK.out _ _ ⟨(S8.out.cellsM 3 rfl).c 0 _ rfl, (S8.out.cellsM 6 rfl).c 0 _ rfl, (S8.out.cellsM 6 rfl).c 1 _ rfl, (S8.out.cellsM 6 rfl).c 2 _ rfl, (S8.out.cellsM 6 rfl).c 3 _ rfl⟩ (fun hHeld => ?_)
      clear hK K
      try simp only [Act.put, List.getElem_toArray, List.getElem_cons_succ, List.getElem_cons_zero, List.setIfInBounds_toArray, List.set_cons_zero, List.set_cons_succ]
      refine tkH 9 (by assumption) (h := ?_)
      refine wpAnyH_ready (rs := [10]) (by kernel_rfl) (by simp) ?_
      refine AllReadyH.cons rfl (fun K hK => ?_) AllReadyH.nil
      have S9 : Seal (Pt w u2 [[Res.cells (w2.heap.size) [.int .i64 (s.last + 1), .slice bo s.items.length c]], [Res.row 43 5 (.slice bo3 (s.items.length + 1) c4) (s.items.length + 1) (itemE.all s.items qs ++ [.int .i64 N.id, .string N.fu, .string N.fd, .slice q.a1 N.rc.length q.c1, .slice q.a2 N.body.length q.c2])], [Res.row 43 5 (.slice (some ⟨w6.heap.size, 0, none⟩) 1 1) (1) ([.int .i64 N.id, .string N.fu, .string N.fd, .slice q.a1 N.rc.length q.c1, .slice q.a2 N.body.length q.c2])], itemE.res N q, itemE.ress s.items qs, [Res.cells (w.heap.size + 1 + 1) [.int .i64 0, .slice none 0 0]], [Res.cells (w.heap.size + 1) [.string m.fu, .string m.fd, .slice pm.a1 m.rc.length pm.c1, .slice pm.a2 m.body.length pm.c2]], [Res.cells (w.heap.size) [.int .i64 s.last, .slice ps.a s.items.length ps.c]]]) := ⟨S8.out.bring 3 rfl⟩
      have oc0 := (S9.out.cellsM 0 rfl).c 1 _ rfl
      have of0 := (S9.out.cellsM 0 rfl).f 1 (by simp)
      have S10 : Seal (Pt w (u2.setCell ⟨w2.heap.size, 1, none⟩ (.slice bo3 (s.items.length + 1) c4)) [[Res.cells (w2.heap.size) [.int .i64 (s.last + 1), .slice bo3 (s.items.length + 1) c4]], [Res.row 43 5 (.slice bo3 (s.items.length + 1) c4) (s.items.length + 1) (itemE.all s.items qs ++ [.int .i64 N.id, .string N.fu, .string N.fd, .slice q.a1 N.rc.length q.c1, .slice q.a2 N.body.length q.c2])], [Res.row 43 5 (.slice (some ⟨w6.heap.size, 0, none⟩) 1 1) (1) ([.int .i64 N.id, .string N.fu, .string N.fd, .slice q.a1 N.rc.length q.c1, .slice q.a2 N.body.length q.c2])], itemE.res N q, itemE.ress s.items qs, [Res.cells (w.heap.size + 1 + 1) [.int .i64 0, .slice none 0 0]], [Res.cells (w.heap.size + 1) [.string m.fu, .string m.fd, .slice pm.a1 m.rc.length pm.c1, .slice pm.a2 m.body.length pm.c2]], [Res.cells (w.heap.size) [.int .i64 s.last, .slice ps.a s.items.length ps.c]]]) := ⟨(S9.out).set 1 (.slice bo3 (s.items.length + 1) c4) (by simp)⟩
      go_simp
      refine hK.out _ _ ⟨(S10.out.cellsM 0 rfl).c 0 _ rfl, (S10.out.cellsM 6 rfl).c 0 _ rfl, (S10.out.cellsM 6 rfl).c 1 _ rfl, (S10.out.cellsM 6 rfl).c 2 _ rfl, (S10.out.cellsM 6 rfl).c 3 _ rfl⟩ (fun hHeld => ?_)
      clear hK K
      try simp only [Act.put, List.getElem_toArray, List.getElem_cons_succ, List.getElem_cons_zero, List.setIfInBounds_toArray, List.set_cons_zero, List.set_cons_succ]
      clear oc0 of0
      refine wpAnyH_done (by kernel_rfl) ?_ _
      go_wp2_with fail
      go_meet
      exact ⟨bo3, c4, q, (Pt.prefix (As := [[Res.cells (w2.heap.size) [.int .i64 (s.last + 1), .slice bo3 (s.items.length + 1) c4]], [Res.row 43 5 (.slice bo3 (s.items.length + 1) c4) (s.items.length + 1) (itemE.all s.items qs ++ [.int .i64 N.id, .string N.fu, .string N.fd, .slice q.a1 N.rc.length q.c1, .slice q.a2 N.body.length q.c2])], itemE.ress s.items qs, itemE.res N q, [Res.cells (w.heap.size + 1 + 1) [.int .i64 0, .slice none 0 0]], [Res.cells (w.heap.size + 1) [.string m.fu, .string m.fd, .slice pm.a1 m.rc.length pm.c1, .slice pm.a2 m.body.length pm.c2]], [Res.cells (w.heap.size) [.int .i64 s.last, .slice ps.a s.items.length ps.c]]]) (Bs := [[Res.row 43 5 (.slice (some ⟨w6.heap.size, 0, none⟩) 1 1) (1) ([.int .i64 N.id, .string N.fu, .string N.fd, .slice q.a1 N.rc.length q.c1, .slice q.a2 N.body.length q.c2])]]) (Pt.bring ((Pt.bring ((Pt.bring ((Pt.bring ((Pt.bring ((Pt.bring ((Pt.bring (S10.out) 7 rfl)) 7 rfl)) 7 rfl)) 6 rfl)) 7 rfl)) 6 rfl)) 6 rfl))⟩
    · try dsimp only at hHeld
      go_split_ands
      go_simp
      refine (CN.out _ S5.out.below).mono ?_
      rintro e w6 ⟨q, rfl, hk⟩
      have S6 : Seal (Pt w w6 [itemE.res N q, [Res.cells (w2.heap.size) [.int .i64 (s.last + 1), .slice bo s.items.length c]], [Res.row 43 5 (.slice bo s.items.length c) (s.items.length) (itemE.all s.items qs)], itemE.ress s.items qs, [Res.cells (w.heap.size + 1 + 1) [.int .i64 0, .slice none 0 0]], [Res.cells (w.heap.size + 1) [.string m.fu, .string m.fd, .slice pm.a1 m.rc.length pm.c1, .slice pm.a2 m.body.length pm.c2]], [Res.cells (w.heap.size) [.int .i64 s.last, .slice ps.a s.items.length ps.c]]]) := ⟨Pt.join S5.out hk⟩
      clear hk
      refine hK.out _ _ ⟨(S6.out.cellsM 1 rfl).c 0 _ rfl, (S6.out.cellsM 5 rfl).c 0 _ rfl, (S6.out.cellsM 5 rfl).c 1 _ rfl, (S6.out.cellsM 5 rfl).c 2 _ rfl, (S6.out.cellsM 5 rfl).c 3 _ rfl⟩ (fun hHeld => ?_)
      clear hK K
      try simp only [Act.put, List.getElem_toArray, List.getElem_cons_succ, List.getElem_cons_zero, List.setIfInBounds_toArray, List.set_cons_zero, List.set_cons_succ]
      refine wpAnyH_ready (rs := [1, 7]) (by kernel_rfl) (by simp) ?_
      refine AllReadyH.cons rfl (fun K hK => ?_) (AllReadyH.cons rfl (fun K hK => ?_) AllReadyH.nil)
      · have ol0 := (S6.out.cellsM 1 rfl).c 1 _ rfl
        go_simp
        refine hK.out _ _ ⟨(S6.out.cellsM 1 rfl).c 0 _ rfl, (S6.out.cellsM 5 rfl).c 0 _ rfl, (S6.out.cellsM 5 rfl).c 1 _ rfl, (S6.out.cellsM 5 rfl).c 2 _ rfl, (S6.out.cellsM 5 rfl).c 3 _ rfl⟩ (fun hHeld => ?_)
        clear hK K
        try simp only [Act.put, List.getElem_toArray, List.getElem_cons_succ, List.getElem_cons_zero, List.setIfInBounds_toArray, List.set_cons_zero, List.set_cons_succ]
        clear ol0
        refine wpAnyH_ready (rs := [7]) (by kernel_rfl) (by simp) ?_
        refine AllReadyH.cons rfl (fun K hK => ?_) AllReadyH.nil
        have S7 : Seal (Pt w (w6.alloc (.cells #[.int .i64 N.id, .string N.fu, .string N.fd, .slice q.a1 N.rc.length q.c1, .slice q.a2 N.body.length q.c2] 43)) [[Res.row 43 5 (.slice (some ⟨w6.heap.size, 0, none⟩) 1 1) (1) ([.int .i64 N.id, .string N.fu, .string N.fd, .slice q.a1 N.rc.length q.c1, .slice q.a2 N.body.length q.c2])], itemE.res N q, [Res.cells (w2.heap.size) [.int .i64 (s.last + 1), .slice bo s.items.length c]], [Res.row 43 5 (.slice bo s.items.length c) (s.items.length) (itemE.all s.items qs)], itemE.ress s.items qs, [Res.cells (w.heap.size + 1 + 1) [.int .i64 0, .slice none 0 0]], [Res.cells (w.heap.size + 1) [.string m.fu, .string m.fd, .slice pm.a1 m.rc.length pm.c1, .slice pm.a2 m.body.length pm.c2]], [Res.cells (w.heap.size) [.int .i64 s.last, .slice ps.a s.items.length ps.c]]]) := ⟨Pt.built S6.out #[.int .i64 N.id, .string N.fu, .string N.fd, .slice q.a1 N.rc.length q.c1, .slice q.a2 N.body.length q.c2] 43 5 1 (by decide) rfl⟩
        go_simp
        refine hK.out _ _ ⟨(S7.out.cellsM 2 rfl).c 0 _ rfl, (S7.out.cellsM 6 rfl).c 0 _ rfl, (S7.out.cellsM 6 rfl).c 1 _ rfl, (S7.out.cellsM 6 rfl).c 2 _ rfl, (S7.out.cellsM 6 rfl).c 3 _ rfl⟩ (fun hHeld => ?_)
        clear hK K
        try simp only [Act.put, List.getElem_toArray, List.getElem_cons_succ, List.getElem_cons_zero, List.setIfInBounds_toArray, List.set_cons_zero, List.set_cons_succ]
        refine wpAnyH_ready (rs := [8]) (by kernel_rfl) (by simp) ?_
        refine AllReadyH.cons rfl (fun K hK => ?_) AllReadyH.nil
        have SH7 : Seal (Pt w (w6.alloc (.cells #[.int .i64 N.id, .string N.fu, .string N.fd, .slice q.a1 N.rc.length q.c1, .slice q.a2 N.body.length q.c2] 43)) [[Res.row 43 5 (.slice bo s.items.length c) (s.items.length) (itemE.all s.items qs)], [Res.row 43 5 (.slice (some ⟨w6.heap.size, 0, none⟩) 1 1) (1) ([.int .i64 N.id, .string N.fu, .string N.fd, .slice q.a1 N.rc.length q.c1, .slice q.a2 N.body.length q.c2])], itemE.res N q, [Res.cells (w2.heap.size) [.int .i64 (s.last + 1), .slice bo s.items.length c]], itemE.ress s.items qs, [Res.cells (w.heap.size + 1 + 1) [.int .i64 0, .slice none 0 0]], [Res.cells (w.heap.size + 1) [.string m.fu, .string m.fd, .slice pm.a1 m.rc.length pm.c1, .slice pm.a2 m.body.length pm.c2]], [Res.cells (w.heap.size) [.int .i64 s.last, .slice ps.a s.items.length ps.c]]]) := ⟨S7.out.bring 3 rfl⟩
        have OW7 : Seal _ := ⟨Pt.row1 SH7.out 0 rfl⟩
        have SR7 : Seal _ := ⟨(Pt.row1 S7.out 0 rfl)⟩
        refine step_append_any rfl _ _ 23 rfl 0 43 iItem (.agg #[.int .i64 0, .string ByteArray.empty, .string ByteArray.empty, .slice none 0 0, .slice none 0 0]) 5 88 Tryz.underlying23 hiItem hz0Item hz1Item hz2Item rfl (by decide) (.slice bo s.items.length c) (s.items.length) (itemE.all s.items qs) (by rfl) OW7.out ((some ⟨w6.heap.size, 0, none⟩)) (1) (1) ([.int .i64 N.id, .string N.fu, .string N.fd, .slice q.a1 N.rc.length q.c1, .slice q.a2 N.body.length q.c2]) (by rfl) SR7.out (items_one N q) (by unfold maxLen; omega) (by omega) (Nat.zero_le _) ?_
        intro v5 u6 hown hg hat
        have S8 : Seal (Pt w u6 [[Res.row 43 5 (v5) (s.items.length + 1) (itemE.all s.items qs ++ [.int .i64 N.id, .string N.fu, .string N.fd, .slice q.a1 N.rc.length q.c1, .slice q.a2 N.body.length q.c2])], [Res.row 43 5 (.slice (some ⟨w6.heap.size, 0, none⟩) 1 1) (1) ([.int .i64 N.id, .string N.fu, .string N.fd, .slice q.a1 N.rc.length q.c1, .slice q.a2 N.body.length q.c2])], itemE.res N q, [Res.cells (w2.heap.size) [.int .i64 (s.last + 1), .slice bo s.items.length c]], itemE.ress s.items qs, [Res.cells (w.heap.size + 1 + 1) [.int .i64 0, .slice none 0 0]], [Res.cells (w.heap.size + 1) [.string m.fu, .string m.fd, .slice pm.a1 m.rc.length pm.c1, .slice pm.a2 m.body.length pm.c2]], [Res.cells (w.heap.size) [.int .i64 s.last, .slice ps.a s.items.length ps.c]]]) := ⟨Pt.app SH7.out hown hg (by simpa using hat)⟩
        obtain ⟨bo7, c8, rfl, _⟩ := row_value (Pt.row1 S8.out 0 rfl)
        clear hown hg hat SH7 OW7 SR7
        refine hK.out _ _ ⟨(S8.out.cellsM 3 rfl).c 0 _ rfl, (S8.out.cellsM 6 rfl).c 0 _ rfl, (S8.out.cellsM 6 rfl).c 1 _ rfl, (S8.out.cellsM 6 rfl).c 2 _ rfl, (S8.out.cellsM 6 rfl).c 3 _ rfl⟩ (fun hHeld => ?_)
        clear hK K
        try simp only [Act.put, List.getElem_toArray, List.getElem_cons_succ, List.getElem_cons_zero, List.setIfInBounds_toArray, List.set_cons_zero, List.set_cons_succ]
        refine tkH 9 (by assumption) (h := ?_)
        refine wpAnyH_ready (rs := [10]) (by kernel_rfl) (by simp) ?_
        refine AllReadyH.cons rfl (fun K hK => ?_) AllReadyH.nil
        have S9 : Seal (Pt w u6 [[Res.cells (w2.heap.size) [.int .i64 (s.last + 1), .slice bo s.items.length c]], [Res.row 43 5 (.slice bo7 (s.items.length + 1) c8) (s.items.length + 1) (itemE.all s.items qs ++ [.int .i64 N.id, .string N.fu, .string N.fd, .slice q.a1 N.rc.length q.c1, .slice q.a2 N.body.length q.c2])], [Res.row 43 5 (.slice (some ⟨w6.heap.size, 0, none⟩) 1 1) (1) ([.int .i64 N.id, .string N.fu, .string N.fd, .slice q.a1 N.rc.length q.c1, .slice q.a2 N.body.length q.c2])], itemE.res N q, itemE.ress s.items qs, [Res.cells (w.heap.size + 1 + 1) [.int .i64 0, .slice none 0 0]], [Res.cells (w.heap.size + 1) [.string m.fu, .string m.fd, .slice pm.a1 m.rc.length pm.c1, .slice pm.a2 m.body.length pm.c2]], [Res.cells (w.heap.size) [.int .i64 s.last, .slice ps.a s.items.length ps.c]]]) := ⟨S8.out.bring 3 rfl⟩
        have oc0 := (S9.out.cellsM 0 rfl).c 1 _ rfl
        have of0 := (S9.out.cellsM 0 rfl).f 1 (by simp)
        have S10 : Seal (Pt w (u6.setCell ⟨w2.heap.size, 1, none⟩ (.slice bo7 (s.items.length + 1) c8)) [[Res.cells (w2.heap.size) [.int .i64 (s.last + 1), .slice bo7 (s.items.length + 1) c8]], [Res.row 43 5 (.slice bo7 (s.items.length + 1) c8) (s.items.length + 1) (itemE.all s.items qs ++ [.int .i64 N.id, .string N.fu, .string N.fd, .slice q.a1 N.rc.length q.c1, .slice q.a2 N.body.length q.c2])], [Res.row 43 5 (.slice (some ⟨w6.heap.size, 0, none⟩) 1 1) (1) ([.int .i64 N.id, .string N.fu, .string N.fd, .slice q.a1 N.rc.length q.c1, .slice q.a2 N.body.length q.c2])], itemE.res N q, itemE.ress s.items qs, [Res.cells (w.heap.size + 1 + 1) [.int .i64 0, .slice none 0 0]], [Res.cells (w.heap.size + 1) [.string m.fu, .string m.fd, .slice pm.a1 m.rc.length pm.c1, .slice pm.a2 m.body.length pm.c2]], [Res.cells (w.heap.size) [.int .i64 s.last, .slice ps.a s.items.length ps.c]]]) := ⟨(S9.out).set 1 (.slice bo7 (s.items.length + 1) c8) (by simp)⟩
        go_simp
        refine hK.out _ _ ⟨(S10.out.cellsM 0 rfl).c 0 _ rfl, (S10.out.cellsM 6 rfl).c 0 _ rfl, (S10.out.cellsM 6 rfl).c 1 _ rfl, (S10.out.cellsM 6 rfl).c 2 _ rfl, (S10.out.cellsM 6 rfl).c 3 _ rfl⟩ (fun hHeld => ?_)
        clear hK K
        try simp only [Act.put, List.getElem_toArray, List.getElem_cons_succ, List.getElem_cons_zero, List.setIfInBounds_toArray, List.set_cons_zero, List.set_cons_succ]
        clear oc0 of0
        refine wpAnyH_done (by kernel_rfl) ?_ _
        go_wp2_with fail
        go_meet
        exact ⟨bo7, c8, q, (Pt.prefix (As := [[Res.cells (w2.heap.size) [.int .i64 (s.last + 1), .slice bo7 (s.items.length + 1) c8]], [Res.row 43 5 (.slice bo7 (s.items.length + 1) c8) (s.items.length + 1) (itemE.all s.items qs ++ [.int .i64 N.id, .string N.fu, .string N.fd, .slice q.a1 N.rc.length q.c1, .slice q.a2 N.body.length q.c2])], itemE.ress s.items qs, itemE.res N q, [Res.cells (w.heap.size + 1 + 1) [.int .i64 0, .slice none 0 0]], [Res.cells (w.heap.size + 1) [.string m.fu, .string m.fd, .slice pm.a1 m.rc.length pm.c1, .slice pm.a2 m.body.length pm.c2]], [Res.cells (w.heap.size) [.int .i64 s.last, .slice ps.a s.items.length ps.c]]]) (Bs := [[Res.row 43 5 (.slice (some ⟨w6.heap.size, 0, none⟩) 1 1) (1) ([.int .i64 N.id, .string N.fu, .string N.fd, .slice q.a1 N.rc.length q.c1, .slice q.a2 N.body.length q.c2])]]) (Pt.bring ((Pt.bring ((Pt.bring ((Pt.bring ((Pt.bring ((Pt.bring ((Pt.bring (S10.out) 7 rfl)) 7 rfl)) 7 rfl)) 6 rfl)) 7 rfl)) 6 rfl)) 6 rfl))⟩
      · have S7 : Seal (Pt w (w6.alloc (.cells #[.int .i64 N.id, .string N.fu, .string N.fd, .slice q.a1 N.rc.length q.c1, .slice q.a2 N.body.length q.c2] 43)) [[Res.row 43 5 (.slice (some ⟨w6.heap.size, 0, none⟩) 1 1) (1) ([.int .i64 N.id, .string N.fu, .string N.fd, .slice q.a1 N.rc.length q.c1, .slice q.a2 N.body.length q.c2])], itemE.res N q, [Res.cells (w2.heap.size) [.int .i64 (s.last + 1), .slice bo s.items.length c]], [Res.row 43 5 (.slice bo s.items.length c) (s.items.length) (itemE.all s.items qs)], itemE.ress s.items qs, [Res.cells (w.heap.size + 1 + 1) [.int .i64 0, .slice none 0 0]], [Res.cells (w.heap.size + 1) [.string m.fu, .string m.fd, .slice pm.a1 m.rc.length pm.c1, .slice pm.a2 m.body.length pm.c2]], [Res.cells (w.heap.size) [.int .i64 s.last, .slice ps.a s.items.length ps.c]]]) := ⟨Pt.built S6.out #[.int .i64 N.id, .string N.fu, .string N.fd, .slice q.a1 N.rc.length q.c1, .slice q.a2 N.body.length q.c2] 43 5 1 (by decide) rfl⟩
        go_simp
        refine hK.out _ _ ⟨(S7.out.cellsM 2 rfl).c 0 _ rfl, (S7.out.cellsM 6 rfl).c 0 _ rfl, (S7.out.cellsM 6 rfl).c 1 _ rfl, (S7.out.cellsM 6 rfl).c 2 _ rfl, (S7.out.cellsM 6 rfl).c 3 _ rfl⟩ (fun hHeld => ?_)
        clear hK K
        try simp only [Act.put, List.getElem_toArray, List.getElem_cons_succ, List.getElem_cons_zero, List.setIfInBounds_toArray, List.set_cons_zero, List.set_cons_succ]
        refine wpAnyH_ready (rs := [1]) (by kernel_rfl) (by simp) ?_
        refine AllReadyH.cons rfl (fun K hK => ?_) AllReadyH.nil
        have ol0 := (S7.out.cellsM 2 rfl).c 1 _ rfl
        go_simp
        refine hK.out _ _ ⟨(S7.out.cellsM 2 rfl).c 0 _ rfl, (S7.out.cellsM 6 rfl).c 0 _ rfl, (S7.out.cellsM 6 rfl).c 1 _ rfl, (S7.out.cellsM 6 rfl).c 2 _ rfl, (S7.out.cellsM 6 rfl).c 3 _ rfl⟩ (fun hHeld => ?_)
        clear hK K
        try simp only [Act.put, List.getElem_toArray, List.getElem_cons_succ, List.getElem_cons_zero, List.setIfInBounds_toArray, List.set_cons_zero, List.set_cons_succ]
        clear ol0
        refine wpAnyH_ready (rs := [8]) (by kernel_rfl) (by simp) ?_
        refine AllReadyH.cons rfl (fun K hK => ?_) AllReadyH.nil
        have SH7 : Seal (Pt w (w6.alloc (.cells #[.int .i64 N.id, .string N.fu, .string N.fd, .slice q.a1 N.rc.length q.c1, .slice q.a2 N.body.length q.c2] 43)) [[Res.row 43 5 (.slice bo s.items.length c) (s.items.length) (itemE.all s.items qs)], [Res.row 43 5 (.slice (some ⟨w6.heap.size, 0, none⟩) 1 1) (1) ([.int .i64 N.id, .string N.fu, .string N.fd, .slice q.a1 N.rc.length q.c1, .slice q.a2 N.body.length q.c2])], itemE.res N q, [Res.cells (w2.heap.size) [.int .i64 (s.last + 1), .slice bo s.items.length c]], itemE.ress s.items qs, [Res.cells (w.heap.size + 1 + 1) [.int .i64 0, .slice none 0 0]], [Res.cells (w.heap.size + 1) [.string m.fu, .string m.fd, .slice pm.a1 m.rc.length pm.c1, .slice pm.a2 m.body.length pm.c2]], [Res.cells (w.heap.size) [.int .i64 s.last, .slice ps.a s.items.length ps.c]]]) := ⟨S7.out.bring 3 rfl⟩
        have OW7 : Seal _ := ⟨Pt.row1 SH7.out 0 rfl⟩
        have SR7 : Seal _ := ⟨(Pt.row1 S7.out 0 rfl)⟩
        refine step_append_any rfl _ _ 23 rfl 0 43 iItem (.agg #[.int .i64 0, .string ByteArray.empty, .string ByteArray.empty, .slice none 0 0, .slice none 0 0]) 5 88 Tryz.underlying23 hiItem hz0Item hz1Item hz2Item rfl (by decide) (.slice bo s.items.length c) (s.items.length) (itemE.all s.items qs) (by rfl) OW7.out ((some ⟨w6.heap.size, 0, none⟩)) (1) (1) ([.int .i64 N.id, .string N.fu, .string N.fd, .slice q.a1 N.rc.length q.c1, .slice q.a2 N.body.length q.c2]) (by rfl) SR7.out (items_one N q) (by unfold maxLen; omega) (by omega) (Nat.zero_le _) ?_
        intro v9 u10 hown hg hat
        have S8 : Seal (Pt w u10 [[Res.row 43 5 (v9) (s.items.length + 1) (itemE.all s.items qs ++ [.int .i64 N.id, .string N.fu, .string N.fd, .slice q.a1 N.rc.length q.c1, .slice q.a2 N.body.length q.c2])], [Res.row 43 5 (.slice (some ⟨w6.heap.size, 0, none⟩) 1 1) (1) ([.int .i64 N.id, .string N.fu, .string N.fd, .slice q.a1 N.rc.length q.c1, .slice q.a2 N.body.length q.c2])], itemE.res N q, [Res.cells (w2.heap.size) [.int .i64 (s.last + 1), .slice bo s.items.length c]], itemE.ress s.items qs, [Res.cells (w.heap.size + 1 + 1) [.int .i64 0, .slice none 0 0]], [Res.cells (w.heap.size + 1) [.string m.fu, .string m.fd, .slice pm.a1 m.rc.length pm.c1, .slice pm.a2 m.body.length pm.c2]], [Res.cells (w.heap.size) [.int .i64 s.last, .slice ps.a s.items.length ps.c]]]) := ⟨Pt.app SH7.out hown hg (by simpa using hat)⟩
        obtain ⟨bo11, c12, rfl, _⟩ := row_value (Pt.row1 S8.out 0 rfl)
        clear hown hg hat SH7 OW7 SR7
        refine hK.out _ _ ⟨(S8.out.cellsM 3 rfl).c 0 _ rfl, (S8.out.cellsM 6 rfl).c 0 _ rfl, (S8.out.cellsM 6 rfl).c 1 _ rfl, (S8.out.cellsM 6 rfl).c 2 _ rfl, (S8.out.cellsM 6 rfl).c 3 _ rfl⟩ (fun hHeld => ?_)
        clear hK K
        try simp only [Act.put, List.getElem_toArray, List.getElem_cons_succ, List.getElem_cons_zero, List.setIfInBounds_toArray, List.set_cons_zero, List.set_cons_succ]
        refine tkH 9 (by assumption) (h := ?_)
        refine wpAnyH_ready (rs := [10]) (by kernel_rfl) (by simp) ?_
        refine AllReadyH.cons rfl (fun K hK => ?_) AllReadyH.nil
        have S9 : Seal (Pt w u10 [[Res.cells (w2.heap.size) [.int .i64 (s.last + 1), .slice bo s.items.length c]], [Res.row 43 5 (.slice bo11 (s.items.length + 1) c12) (s.items.length + 1) (itemE.all s.items qs ++ [.int .i64 N.id, .string N.fu, .string N.fd, .slice q.a1 N.rc.length q.c1, .slice q.a2 N.body.length q.c2])], [Res.row 43 5 (.slice (some ⟨w6.heap.size, 0, none⟩) 1 1) (1) ([.int .i64 N.id, .string N.fu, .string N.fd, .slice q.a1 N.rc.length q.c1, .slice q.a2 N.body.length q.c2])], itemE.res N q, itemE.ress s.items qs, [Res.cells (w.heap.size + 1 + 1) [.int .i64 0, .slice none 0 0]], [Res.cells (w.heap.size + 1) [.string m.fu, .string m.fd, .slice pm.a1 m.rc.length pm.c1, .slice pm.a2 m.body.length pm.c2]], [Res.cells (w.heap.size) [.int .i64 s.last, .slice ps.a s.items.length ps.c]]]) := ⟨S8.out.bring 3 rfl⟩
        have oc0 := (S9.out.cellsM 0 rfl).c 1 _ rfl
        have of0 := (S9.out.cellsM 0 rfl).f 1 (by simp)
        have S10 : Seal (Pt w (u10.setCell ⟨w2.heap.size, 1, none⟩ (.slice bo11 (s.items.length + 1) c12)) [[Res.cells (w2.heap.size) [.int .i64 (s.last + 1), .slice bo11 (s.items.length + 1) c12]], [Res.row 43 5 (.slice bo11 (s.items.length + 1) c12) (s.items.length + 1) (itemE.all s.items qs ++ [.int .i64 N.id, .string N.fu, .string N.fd, .slice q.a1 N.rc.length q.c1, .slice q.a2 N.body.length q.c2])], [Res.row 43 5 (.slice (some ⟨w6.heap.size, 0, none⟩) 1 1) (1) ([.int .i64 N.id, .string N.fu, .string N.fd, .slice q.a1 N.rc.length q.c1, .slice q.a2 N.body.length q.c2])], itemE.res N q, itemE.ress s.items qs, [Res.cells (w.heap.size + 1 + 1) [.int .i64 0, .slice none 0 0]], [Res.cells (w.heap.size + 1) [.string m.fu, .string m.fd, .slice pm.a1 m.rc.length pm.c1, .slice pm.a2 m.body.length pm.c2]], [Res.cells (w.heap.size) [.int .i64 s.last, .slice ps.a s.items.length ps.c]]]) := ⟨(S9.out).set 1 (.slice bo11 (s.items.length + 1) c12) (by simp)⟩
        go_simp
        refine hK.out _ _ ⟨(S10.out.cellsM 0 rfl).c 0 _ rfl, (S10.out.cellsM 6 rfl).c 0 _ rfl, (S10.out.cellsM 6 rfl).c 1 _ rfl, (S10.out.cellsM 6 rfl).c 2 _ rfl, (S10.out.cellsM 6 rfl).c 3 _ rfl⟩ (fun hHeld => ?_)
        clear hK K
        try simp only [Act.put, List.getElem_toArray, List.getElem_cons_succ, List.getElem_cons_zero, List.setIfInBounds_toArray, List.set_cons_zero, List.set_cons_succ]
        clear oc0 of0
        refine wpAnyH_done (by kernel_rfl) ?_ _
        go_wp2_with fail
        go_meet
        exact ⟨bo11, c12, q, (Pt.prefix (As := [[Res.cells (w2.heap.size) [.int .i64 (s.last + 1), .slice bo11 (s.items.length + 1) c12]], [Res.row 43 5 (.slice bo11 (s.items.length + 1) c12) (s.items.length + 1) (itemE.all s.items qs ++ [.int .i64 N.id, .string N.fu, .string N.fd, .slice q.a1 N.rc.length q.c1, .slice q.a2 N.body.length q.c2])], itemE.ress s.items qs, itemE.res N q, [Res.cells (w.heap.size + 1 + 1) [.int .i64 0, .slice none 0 0]], [Res.cells (w.heap.size + 1) [.string m.fu, .string m.fd, .slice pm.a1 m.rc.length pm.c1, .slice pm.a2 m.body.length pm.c2]], [Res.cells (w.heap.size) [.int .i64 s.last, .slice ps.a s.items.length ps.c]]]) (Bs := [[Res.row 43 5 (.slice (some ⟨w6.heap.size, 0, none⟩) 1 1) (1) ([.int .i64 N.id, .string N.fu, .string N.fd, .slice q.a1 N.rc.length q.c1, .slice q.a2 N.body.length q.c2])]]) (Pt.bring ((Pt.bring ((Pt.bring ((Pt.bring ((Pt.bring ((Pt.bring ((Pt.bring (S10.out) 7 rfl)) 7 rfl)) 7 rfl)) 6 rfl)) 7 rfl)) 6 rfl)) 6 rfl))⟩
  case rest =>
  obtain ⟨b2, c2, q, hS⟩ := hcut
  have S6 : Seal (Pt w wc [[Res.cells (w2.heap.size) [.int .i64 (s.last + 1), .slice b2 (s.items.length + 1) c2]], [Res.row 43 5 (.slice b2 (s.items.length + 1) c2) (s.items.length + 1) (itemE.all s.items qs ++ [.int .i64 N.id, .string N.fu, .string N.fd, .slice q.a1 N.rc.length q.c1, .slice q.a2 N.body.length q.c2])], itemE.ress s.items qs, itemE.res N q, [Res.cells (w.heap.size + 1 + 1) [.int .i64 0, .slice none 0 0]], [Res.cells (w.heap.size + 1) [.string m.fu, .string m.fd, .slice pm.a1 m.rc.length pm.c1, .slice pm.a2 m.body.length pm.c2]], [Res.cells (w.heap.size) [.int .i64 s.last, .slice ps.a s.items.length ps.c]]]) := ⟨hS⟩
  clear hS S4
  generalize wc = w6 at *
  have g0 := (S6.out.cellsM 0 rfl).c 0 _ rfl
  have g1 := (S6.out.cellsM 0 rfl).c 1 _ rfl
  have r0 := (S6.out.cellsM 4 rfl).c 0 _ rfl
  have r1 := (S6.out.cellsM 4 rfl).c 1 _ rfl
  have f0 := (S6.out.cellsM 4 rfl).f 0 (by simp)
  have f1 := (S6.out.cellsM 4 rfl).f 1 (by simp)
  have e9 : (addD s m now).items.length = s.items.length + 1 := by simp [addD]
  have HE9 : Seal _ := ⟨e9⟩
  clear e9
  go_wp2
  refine bodyPost_ret (v := .tuple #[.agg #[.int .i64 (s.last + 1), .slice b2 (s.items.length + 1) c2], .bool true]) (by simp [results, Tryz.results16, go_sem, r0, r1]) rfl ⟨⟨b2, c2, qs ++ [q]⟩, ret_sb HE.out (by show _ = (#[Value.int .i64 (s.last + 1), Value.slice b2 (addD s m now).items.length c2] : Array Value); rw [HE9.out]), by rw [HE.out]; show (qs ++ [q]).length = (addD s m now).items.length; rw [HE9.out, List.length_append, HQ.out]; rfl, ?_⟩
  rw [HE.out]
  have s4 := ((S6.out.bring 4 rfl).set 0 (.int .i64 (s.last + 1)) (by simp)).set 1 (.slice b2 (s.items.length + 1) c2) (by simp)
  have s5 := (((s4.tail).bring 3 rfl).bring 3 rfl).bring 3 rfl
  have s6 : Pt w _ [[Res.row 43 5 (.slice b2 (s.items.length + 1) c2) (s.items.length + 1) (itemE.all s.items qs ++ [.int .i64 N.id, .string N.fu, .string N.fd, .slice q.a1 N.rc.length q.c1, .slice q.a2 N.body.length q.c2])], itemE.ress s.items qs, itemE.res N q] := Pt.prefix (As := [[Res.row 43 5 (.slice b2 (s.items.length + 1) c2) (s.items.length + 1) (itemE.all s.items qs ++ [.int .i64 N.id, .string N.fu, .string N.fd, .slice q.a1 N.rc.length q.c1, .slice q.a2 N.body.length q.c2])], itemE.ress s.items qs, itemE.res N q]) (Bs := [[Res.cells (w2.heap.size) [.int .i64 (s.last + 1), .slice b2 (s.items.length + 1) c2]], [Res.cells (w.heap.size + 1) [.string m.fu, .string m.fd, .slice pm.a1 m.rc.length pm.c1, .slice pm.a2 m.body.length pm.c2]], [Res.cells (w.heap.size) [.int .i64 s.last, .slice ps.a s.items.length ps.c]]]) s5
  have e1 : spoolKR (addD s m now) ⟨b2, c2, qs ++ [q]⟩ = Res.row 43 5 (.slice b2 (s.items.length + 1) c2) (s.items.length + 1) (itemE.all s.items qs ++ [.int .i64 N.id, .string N.fu, .string N.fd, .slice q.a1 N.rc.length q.c1, .slice q.a2 N.body.length q.c2]) :: (itemE.ress s.items qs ++ (itemE.res N q ++ [])) := by
    show itemsR b2 c2 (s.items ++ [newItemD (s.last + 1) m now]) (qs ++ [q]) = _
    unfold itemsR Elem.row
    rw [HNN.out, itemE.all_snoc HQ.out, itemE.ress_snoc HQ.out, List.length_append, List.length_singleton, List.append_nil]
    rfl
  show St w _ (spoolKR (addD s m now) ⟨b2, c2, qs ++ [q]⟩)
  rw [e1]
  exact s6
end Go.Proofs.YtcaknjdolfheaaaGreatDoor
