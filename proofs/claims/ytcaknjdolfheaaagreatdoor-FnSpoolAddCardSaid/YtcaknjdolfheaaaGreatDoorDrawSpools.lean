/- PlainSpoolFn, PlainDrawSpool, DrawSpool, DrawAnySpool, DrawOf. -/
import Derived.Test.YtcaknjdolfheaaaGreatDoorTk
import Derived.Test.YtcaknjdolfheaaaGreatDoorSpoolLates
import Derived.Test.YtcaknjdolfheaaaGreatDoorSpoolDoneS
import Derived.Test.YtcaknjdolfheaaaGreatDoorSpoolDue
import Derived.Test.YtcaknjdolfheaaaGreatDoorDrawAnyMail
import Derived.Test.YtcaknjdolfheaaaGreatDoorOne
import Derived.Test.YtcaknjdolfheaaaGreatDoorSpoolCopies
import Derived.Deep.DeepCutAuto
namespace Go.Proofs.YtcaknjdolfheaaaGreatDoor
open Go

/-! ### what a valid spool is -/
theorem ascB_iff (last p : Int) (xs : List ItemD) : ascB last p xs = true ↔ (∀ i ∈ xs.map ItemD.id, p < i ∧ i ≤ last) ∧ (xs.map ItemD.id).Pairwise (· < ·) := by
  induction xs generalizing p with
  | nil => simp [ascB]
  | cons x xs ih =>
    unfold ascB
    rw [Bool.and_eq_true, decide_eq_true_eq, ih, List.map_cons, List.pairwise_cons]
    constructor
    · rintro ⟨h1, h2, h3⟩
      refine ⟨fun i hi => ?_, fun i hi => (h2 i hi).1, h3⟩
      rcases List.mem_cons.1 hi with rfl | hi
      · exact h1
      · have := h2 i hi; omega
    · rintro ⟨h1, h2, h3⟩
      exact ⟨h1 _ List.mem_cons_self, fun i hi => ⟨h2 i hi, (h1 i (List.mem_cons_of_mem _ hi)).2⟩, h3⟩
structure SpoolG (s : SpoolD) : Prop where
  last : 0 ≤ s.last ∧ s.last ≤ 999
  len : s.items.length ≤ 10
  ok : ∀ x ∈ s.items, itemB x = true
  ids : ∀ i ∈ s.items.map ItemD.id, 0 < i ∧ i ≤ s.last
  asc : (s.items.map ItemD.id).Pairwise (· < ·)
theorem spoolG_iff (s : SpoolD) : spoolB s = true ↔ SpoolG s := by
  unfold spoolB
  rw [Bool.and_eq_true, Bool.and_eq_true, Bool.and_eq_true, decide_eq_true_eq, decide_eq_true_eq, List.all_eq_true, ascB_iff]
  exact ⟨fun h => ⟨h.1, h.2.1, h.2.2.1, h.2.2.2.1, h.2.2.2.2⟩, fun h => ⟨h.last, h.len, h.ok, h.ids, h.asc⟩⟩
structure ItemG (x : ItemD) : Prop where
  snd : senderB x.fu x.fd = true
  len : 1 ≤ x.rc.length ∧ x.rc.length ≤ 4
  prs : ∀ r ∈ x.rc, addrB r.u r.d = true
  nd : (x.rc.map rcptPair).Nodup
  body : bodyB x.body = true
  tr : ∀ r ∈ x.rc, tryB r = true
theorem itemG_iff (x : ItemD) : itemB x = true ↔ ItemG x := by
  unfold itemB mailB toB
  simp only [Bool.and_eq_true, decide_eq_true_eq, List.all_eq_true, List.length_map]
  constructor
  · rintro ⟨⟨h1, ⟨h2, h3, h4⟩, h5⟩, h6⟩
    exact ⟨h1, h2, fun r hr => h3 _ (List.mem_map_of_mem hr), h4, h5, h6⟩
  · rintro ⟨h1, h2, h3, h4, h5, h6⟩
    refine ⟨⟨h1, ⟨h2, fun p hp => ?_, h4⟩, h5⟩, h6⟩
    obtain ⟨r, hr, rfl⟩ := List.mem_map.1 hp
    exact h3 r hr
theorem try_in {r : RcptD} (h : tryB r = true) : (0 ≤ r.tries ∧ r.tries ≤ 3) ∧ 0 ≤ r.next ∧ r.next ≤ 9999 := by
  unfold tryB at h
  rw [Bool.and_eq_true, decide_eq_true_eq, decide_eq_true_eq] at h
  exact h

/-! ### a mail is added -/
theorem addD_ok {s : SpoolD} {m : MailD} {now : Int} (h : spoolB s = true) (h1 : mayAdd s m now = true) : spoolB (addD s m now) = true := by
  have g := (spoolG_iff s).1 h
  unfold mayAdd timeB roomB inB at h1
  rw [Bool.and_eq_true, Bool.and_eq_true, Bool.and_eq_true, decide_eq_true_eq, decide_eq_true_eq, decide_eq_true_eq] at h1
  obtain ⟨hm, ht, hr, hl⟩ := h1
  have e : (addD s m now).items.map ItemD.id = s.items.map ItemD.id ++ [s.last + 1] := by
    unfold addD newItemD
    simp
  refine (spoolG_iff _).2 ⟨?_, ?_, ?_, ?_, ?_⟩
  · have := g.last
    show 0 ≤ s.last + 1 ∧ s.last + 1 ≤ 999
    omega
  · show (s.items ++ [_]).length ≤ 10
    rw [List.length_append, List.length_singleton]
    omega
  · intro x hx
    rcases List.mem_append.1 hx with hx | hx
    · exact g.ok x hx
    · rw [List.mem_singleton.1 hx]
      unfold itemB
      rw [newItem_mail, hm, Bool.true_and, List.all_eq_true]
      intro r hr
      obtain ⟨p, _, rfl⟩ := List.mem_map.1 hr
      unfold tryB newRcpt
      simp only [Bool.and_eq_true, decide_eq_true_eq]
      omega
  · intro i hi
    rw [e] at hi
    show 0 < i ∧ i ≤ s.last + 1
    have hl0 := g.last
    rcases List.mem_append.1 hi with hi | hi
    · have := g.ids i hi; omega
    · rw [List.mem_singleton.1 hi]; omega
  · rw [e, List.pairwise_append]
    refine ⟨g.asc, List.pairwise_singleton _ _, fun a ha b hb => ?_⟩
    rw [List.mem_singleton.1 hb]
    have := g.ids a ha
    omega
theorem newItem_due {i : Int} {m : MailD} {now : Int} (h : mailB m = true) : dueB now (newItemD i m now) = true := by
  unfold mailB toB at h
  simp only [Bool.and_eq_true, decide_eq_true_eq] at h
  have h0 := h.2.1.1.1
  unfold dueB newItemD
  dsimp only
  cases e : m.rc with
  | nil => rw [e] at h0; simp at h0
  | cons p ps => simp [newRcpt, rcDue]
theorem addD_due {s : SpoolD} {m : MailD} {now : Int} (h : spoolB s = true) (h1 : mayAdd s m now = true) : dueR (addD s m now) now = dueR s now ++ [s.last + 1] := by
  have hm : mailB m = true := by unfold mayAdd at h1; rw [Bool.and_eq_true] at h1; exact h1.1
  unfold dueR
  rw [if_pos h, if_pos (addD_ok h h1)]
  unfold addD
  dsimp only
  have e : [newItemD (s.last + 1) m now].filter (dueB now) = [newItemD (s.last + 1) m now] := by rw [List.filter_cons_of_pos (newItem_due hm), List.filter_nil]
  rw [List.filter_append, List.map_append, e]
  rfl
theorem sumN_app' {α : Type} (f : α → Nat) (xs ys : List α) : sumN f (xs ++ ys) = sumN f xs + sumN f ys := by
  unfold sumN
  simp
theorem addD_many {s : SpoolD} {m : MailD} {now : Int} (h : spoolB s = true) (h1 : mayAdd s m now = true) : manyR (addD s m now) = manyR s + m.rc.length := by
  unfold manyR
  rw [if_pos h, if_pos (addD_ok h h1)]
  unfold addD
  dsimp only
  rw [sumN_app']
  have : sumN rcLen [newItemD (s.last + 1) m now] = m.rc.length := by simp [sumN, rcLen, newItemD]
  rw [this]
  omega

/-! ### one has it -/
theorem doneI_ok {x : ItemD} {k : Nat} (h : itemB x = true) (hne : (doneI x k).rc ≠ []) : itemB (doneI x k) = true := by
  have g := (itemG_iff x).1 h
  have hs : (doneI x k).rc.Sublist x.rc := by
    show (x.rc.take k ++ x.rc.drop (k + 1)).Sublist x.rc
    have h1 := List.Sublist.append (List.Sublist.refl (x.rc.take k)) ((List.drop_sublist_drop_left x.rc (Nat.le_succ k)))
    rwa [List.take_append_drop] at h1
  refine (itemG_iff _).2 ⟨g.snd, ?_, fun r hr => g.prs r (hs.subset hr), g.nd.sublist (hs.map rcptPair), g.body, fun r hr => g.tr r (hs.subset hr)⟩
  have h1 := hs.length_le
  have h2 := List.length_pos_iff.2 hne
  have := g.len
  omega
theorem map_set_same {α β : Type} (f : α → β) {xs : List α} {i : Nat} {x y : α} (hx : xs[i]? = some x) (e : f y = f x) : (xs.set i y).map f = xs.map f := by
  rw [List.map_set, e]
  apply List.ext_getElem?
  intro j
  rw [List.getElem?_set]
  by_cases hj : i = j
  · subst hj
    have hi := (List.getElem?_eq_some_iff.1 hx).1
    rw [if_pos rfl, if_pos (by simpa using hi), List.getElem?_map, hx]; rfl
  · rw [if_neg hj]
theorem cut_sub {α : Type} (xs : List α) (i : Nat) : (xs.take i ++ xs.drop (i + 1)).Sublist xs := by
  have h1 := List.Sublist.append (List.Sublist.refl (xs.take i)) ((List.drop_sublist_drop_left xs (Nat.le_succ i)))
  rwa [List.take_append_drop] at h1
theorem doneS_ok {s : SpoolD} {a k : Nat} {x : ItemD} (h : spoolB s = true) (hx : s.items[a]? = some x) : spoolB (doneS s a (doneI x k)) = true := by
  have g := (spoolG_iff s).1 h
  have hxi := g.ok x (List.mem_of_getElem? hx)
  unfold doneS
  split
  · have hs := cut_sub s.items a
    refine (spoolG_iff _).2 ⟨g.last, Nat.le_trans hs.length_le g.len, fun y hy => g.ok y (hs.subset hy), fun i hi => g.ids i ((hs.map ItemD.id).subset hi), g.asc.sublist (hs.map ItemD.id)⟩
  · rename_i hne
    have e : (s.items.set a (doneI x k)).map ItemD.id = s.items.map ItemD.id := map_set_same ItemD.id hx rfl
    refine (spoolG_iff _).2 ⟨g.last, by show (s.items.set a _).length ≤ 10; rw [List.length_set]; exact g.len, fun y hy => ?_, fun i hi => g.ids i (e ▸ hi), by show ((s.items.set a _).map ItemD.id).Pairwise _; rw [e]; exact g.asc⟩
    rcases List.mem_or_eq_of_mem_set hy with hy | hy
    · exact g.ok y hy
    · rw [hy]; exact doneI_ok hxi hne
theorem doneI_len {x : ItemD} {k : Nat} {r : RcptD} (hr : x.rc[k]? = some r) : (doneI x k).rc.length + 1 = x.rc.length := by
  have hk := (List.getElem?_eq_some_iff.1 hr).1
  show (x.rc.take k ++ x.rc.drop (k + 1)).length + 1 = _
  rw [List.length_append, List.length_take, List.length_drop]
  omega
theorem sumN_at {α : Type} (f : α → Nat) {xs : List α} {i : Nat} {x : α} (hx : xs[i]? = some x) : sumN f xs = sumN f (xs.take i) + (f x + sumN f (xs.drop (i + 1))) := by
  have e := take_drop_at hx
  conv => lhs; rw [e]
  rw [sumN_app']
  simp [sumN]
theorem sumN_set {α : Type} (f : α → Nat) {xs : List α} {i : Nat} {x y : α} (hx : xs[i]? = some x) : sumN f (xs.set i y) + f x = sumN f xs + f y := by
  have hi := (List.getElem?_eq_some_iff.1 hx).1
  rw [sumN_at f hx, List.set_eq_take_append_cons_drop, if_pos hi, sumN_app']
  have : sumN f (y :: xs.drop (i + 1)) = f y + sumN f (xs.drop (i + 1)) := by simp [sumN]
  rw [this]
  omega
theorem doneS_many {s : SpoolD} {a k : Nat} {x : ItemD} {r : RcptD} (h : spoolB s = true) (hx : s.items[a]? = some x) (hr : x.rc[k]? = some r) : manyR (doneS s a (doneI x k)) = manyR s - 1 := by
  have h1 := doneI_len hr
  unfold manyR
  rw [if_pos h, if_pos (doneS_ok h hx)]
  unfold doneS
  dsimp only
  split
  · rename_i e
    rw [e] at h1
    have h2 := sumN_at rcLen hx
    rw [sumN_app']
    unfold rcLen at h2 ⊢
    simp only [List.length_nil] at h1
    omega
  · have h2 := sumN_set rcLen (y := doneI x k) hx
    have e1 : rcLen (doneI x k) + 1 = rcLen x := h1
    omega
theorem toB1_iff (u d : ByteArray) (r : RcptD) : toB1 u d r = true ↔ rcptPair r = (u, d) := by
  unfold toB1 rcptPair
  rw [Bool.and_eq_true, beq_iff_eq, beq_iff_eq]
  constructor
  · rintro ⟨h1, h2⟩
    rw [Prod.mk.injEq]
    rw [Lib.toList_data, Lib.toList_data] at h1 h2
    exact ⟨ByteArray.ext (Array.toList_inj.1 h1), ByteArray.ext (Array.toList_inj.1 h2)⟩
  · intro h
    rw [Prod.mk.injEq] at h
    rw [h.1, h.2]
    exact ⟨rfl, rfl⟩
theorem cut_without {α β : Type} (f : α → β) {xs : List α} {k : Nat} {x : α} (hn : (xs.map f).Nodup) (hx : xs[k]? = some x) : ∀ y ∈ xs.take k ++ xs.drop (k + 1), f y ≠ f x := by
  have e := take_drop_at hx
  rw [e, List.map_append, List.map_cons] at hn
  rw [List.nodup_append] at hn
  obtain ⟨_, h2, h3⟩ := hn
  rw [List.nodup_cons] at h2
  intro y hy he
  rcases List.mem_append.1 hy with hy | hy
  · exact h3 (f y) (List.mem_map_of_mem hy) (f x) List.mem_cons_self he
  · exact h2.1 (he ▸ List.mem_map_of_mem hy)
theorem findR_out {α : Type} {f : α → Bool} {xs : List α} (h : ∀ y ∈ xs, f y = false) : findR f xs = -1 := findR_none fun _ y _ hy => h y (List.mem_of_getElem? hy)
theorem findR_ids {xs ys : List ItemD} (i : Int) (e : ys.map ItemD.id = xs.map ItemD.id) : findR (idB i) ys = findR (idB i) xs := by
  have h : ∀ zs : List ItemD, findR (idB i) zs = findR (fun j => j == i) (zs.map ItemD.id) := fun zs => by
    unfold findR
    rw [List.findIdx_map, List.length_map]
    rfl
  rw [h, h, e]
theorem ids_nodup {s : SpoolD} (h : spoolB s = true) : (s.items.map ItemD.id).Nodup := ((spoolG_iff s).1 h).asc.imp fun h => by omega

/-! ### one is tried later -/
theorem lateI_ok {x : ItemD} {k : Nat} {r : RcptD} {now : Int} (h : itemB x = true) (hr : x.rc[k]? = some r) (hn : 0 ≤ now) (hm : mayLate r now = true) : itemB (lateI x k r now) = true := by
  have g := (itemG_iff x).1 h
  have e : (x.rc.set k (lateR r now)).map rcptPair = x.rc.map rcptPair := map_set_same rcptPair hr rfl
  have hrm := List.mem_of_getElem? hr
  have ht := (try_in (g.tr r hrm)).1
  refine (itemG_iff _).2 ⟨g.snd, by show 1 ≤ (x.rc.set k _).length ∧ (x.rc.set k _).length ≤ 4; rw [List.length_set]; exact g.len, fun y hy => ?_, by show ((x.rc.set k _).map rcptPair).Nodup; rw [e]; exact g.nd, g.body, fun y hy => ?_⟩
  · rcases List.mem_or_eq_of_mem_set hy with hy | hy
    · exact g.prs y hy
    · rw [hy]; exact g.prs r hrm
  · rcases List.mem_or_eq_of_mem_set hy with hy | hy
    · exact g.tr y hy
    · rw [hy, try_late ht.1 ht.2 hn]; exact hm
theorem lateD_ok {s : SpoolD} {a k : Nat} {x : ItemD} {r : RcptD} {now : Int} (h : spoolB s = true) (hx : s.items[a]? = some x) (hr : x.rc[k]? = some r) (hn : 0 ≤ now) (hm : mayLate r now = true) : spoolB (lateD s a (lateI x k r now)) = true := by
  have g := (spoolG_iff s).1 h
  have e : (s.items.set a (lateI x k r now)).map ItemD.id = s.items.map ItemD.id := map_set_same ItemD.id hx rfl
  refine (spoolG_iff _).2 ⟨g.last, by show (s.items.set a _).length ≤ 10; rw [List.length_set]; exact g.len, fun y hy => ?_, fun i hi => g.ids i (e ▸ hi), by show ((s.items.set a _).map ItemD.id).Pairwise _; rw [e]; exact g.asc⟩
  rcases List.mem_or_eq_of_mem_set hy with hy | hy
  · exact g.ok y hy
  · rw [hy]; exact lateI_ok (g.ok x (List.mem_of_getElem? hx)) hr hn hm
theorem lateD_many {s : SpoolD} {a k : Nat} {x : ItemD} {r : RcptD} {now : Int} (h : spoolB s = true) (hx : s.items[a]? = some x) (hr : x.rc[k]? = some r) (hn : 0 ≤ now) (hm : mayLate r now = true) : manyR (lateD s a (lateI x k r now)) = manyR s := by
  unfold manyR
  rw [if_pos h, if_pos (lateD_ok h hx hr hn hm)]
  have h2 := sumN_set rcLen (y := lateI x k r now) hx
  have e1 : rcLen (lateI x k r now) = rcLen x := by show (x.rc.set k _).length = _; rw [List.length_set]; rfl
  unfold lateD
  dsimp only
  omega

/-! ### what is due -/
theorem filter_sub {α : Type} {p q : α → Bool} (h : ∀ x, p x = true → q x = true) (xs : List α) : (xs.filter p).Sublist (xs.filter q) := by
  induction xs with
  | nil => exact List.Sublist.refl _
  | cons x xs ih =>
    by_cases hp : p x = true
    · rw [List.filter_cons_of_pos hp, List.filter_cons_of_pos (h x hp)]
      exact ih.cons_cons x
    · rw [List.filter_cons_of_neg hp]
      by_cases hq : q x = true
      · rw [List.filter_cons_of_pos hq]; exact ih.cons x
      · rw [List.filter_cons_of_neg hq]; exact ih
theorem due_sub (s : SpoolD) (n m : Int) (h : n ≤ m) : (dueR s n).Sublist (dueR s m) := by
  unfold dueR
  split
  · refine List.Sublist.map _ (filter_sub (fun x hx => ?_) _)
    unfold dueB at hx ⊢
    rw [List.any_eq_true] at hx ⊢
    obtain ⟨r, hr, h1⟩ := hx
    refine ⟨r, hr, ?_⟩
    unfold rcDue at h1 ⊢
    rw [decide_eq_true_eq] at h1 ⊢
    omega
  · exact List.Sublist.refl _
theorem due_all {s : SpoolD} (h : spoolB s = true) : (dueR s 9999).length = s.items.length := by
  have g := (spoolG_iff s).1 h
  unfold dueR
  rw [if_pos h, List.length_map]
  congr 1
  rw [List.filter_eq_self]
  intro x hx
  have gi := (itemG_iff x).1 (g.ok x hx)
  unfold dueB
  rw [List.any_eq_true]
  cases e : x.rc with
  | nil => have := gi.len; rw [e] at this; simp at this
  | cons r rs =>
    refine ⟨r, List.mem_cons_self, ?_⟩
    have := (try_in (gi.tr r (by rw [e]; exact List.mem_cons_self))).2
    unfold rcDue
    rw [decide_eq_true_eq]
    exact this.2
/-- How far a row is found in another one, in order. -/
theorem sub_hit {x : Int} {xs ys : List Int} (h : (x :: xs).Sublist (x :: ys)) : xs.Sublist ys := by
  cases h with
  | cons _ h => exact (List.sublist_cons_self x xs).trans h
  | cons_cons _ h => exact h
theorem sub_miss {x y : Int} {xs ys : List Int} (h : (x :: xs).Sublist (y :: ys)) (hne : x ≠ y) : (x :: xs).Sublist ys := by
  cases h with
  | cons _ h => exact h
  | cons_cons _ h => exact (hne rfl).elim
end Go.Proofs.YtcaknjdolfheaaaGreatDoor
namespace Go.Proofs.YtcaknjdolfheaaaGreatDoor
open Go

/-- A drawn item: small, for somebody. -/
structure Itm (x : ItemD) : Prop where
  n : itemN x ≤ 1000
  rc : 1 ≤ x.rc.length
  tr : ∀ r ∈ x.rc, 0 ≤ r.tries ∧ r.tries ≤ 3
structure Spl (M : Int) (s : SpoolD) : Prop where
  last : 0 ≤ s.last ∧ s.last ≤ M
  len : s.items.length ≤ 10
  is : ∀ x ∈ s.items, Itm x
  ids : ∀ x ∈ s.items, 0 ≤ x.id ∧ x.id ≤ s.last
theorem Spl.up {M M' : Int} {s : SpoolD} (h : Spl M s) (hM : M ≤ M') : Spl M' s := ⟨⟨h.last.1, by have := h.last.2; omega⟩, h.len, h.is, h.ids⟩
theorem Spl.none : Spl 0 noSpoolD := ⟨⟨Int.le_refl _, Int.le_refl _⟩, by decide, fun _ h => (List.not_mem_nil h).elim, fun _ h => (List.not_mem_nil h).elim⟩
theorem newItem_small {i now : Int} {m : MailD} (h : MailSz 40 m) (h1 : 1 ≤ m.rc.length) (h2 : m.rc.length ≤ 4) (h3 : m.body.length ≤ 9) : Itm (newItemD i m now) := by
  have a1 := h.fu
  have a2 := h.fd
  have a3 : sumN rcptN (m.rc.map (newRcpt now)) ≤ (m.rc.map (newRcpt now)).length * 80 := sumN_bound fun y hy => by
    obtain ⟨p, hp, rfl⟩ := List.mem_map.1 hy
    have := h.rcs p hp
    unfold rcptN newRcpt
    dsimp only
    omega
  have a4 : sumN ByteArray.size m.body ≤ m.body.length * 40 := sumN_bound fun y hy => h.bos y hy
  rw [List.length_map] at a3
  refine ⟨?_, ?_, fun r hr => ?_⟩
  · unfold itemN newItemD
    dsimp only
    rw [rowN_eq, rowN_eq, List.length_map]
    omega
  · show 1 ≤ (m.rc.map (newRcpt now)).length
    rw [List.length_map]; exact h1
  · obtain ⟨p, _, rfl⟩ := List.mem_map.1 hr
    unfold newRcpt
    dsimp only
    omega
theorem Spl.add {M now : Int} {s : SpoolD} {m : MailD} (h : Spl M s) (hr : roomB s = true) (hm : Itm (newItemD (s.last + 1) m now)) : Spl (M + 1) (addD s m now) := by
  unfold roomB at hr
  rw [Bool.and_eq_true, decide_eq_true_eq, decide_eq_true_eq] at hr
  have hl := h.last
  refine ⟨?_, ?_, fun x hx => ?_, fun x hx => ?_⟩
  · show 0 ≤ s.last + 1 ∧ s.last + 1 ≤ M + 1
    omega
  · show (s.items ++ [_]).length ≤ 10
    rw [List.length_append, List.length_singleton]
    omega
  · rcases List.mem_append.1 hx with hx | hx
    · exact h.is x hx
    · rw [List.mem_singleton.1 hx]; exact hm
  · show 0 ≤ x.id ∧ x.id ≤ s.last + 1
    rcases List.mem_append.1 hx with hx | hx
    · have := h.ids x hx; omega
    · rw [List.mem_singleton.1 hx]
      show 0 ≤ s.last + 1 ∧ s.last + 1 ≤ s.last + 1
      omega
theorem sumN_cut {α : Type} (f : α → Nat) {xs : List α} {k : Nat} {x : α} (hx : xs[k]? = some x) : sumN f (xs.take k ++ xs.drop (k + 1)) + f x = sumN f xs := by
  rw [sumN_at f hx, sumN_app']
  omega
theorem itm_done {x : ItemD} {k : Nat} {r : RcptD} (h : Itm x) (hr : x.rc[k]? = some r) (hne : (doneI x k).rc ≠ []) : Itm (doneI x k) := by
  have h1 := doneI_len hr
  have h2 := sumN_cut rcptN hr
  have h3 := h.n
  refine ⟨?_, List.length_pos_iff.2 hne, fun y hy => h.tr y ((cut_sub x.rc k).subset hy)⟩
  unfold itemN at h3 ⊢
  rw [rowN_eq] at h3 ⊢
  have e1 : sumN rcptN (doneI x k).rc + rcptN r = sumN rcptN x.rc := h2
  have e2 : (doneI x k).fu.size = x.fu.size := rfl
  have e3 : (doneI x k).fd.size = x.fd.size := rfl
  have e4 : rowN ByteArray.size (doneI x k).body = rowN ByteArray.size x.body := rfl
  omega
theorem Spl.done {M : Int} {s : SpoolD} {a k : Nat} {x : ItemD} {r : RcptD} (h : Spl M s) (hx : s.items[a]? = some x) (hr : x.rc[k]? = some r) : Spl M (doneS s a (doneI x k)) := by
  have hxm := List.mem_of_getElem? hx
  unfold doneS
  split
  · have hs := cut_sub s.items a
    exact ⟨h.last, Nat.le_trans hs.length_le h.len, fun y hy => h.is y (hs.subset hy), fun y hy => h.ids y (hs.subset hy)⟩
  · rename_i hne
    refine ⟨h.last, by show (s.items.set a _).length ≤ 10; rw [List.length_set]; exact h.len, fun y hy => ?_, fun y hy => ?_⟩
    · rcases List.mem_or_eq_of_mem_set hy with hy | hy
      · exact h.is y hy
      · rw [hy]; exact itm_done (h.is x hxm) hr hne
    · rcases List.mem_or_eq_of_mem_set hy with hy | hy
      · exact h.ids y hy
      · rw [hy]; exact h.ids x hxm
theorem Spl.late {M now : Int} {s : SpoolD} {a k : Nat} {x : ItemD} {r : RcptD} (h : Spl M s) (hx : s.items[a]? = some x) (hr : x.rc[k]? = some r) (hm : mayLate r now = true) : Spl M (lateD s a (lateI x k r now)) := by
  have hxm := List.mem_of_getElem? hx
  have hi := h.is x hxm
  have hrt := hi.tr r (List.mem_of_getElem? hr)
  unfold mayLate at hm
  rw [Bool.and_eq_true, decide_eq_true_eq] at hm
  have hl : Itm (lateI x k r now) := by
    have h2 := sumN_set rcptN (y := lateR r now) hr
    have h3 := hi.n
    refine ⟨?_, by show 1 ≤ (x.rc.set k _).length; rw [List.length_set]; exact hi.rc, fun y hy => ?_⟩
    · unfold itemN at h3 ⊢
      rw [rowN_eq] at h3 ⊢
      have e1 : sumN rcptN (lateI x k r now).rc + rcptN r = sumN rcptN x.rc + rcptN (lateR r now) := h2
      have e0 : rcptN (lateR r now) = rcptN r := rfl
      have e2 : (lateI x k r now).fu.size = x.fu.size := rfl
      have e3 : (lateI x k r now).fd.size = x.fd.size := rfl
      have e4 : rowN ByteArray.size (lateI x k r now).body = rowN ByteArray.size x.body := rfl
      have e5 : (lateI x k r now).rc.length = x.rc.length := by show (x.rc.set k _).length = _; rw [List.length_set]
      omega
    · rcases List.mem_or_eq_of_mem_set hy with hy | hy
      · exact hi.tr y hy
      · rw [hy]
        show 0 ≤ r.tries + 1 ∧ r.tries + 1 ≤ 3
        omega
  refine ⟨h.last, by show (s.items.set a _).length ≤ 10; rw [List.length_set]; exact h.len, fun y hy => ?_, fun y hy => ?_⟩
  · rcases List.mem_or_eq_of_mem_set hy with hy | hy
    · exact h.is y hy
    · rw [hy]; exact hl
  · rcases List.mem_or_eq_of_mem_set hy with hy | hy
    · exact h.ids y hy
    · rw [hy]; exact h.ids x hxm
/-- What any drawn spool is. -/
structure SplA (s : SpoolD) : Prop where
  len : s.items.length ≤ 10
  is : ∀ x ∈ s.items, itemN x ≤ 1000
theorem Spl.any {M : Int} {s : SpoolD} (h : Spl M s) : SplA s := ⟨h.len, fun x hx => (h.is x hx).n⟩
theorem SplA.small {s : SpoolD} (h : SplA s) : spoolN s ≤ 10010 := by
  have h1 : sumN itemN s.items ≤ s.items.length * 1000 := sumN_bound h.is
  have := h.len
  unfold spoolN
  rw [rowN_eq]
  omega
theorem SplA.set {s : SpoolD} {l : Int} {k : Nat} {y : ItemD} (h : SplA s) (hy : itemN y ≤ 1000) : SplA ⟨l, s.items.set k y⟩ :=
  ⟨by show (s.items.set k y).length ≤ 10; rw [List.length_set]; exact h.len, fun x hx => by
    rcases List.mem_or_eq_of_mem_set hx with hx | hx
    · exact h.is x hx
    · rw [hx]; exact hy⟩
end Go.Proofs.YtcaknjdolfheaaaGreatDoor
namespace Go.Proofs.YtcaknjdolfheaaaGreatDoor
open Go Go.RowKit

/-! ### a contract that writes new memory alone, within a draw -/
def bare (w : World) : World := { w with heap := #[] }
/-- The first n blocks lie as they lay. -/
def frameR (w : World) (n : Nat) : Res where
  P W := w.heap.size ≤ W.heap.size ∧ ∀ i, i < n → W.heap[i]? = w.heap[i]?
  S i := i < n
  loc _ _ h hs hb := ⟨Nat.le_trans h.1 hs, fun i hi => (hb i hi).trans (h.2 i hi)⟩
theorem Dw.open {B b P : Nat} {w0 w : World} {l : List Res} (h : Dw B b P w0 w l) : St (bare w) w (l ++ [frameR w w0.heap.size]) := by
  refine ⟨⟨rfl, rfl, rfl, Nat.zero_le _, fun i hi => absurd hi (Nat.not_lt_zero i)⟩, fun r hr => ?_, List.pairwise_append.2 ⟨h.st.apart, List.pairwise_singleton _ _, fun r hr q hq i hi hj => ?_⟩⟩
  · rcases List.mem_append.1 hr with hr | hr
    · exact ⟨(h.st.fits r hr).1, fun i hi => ⟨Nat.zero_le _, ((h.st.fits r hr).2 i hi).2⟩⟩
    · rw [List.mem_singleton.1 hr]
      exact ⟨⟨Nat.le_refl _, fun _ _ => rfl⟩, fun i hi => ⟨Nat.zero_le _, Nat.lt_of_lt_of_le hi h.st.size⟩⟩
  · rw [List.mem_singleton.1 hq] at hj
    have h1 := ((h.st.fits r hr).2 i hi).1
    have h2 : i < w0.heap.size := hj
    omega
theorem Rd.frame {B b P n : Nat} {w w' : World} (h : Rd B b P w) (hb : Below n w w') (hn : b < n) : Rd B b P w' := by
  obtain ⟨ao, m, cap, p, h1, h2, h3, h4, h5, h6⟩ := h
  exact ⟨ao, m, cap, p, h1, (hb.block b hn).trans h2, h3, h4, h5, h6.kept hb fun a hm ha => by have := h5 a hm ha; omega⟩
theorem Dw.close {B b P : Nat} {w0 w w' : World} {l l' : List Res} (h : Dw B b P w0 w l) (k : St (bare w) w' (l' ++ [frameR w w0.heap.size])) : Dw B b P w0 w' l' := by
  have hf := k.fits (frameR w w0.heap.size) (List.mem_append_right _ (List.mem_singleton.2 rfl))
  obtain ⟨h1, h2⟩ := hf.1
  have hb : Below w0.heap.size w w' := ⟨k.grown.os, k.grown.tape, k.grown.output, h1, h2⟩
  refine ⟨⟨⟨hb.os.trans h.st.grown.os, hb.tape.trans h.st.grown.tape, hb.output.trans h.st.grown.output, Nat.le_trans h.st.size h1, fun i hi hn => (h2 i hi).trans (h.st.grown.block i hi hn)⟩, fun r hr => ⟨(k.fits r (List.mem_append_left _ hr)).1, fun i hi => ⟨?_, ((k.fits r (List.mem_append_left _ hr)).2 i hi).2⟩⟩, (List.pairwise_append.1 k.apart).1⟩, h.rd.frame hb h.lt, h.lt⟩
  have h3 := (List.pairwise_append.1 k.apart).2.2 r hr _ (List.mem_singleton.2 rfl) i hi
  exact Nat.le_of_not_lt h3
/-- What another draw has made. -/
theorem Dw.join {B b P P' : Nat} {w0 w w' : World} {l l' : List Res} (h : Dw B b P w0 w l) (k : Dw B b P' w w' l') : Dw B b P' w0 w' (l' ++ l) := by
  have h1 := h.draw k.rd k.grown
  refine ⟨⟨h1.st.grown, fun r hr => ?_, List.pairwise_append.2 ⟨k.st.apart, h.st.apart, fun r hr q hq i hi hj => ?_⟩⟩, k.rd, h.lt⟩
  · rcases List.mem_append.1 hr with hr | hr
    · exact ⟨(k.st.fits r hr).1, fun i hi => ⟨Nat.le_trans h.st.size ((k.st.fits r hr).2 i hi).1, ((k.st.fits r hr).2 i hi).2⟩⟩
    · exact h1.st.fits r hr
  · have h2 := ((k.st.fits r hr).2 i hi).1
    have h3 := ((h.st.fits q hq).2 i hj).2
    omega
/-- .. made by a call that writes new memory alone. -/
theorem Dw.made {B b P : Nat} {w0 w w' : World} {l l' : List Res} (h : Dw B b P w0 w l) (k : St w w' l') : Dw B b P w0 w' (l' ++ l) :=
  h.join ⟨⟨⟨k.grown.os, k.grown.tape, k.grown.output, k.grown.size, fun i hi _ => k.grown.block i hi (fun e => e)⟩, k.fits, k.apart⟩, h.rd.later k.below, Nat.lt_of_lt_of_le h.lt h.st.size⟩

abbrev spB (k : Nat) (s : SpoolD) (ao : Option Addr) (c : Nat) : Res := Res.cells k (spoolL s ao c)
theorem Dw.boxA {B b P : Nat} {w0 w : World} {I : List Res} {k : Nat} {xs : List Value} {R : Res} (h : Dw B b P w0 w (I ++ [Res.cells k xs, R])) : CellsM w k xs := h.st.get (List.mem_append_right _ List.mem_cons_self)
theorem perm_two {α : Type} (a r : α) (I : List α) : (I ++ [a, r]).Perm (a :: r :: I) := (List.perm_append_comm (l₁ := I) (l₂ := [a, r]))
theorem Dw.setA {B b P : Nat} {w0 w : World} {I : List Res} {k : Nat} {x y : Value} {R : Res} (h : Dw B b P w0 w (I ++ [Res.cells k [x, y], R])) (u v : Value) : Dw B b P w0 ((w.setCell ⟨k, 0, none⟩ u).setCell ⟨k, 1, none⟩ v) (I ++ [Res.cells k [u, v], R]) :=
  (((h.perm (perm_two _ _ _)).set 0 u (by simp)).set 1 v (by simp)).perm (perm_two _ _ _).symm
theorem Dw.setA0 {B b P : Nat} {w0 w : World} {I : List Res} {k : Nat} {x y : Value} {R : Res} (h : Dw B b P w0 w (I ++ [Res.cells k [x, y], R])) (u : Value) : Dw B b P w0 (w.setCell ⟨k, 0, none⟩ u) (I ++ [Res.cells k [u, y], R]) :=
  ((h.perm (perm_two _ _ _)).set 0 u (by simp)).perm (perm_two _ _ _).symm
theorem Dw.boxC {B b P : Nat} {w0 w : World} {J I : List Res} {A : Res} {k : Nat} {xs : List Value} (h : Dw B b P w0 w (J ++ (I ++ [A, Res.cells k xs]))) : CellsM w k xs := h.st.get (List.mem_append_right _ (List.mem_append_right _ (List.mem_cons_of_mem _ List.mem_cons_self)))
theorem perm_last {α : Type} (a r : α) (J I : List α) : (J ++ (I ++ [a, r])).Perm (r :: (J ++ (I ++ [a]))) := by
  have e : J ++ (I ++ [a, r]) = (J ++ (I ++ [a])) ++ [r] := by simp
  rw [e]
  exact List.perm_append_comm
theorem Dw.setC {B b P : Nat} {w0 w : World} {J I : List Res} {A : Res} {k : Nat} {x y : Value} (h : Dw B b P w0 w (J ++ (I ++ [A, Res.cells k [x, y]]))) (u v : Value) : Dw B b P w0 ((w.setCell ⟨k, 0, none⟩ u).setCell ⟨k, 1, none⟩ v) J := by
  have h1 := ((h.perm (perm_last _ _ _ _)).set 0 u (by simp)).set 1 v (by simp)
  exact ⟨h1.st.tail.first, h1.rd, h1.lt⟩
theorem Dw.opn {B b P : Nat} {w0 w : World} {I l : List Res} (h : Dw B b P w0 w (I ++ l)) : St (bare w) w (I ++ (l ++ [frameR w w0.heap.size])) := by
  have := h.open
  rwa [List.append_assoc] at this
theorem Dw.cls {B b P : Nat} {w0 w w' : World} {I I' l : List Res} (h : Dw B b P w0 w (I ++ l)) (k : St (bare w) w' (I' ++ (l ++ [frameR w w0.heap.size]))) : Dw B b P w0 w' (I' ++ l) := h.close (by rwa [List.append_assoc])
theorem mailSz_up {M N : Nat} {m : MailD} (h : MailSz M m) (hN : M ≤ N) : MailSz N m :=
  ⟨Nat.le_trans h.fu hN, Nat.le_trans h.fd hN, Nat.le_trans h.rcl hN, fun p hp => ⟨Nat.le_trans (h.rcs p hp).1 hN, Nat.le_trans (h.rcs p hp).2 hN⟩, Nat.le_trans h.bol hN, fun x hx => Nat.le_trans (h.bos x hx) hN⟩
theorem addD_len {s : SpoolD} {ps : List ItemV} (h : ps.length = s.items.length) {m : MailD} {now : Int} (q : ItemV) : (ps ++ [q]).length = (addD s m now).items.length := by
  show (ps ++ [q]).length = (s.items ++ [_]).length
  simp [h]
theorem late_len {s : SpoolD} {ps : List ItemV} (h : ps.length = s.items.length) {i k : Nat} {x : ItemD} {r : RcptD} {now : Int} (q : ItemV) : (ps.set i q).length = (lateD s i (lateI x k r now)).items.length := by
  show _ = (s.items.set i _).length
  rw [List.length_set, List.length_set, h]
theorem late_parts {B b P : Nat} {w0 w : World} {bo : Option Addr} {c k : Nat} {s : SpoolD} {ps : List ItemV} {i : Nat} {y : ItemD} {q : ItemV} {R : Res} (h : Dw B b P w0 w (itemsR bo c (s.items.set i y) (ps.set i q) ++ [Res.cells k [.int .i64 s.last, .slice bo s.items.length c], R])) :
    Dw B b P w0 w (itemsR bo c (lateD s i y).items (ps.set i q) ++ [spB k (lateD s i y) bo c, R]) := by
  have e : (lateD s i y).items.length = s.items.length := by show (s.items.set i y).length = _; rw [List.length_set]
  unfold spB spoolL
  rw [e]
  exact h

theorem perm_mid {α : Type} (a r : α) (I : List α) : (a :: (I ++ [r])).Perm (I ++ [a, r]) := (List.perm_middle (a := a) (l₁ := I) (l₂ := [r])).symm
set_option maxHeartbeats 12800000 in
set_option maxRecDepth 100000 in
theorem l20Spool_any (B b P : Nat) (w : World) (h : Rd B b P w) (hP : P ≤ 300000) :
    Calls Tryz.prog 83 #[.pointer (some ⟨b, 0, none⟩)] w fun e w' => ∃ s ao c ps, e = .returned (.agg (spoolV s ao c)) ∧ Spl 8 s ∧ ps.length = s.items.length ∧ Dw B b (P + 600) w w' (itemsR ao c s.items ps) := by
  have D0 : Seal (Dw B b P w ((w.alloc (.cells #[.int .i64 0, .slice none 0 0] 25)).alloc (.cells #[.int .i64 0, .slice none 0 0] 25)) (itemsR none 0 [] [] ++ [spB (w.heap.size + 1) noSpoolD none 0, Res.cells w.heap.size [.int .i64 0, .slice none 0 0]])) := ⟨by
    have D := ((Dw.start h).alloc #[.int .i64 0, .slice none 0 0] 25).alloc #[.int .i64 0, .slice none 0 0] 25
    simp only [World.size_alloc] at D
    exact D.made ((St.start _).nothing 43 5)⟩
  clear h
  go_enter Tryz.func83, Tryz.ntmps83
  go_wp2_with fail
  refine (pick_at 9 D0.out.rd rfl (by omega) (by decide) (by decide)).mono ?_
  rintro e w1 ⟨n0, rfl, hn0, h1, g1⟩
  have D1 : Seal _ := ⟨D0.out.draw h1 g1⟩
  clear h1 g1 D0
  go_wp2
  go_loopw [4, 5] (fun v4 i wr => ∃ (s : SpoolD) (ao : Option Addr) (c : Nat) (ps : List ItemV) (n m t : Nat), v4 = .int .i64 t ∧ i = .int .i64 n ∧ n + m ≤ 8 ∧ t ≤ 4 * m ∧ Seal (Spl m s) ∧ ps.length = s.items.length ∧ Seal (Dw B b (P + 1 + m * 65) w wr (itemsR ao c s.items ps ++ [spB (w.heap.size + 1) s ao c, Res.cells w.heap.size [.int .i64 0, .slice none 0 0]]))) (fun _ i _ => (intOf i).toNat)
  case atStart => exact ⟨noSpoolD, none, 0, [], n0, 0, 0, rfl, rfl, by omega, by omega, ⟨Spl.none⟩, rfl, ⟨D1.out⟩⟩
  case round =>
    obtain ⟨s, ao, c, ps, n, m, t, rfl, rfl, hn, ht, HS, hl, D⟩ := hrel
    clear D1 hn0
    have HL : Seal _ := ⟨hl⟩
    have hlen := HS.out.len
    have K := D.out.boxA
    have k0 := K.c 0 _ rfl
    have k1 := K.c 1 _ rfl
    clear K hl
    cases n with
    | zero =>
      go_wp2_with fail
      refine (l5Copy_any _ s ao c ps HL.out w _ D.out.st (by have := HS.out.any.small; omega)).mono ?_
      rintro e w2 ⟨bo, c2, qs, rfl, hq, hk⟩
      have HQ : Seal _ := ⟨hq⟩
      have D3 : Seal _ := ⟨D.out.made hk⟩
      have R := D3.out.boxC
      have r0 := R.c 0 _ rfl
      have r1 := R.c 1 _ rfl
      have f0 := R.f 0 (by simp)
      have f1 := R.f 1 (by simp)
      have rl := R.lt
      clear hk hq k0 k1 D R
      go_wp2
      refine bodyPost_ret (v := .agg #[.int .i64 s.last, .slice bo s.items.length c2]) (by simp [results, Tryz.results83, go_sem, r0, r1]) rfl ⟨s, bo, c2, qs, rfl, HS.out.up (by omega), HQ.out, ?_⟩
      exact (D3.out.setC _ _).up (by omega)
    | succ n =>
      have q0 : (0 : Int) < ((n + 1 : Nat) : Int) := by omega
      go_wp2_with fail
      refine (pick_at 5 D.out.rd rfl (by omega) (by decide) (by decide)).mono ?_
      rintro e w2 ⟨k1', rfl, hk1, h2, g2⟩
      have D2 : Seal _ := ⟨D.out.draw h2 g2⟩
      clear h2 g2 D k0 k1
      obtain ⟨t', ht'⟩ : ∃ t' : Nat, t + k1' = t' := ⟨_, rfl⟩
      have hT : (t : Int) + (k1' : Int) = (t' : Int) := by omega
      have hW : IntKind.i64.wrap (t' : Int) = (t' : Int) := IntWalk.i64_in _ (by omega)
      have HT : t' ≤ 4 * (m + 1) := by omega
      clear ht' hk1
      have K := D2.out.boxA
      have k0 := K.c 0 _ rfl
      have k1 := K.c 1 _ rfl
      clear K
      by_cases hz : s.items.length = 0
      · have hz0 : ((s.items.length : Int) == 0) = true := by rw [beq_iff_eq]; omega
        clear hz
        go_wp2_with fail
        refine (l5Room_any s ao c _).mono ?_
        rintro e w5 ⟨rfl, hb5⟩
        have D5 : Seal _ := ⟨D2.out.later hb5⟩
        clear hb5 D2 k0 k1
        cases hr : roomB s
        · have D6 : Seal _ := ⟨(D5.out.up (P' := P + 1 + (m + 1) * 65) (by omega))⟩
          clear D5
          go_wp2
          go_roundw
          case rel => exact ⟨s, ao, c, ps, n, m + 1, t', by go_num, by go_num, by omega, by omega, ⟨HS.out.up (by omega)⟩, HL.out, D6⟩
          case measure => simp [intOf]
        have HR : Seal _ := ⟨hr⟩
        clear hr
        go_upto_region 9 with fail
        have D6 : Seal _ := ⟨D5.out.later (Below.refl _ _).drew⟩
        clear D5
        refine wp_region_held_drew (S := fun _ => True) (by kernel_rfl) trivial (fun hHeld => ?_)
        refine tkH 1 (by assumption) (h := ?_)
        refine tkH 3 (by assumption) (h := ?_)
        refine wpAnyH_ready (rs := [0, 2]) (by kernel_rfl) (by simp) ?_
        refine AllReadyH.cons rfl (fun K hK => ?_) (AllReadyH.cons rfl (fun K hK => ?_) AllReadyH.nil)
        · have KK := D6.out.boxA
          have ol0 := KK.c 0 _ rfl
          have ol1 := KK.c 1 _ rfl
          clear KK
          go_simp
          refine hK.out _ _ trivial (fun hHeld => ?_)
          clear hK K
          try simp only [Act.put, List.getElem_toArray, List.getElem_cons_succ, List.getElem_cons_zero, List.setIfInBounds_toArray, List.set_cons_zero, List.set_cons_succ]
          clear ol0 ol1
          refine wpAnyH_ready (rs := [2]) (by kernel_rfl) (by simp) ?_
          refine AllReadyH.cons rfl (fun K hK => ?_) AllReadyH.nil
          go_simp
          refine (l20Mail_any B b _ _ D6.out.rd (by omega)).mono ?_
          rintro e w7 ⟨ml, a1, c1, a2, c2, rfl, o7, hms, hm1, hm4, hm9, h7, g7⟩
          have D7 : Seal _ := ⟨D6.out.mail h7 g7 o7⟩
          have HM : Seal _ := ⟨hms⟩
          have HI : Seal _ := ⟨newItem_small (i := s.last + 1) (now := t') hms hm1 hm4 hm9⟩
          clear D6 o7 hms hm1 hm4 hm9 h7 g7
          refine hK.out _ _ trivial (fun hHeld => ?_)
          clear hK K
          try simp only [Act.put, List.getElem_toArray, List.getElem_cons_succ, List.getElem_cons_zero, List.setIfInBounds_toArray, List.set_cons_zero, List.set_cons_succ]
          refine wpAnyH_ready (rs := [4]) (by kernel_rfl) (by simp) ?_
          refine AllReadyH.cons rfl (fun K hK => ?_) AllReadyH.nil
          go_simp
          refine (l5Add_any _ s ao c ps HL.out ml a1 c1 a2 c2 t' (bare w7) w7 D7.out.tail.opn D7.out.st.head (by omega) (mailSz_up HM.out (by decide)) HS.out.last.1 (by have := HS.out.last; omega)).mono ?_
          rintro e w8 ⟨bo, c8, q, rfl, hk⟩
          have D8 : Seal _ := ⟨D7.out.tail.cls hk⟩
          clear hk
          refine hK.out _ _ trivial (fun hHeld => ?_)
          clear hK K
          try simp only [Act.put, List.getElem_toArray, List.getElem_cons_succ, List.getElem_cons_zero, List.setIfInBounds_toArray, List.set_cons_zero, List.set_cons_succ]
          refine wpAnyH_ready (rs := [5]) (by kernel_rfl) (by simp) ?_
          refine AllReadyH.cons rfl (fun K hK => ?_) AllReadyH.nil
          have KK := D8.out.boxA
          have oc0 := KK.c 0 _ rfl
          have oc1 := KK.c 1 _ rfl
          have of0 := KK.f 0 (by simp)
          have of1 := KK.f 1 (by simp)
          have ofl := KK.lt
          clear KK
          go_simp
          refine hK.out _ _ trivial (fun hHeld => ?_)
          clear hK K
          try simp only [Act.put, List.getElem_toArray, List.getElem_cons_succ, List.getElem_cons_zero, List.setIfInBounds_toArray, List.set_cons_zero, List.set_cons_succ]
          clear oc0 oc1 of0 of1 ofl
          refine wpAnyH_done (by kernel_rfl) ?_ _
          have D9 : Seal _ := ⟨(D8.out.setA (.int .i64 (addD s ml t').last) (.slice bo (addD s ml t').items.length c8)).up (P' := P + 1 + (m + 1) * 65) (by omega)⟩
          clear D8 D7
          generalize (w8.setCell ⟨w.heap.size + 1, 0, none⟩ (.int .i64 (addD s ml t').last)).setCell ⟨w.heap.size + 1, 1, none⟩ (.slice bo (addD s ml t').items.length c8) = w9 at *
          go_wp2
          go_roundw
          case rel => exact ⟨addD s ml t', bo, c8, ps ++ [q], n, m + 1, t', by go_num, by go_num, by omega, by omega, ⟨HS.out.add HR.out HI.out⟩, addD_len HL.out q, D9⟩
          case measure => simp [intOf]
        · go_simp
          refine (l20Mail_any B b _ _ D6.out.rd (by omega)).mono ?_
          rintro e w7 ⟨ml, a1, c1, a2, c2, rfl, o7, hms, hm1, hm4, hm9, h7, g7⟩
          have D7 : Seal _ := ⟨D6.out.mail h7 g7 o7⟩
          have HM : Seal _ := ⟨hms⟩
          have HI : Seal _ := ⟨newItem_small (i := s.last + 1) (now := t') hms hm1 hm4 hm9⟩
          clear D6 o7 hms hm1 hm4 hm9 h7 g7
          refine hK.out _ _ trivial (fun hHeld => ?_)
          clear hK K
          try simp only [Act.put, List.getElem_toArray, List.getElem_cons_succ, List.getElem_cons_zero, List.setIfInBounds_toArray, List.set_cons_zero, List.set_cons_succ]
          refine wpAnyH_ready (rs := [0]) (by kernel_rfl) (by simp) ?_
          refine AllReadyH.cons rfl (fun K hK => ?_) AllReadyH.nil
          have KK := D7.out.tail.boxA
          have ol0 := KK.c 0 _ rfl
          have ol1 := KK.c 1 _ rfl
          clear KK
          go_simp
          refine hK.out _ _ trivial (fun hHeld => ?_)
          clear hK K
          try simp only [Act.put, List.getElem_toArray, List.getElem_cons_succ, List.getElem_cons_zero, List.setIfInBounds_toArray, List.set_cons_zero, List.set_cons_succ]
          clear ol0 ol1
          refine wpAnyH_ready (rs := [4]) (by kernel_rfl) (by simp) ?_
          refine AllReadyH.cons rfl (fun K hK => ?_) AllReadyH.nil
          go_simp
          refine (l5Add_any _ s ao c ps HL.out ml a1 c1 a2 c2 t' (bare w7) w7 D7.out.tail.opn D7.out.st.head (by omega) (mailSz_up HM.out (by decide)) HS.out.last.1 (by have := HS.out.last; omega)).mono ?_
          rintro e w8 ⟨bo, c8, q, rfl, hk⟩
          have D8 : Seal _ := ⟨D7.out.tail.cls hk⟩
          clear hk
          refine hK.out _ _ trivial (fun hHeld => ?_)
          clear hK K
          try simp only [Act.put, List.getElem_toArray, List.getElem_cons_succ, List.getElem_cons_zero, List.setIfInBounds_toArray, List.set_cons_zero, List.set_cons_succ]
          refine wpAnyH_ready (rs := [5]) (by kernel_rfl) (by simp) ?_
          refine AllReadyH.cons rfl (fun K hK => ?_) AllReadyH.nil
          have KK := D8.out.boxA
          have oc0 := KK.c 0 _ rfl
          have oc1 := KK.c 1 _ rfl
          have of0 := KK.f 0 (by simp)
          have of1 := KK.f 1 (by simp)
          have ofl := KK.lt
          clear KK
          go_simp
          refine hK.out _ _ trivial (fun hHeld => ?_)
          clear hK K
          try simp only [Act.put, List.getElem_toArray, List.getElem_cons_succ, List.getElem_cons_zero, List.setIfInBounds_toArray, List.set_cons_zero, List.set_cons_succ]
          clear oc0 oc1 of0 of1 ofl
          refine wpAnyH_done (by kernel_rfl) ?_ _
          have D9 : Seal _ := ⟨(D8.out.setA (.int .i64 (addD s ml t').last) (.slice bo (addD s ml t').items.length c8)).up (P' := P + 1 + (m + 1) * 65) (by omega)⟩
          clear D8 D7
          generalize (w8.setCell ⟨w.heap.size + 1, 0, none⟩ (.int .i64 (addD s ml t').last)).setCell ⟨w.heap.size + 1, 1, none⟩ (.slice bo (addD s ml t').items.length c8) = w9 at *
          go_wp2
          go_roundw
          case rel => exact ⟨addD s ml t', bo, c8, ps ++ [q], n, m + 1, t', by go_num, by go_num, by omega, by omega, ⟨HS.out.add HR.out HI.out⟩, addD_len HL.out q, D9⟩
          case measure => simp [intOf]
      have hz0 : ((s.items.length : Int) == 0) = false := by rw [beq_eq_false_iff_ne]; omega
      have hzp : 0 < s.items.length := by omega
      clear hz
      go_wp2_with fail
      refine (pick_at 2 D2.out.rd rfl (by omega) (by decide) (by decide)).mono ?_
      rintro e w3 ⟨k3, rfl, hk3, h3, g3⟩
      have D3 : Seal _ := ⟨D2.out.draw h3 g3⟩
      clear h3 g3 D2 k0 k1
      have K := D3.out.boxA
      have k0 := K.c 0 _ rfl
      have k1 := K.c 1 _ rfl
      clear K
      by_cases hk0 : k3 = 0
      · subst hk0
        go_wp2_with fail
        refine (l5Room_any s ao c _).mono ?_
        rintro e w5 ⟨rfl, hb5⟩
        have D5 : Seal _ := ⟨D3.out.later hb5⟩
        clear hb5 D3 k0 k1
        cases hr : roomB s
        · have D6 : Seal _ := ⟨(D5.out.up (P' := P + 1 + (m + 1) * 65) (by omega))⟩
          clear D5
          go_wp2
          go_roundw
          case rel => exact ⟨s, ao, c, ps, n, m + 1, t', by go_num, by go_num, by omega, by omega, ⟨HS.out.up (by omega)⟩, HL.out, D6⟩
          case measure => simp [intOf]
        have HR : Seal _ := ⟨hr⟩
        clear hr
        go_upto_region 9 with fail
        have D6 : Seal _ := ⟨D5.out.later (Below.refl _ _).drew⟩
        clear D5
        refine wp_region_held_drew (S := fun _ => True) (by kernel_rfl) trivial (fun hHeld => ?_)
        refine tkH 1 (by assumption) (h := ?_)
        refine tkH 3 (by assumption) (h := ?_)
        refine wpAnyH_ready (rs := [0, 2]) (by kernel_rfl) (by simp) ?_
        refine AllReadyH.cons rfl (fun K hK => ?_) (AllReadyH.cons rfl (fun K hK => ?_) AllReadyH.nil)
        · have KK := D6.out.boxA
          have ol0 := KK.c 0 _ rfl
          have ol1 := KK.c 1 _ rfl
          clear KK
          go_simp
          refine hK.out _ _ trivial (fun hHeld => ?_)
          clear hK K
          try simp only [Act.put, List.getElem_toArray, List.getElem_cons_succ, List.getElem_cons_zero, List.setIfInBounds_toArray, List.set_cons_zero, List.set_cons_succ]
          clear ol0 ol1
          refine wpAnyH_ready (rs := [2]) (by kernel_rfl) (by simp) ?_
          refine AllReadyH.cons rfl (fun K hK => ?_) AllReadyH.nil
          go_simp
          refine (l20Mail_any B b _ _ D6.out.rd (by omega)).mono ?_
          rintro e w7 ⟨ml, a1, c1, a2, c2, rfl, o7, hms, hm1, hm4, hm9, h7, g7⟩
          have D7 : Seal _ := ⟨D6.out.mail h7 g7 o7⟩
          have HM : Seal _ := ⟨hms⟩
          have HI : Seal _ := ⟨newItem_small (i := s.last + 1) (now := t') hms hm1 hm4 hm9⟩
          clear D6 o7 hms hm1 hm4 hm9 h7 g7
          refine hK.out _ _ trivial (fun hHeld => ?_)
          clear hK K
          try simp only [Act.put, List.getElem_toArray, List.getElem_cons_succ, List.getElem_cons_zero, List.setIfInBounds_toArray, List.set_cons_zero, List.set_cons_succ]
          refine wpAnyH_ready (rs := [4]) (by kernel_rfl) (by simp) ?_
          refine AllReadyH.cons rfl (fun K hK => ?_) AllReadyH.nil
          go_simp
          refine (l5Add_any _ s ao c ps HL.out ml a1 c1 a2 c2 t' (bare w7) w7 D7.out.tail.opn D7.out.st.head (by omega) (mailSz_up HM.out (by decide)) HS.out.last.1 (by have := HS.out.last; omega)).mono ?_
          rintro e w8 ⟨bo, c8, q, rfl, hk⟩
          have D8 : Seal _ := ⟨D7.out.tail.cls hk⟩
          clear hk
          refine hK.out _ _ trivial (fun hHeld => ?_)
          clear hK K
          try simp only [Act.put, List.getElem_toArray, List.getElem_cons_succ, List.getElem_cons_zero, List.setIfInBounds_toArray, List.set_cons_zero, List.set_cons_succ]
          refine wpAnyH_ready (rs := [5]) (by kernel_rfl) (by simp) ?_
          refine AllReadyH.cons rfl (fun K hK => ?_) AllReadyH.nil
          have KK := D8.out.boxA
          have oc0 := KK.c 0 _ rfl
          have oc1 := KK.c 1 _ rfl
          have of0 := KK.f 0 (by simp)
          have of1 := KK.f 1 (by simp)
          have ofl := KK.lt
          clear KK
          go_simp
          refine hK.out _ _ trivial (fun hHeld => ?_)
          clear hK K
          try simp only [Act.put, List.getElem_toArray, List.getElem_cons_succ, List.getElem_cons_zero, List.setIfInBounds_toArray, List.set_cons_zero, List.set_cons_succ]
          clear oc0 oc1 of0 of1 ofl
          refine wpAnyH_done (by kernel_rfl) ?_ _
          have D9 : Seal _ := ⟨(D8.out.setA (.int .i64 (addD s ml t').last) (.slice bo (addD s ml t').items.length c8)).up (P' := P + 1 + (m + 1) * 65) (by omega)⟩
          clear D8 D7
          generalize (w8.setCell ⟨w.heap.size + 1, 0, none⟩ (.int .i64 (addD s ml t').last)).setCell ⟨w.heap.size + 1, 1, none⟩ (.slice bo (addD s ml t').items.length c8) = w9 at *
          go_wp2
          go_roundw
          case rel => exact ⟨addD s ml t', bo, c8, ps ++ [q], n, m + 1, t', by go_num, by go_num, by omega, by omega, ⟨HS.out.add HR.out HI.out⟩, addD_len HL.out q, D9⟩
          case measure => simp [intOf]
        · go_simp
          refine (l20Mail_any B b _ _ D6.out.rd (by omega)).mono ?_
          rintro e w7 ⟨ml, a1, c1, a2, c2, rfl, o7, hms, hm1, hm4, hm9, h7, g7⟩
          have D7 : Seal _ := ⟨D6.out.mail h7 g7 o7⟩
          have HM : Seal _ := ⟨hms⟩
          have HI : Seal _ := ⟨newItem_small (i := s.last + 1) (now := t') hms hm1 hm4 hm9⟩
          clear D6 o7 hms hm1 hm4 hm9 h7 g7
          refine hK.out _ _ trivial (fun hHeld => ?_)
          clear hK K
          try simp only [Act.put, List.getElem_toArray, List.getElem_cons_succ, List.getElem_cons_zero, List.setIfInBounds_toArray, List.set_cons_zero, List.set_cons_succ]
          refine wpAnyH_ready (rs := [0]) (by kernel_rfl) (by simp) ?_
          refine AllReadyH.cons rfl (fun K hK => ?_) AllReadyH.nil
          have KK := D7.out.tail.boxA
          have ol0 := KK.c 0 _ rfl
          have ol1 := KK.c 1 _ rfl
          clear KK
          go_simp
          refine hK.out _ _ trivial (fun hHeld => ?_)
          clear hK K
          try simp only [Act.put, List.getElem_toArray, List.getElem_cons_succ, List.getElem_cons_zero, List.setIfInBounds_toArray, List.set_cons_zero, List.set_cons_succ]
          clear ol0 ol1
          refine wpAnyH_ready (rs := [4]) (by kernel_rfl) (by simp) ?_
          refine AllReadyH.cons rfl (fun K hK => ?_) AllReadyH.nil
          go_simp
          refine (l5Add_any _ s ao c ps HL.out ml a1 c1 a2 c2 t' (bare w7) w7 D7.out.tail.opn D7.out.st.head (by omega) (mailSz_up HM.out (by decide)) HS.out.last.1 (by have := HS.out.last; omega)).mono ?_
          rintro e w8 ⟨bo, c8, q, rfl, hk⟩
          have D8 : Seal _ := ⟨D7.out.tail.cls hk⟩
          clear hk
          refine hK.out _ _ trivial (fun hHeld => ?_)
          clear hK K
          try simp only [Act.put, List.getElem_toArray, List.getElem_cons_succ, List.getElem_cons_zero, List.setIfInBounds_toArray, List.set_cons_zero, List.set_cons_succ]
          refine wpAnyH_ready (rs := [5]) (by kernel_rfl) (by simp) ?_
          refine AllReadyH.cons rfl (fun K hK => ?_) AllReadyH.nil
          have KK := D8.out.boxA
          have oc0 := KK.c 0 _ rfl
          have oc1 := KK.c 1 _ rfl
          have of0 := KK.f 0 (by simp)
          have of1 := KK.f 1 (by simp)
          have ofl := KK.lt
          clear KK
          go_simp
          refine hK.out _ _ trivial (fun hHeld => ?_)
          clear hK K
          try simp only [Act.put, List.getElem_toArray, List.getElem_cons_succ, List.getElem_cons_zero, List.setIfInBounds_toArray, List.set_cons_zero, List.set_cons_succ]
          clear oc0 oc1 of0 of1 ofl
          refine wpAnyH_done (by kernel_rfl) ?_ _
          have D9 : Seal _ := ⟨(D8.out.setA (.int .i64 (addD s ml t').last) (.slice bo (addD s ml t').items.length c8)).up (P' := P + 1 + (m + 1) * 65) (by omega)⟩
          clear D8 D7
          generalize (w8.setCell ⟨w.heap.size + 1, 0, none⟩ (.int .i64 (addD s ml t').last)).setCell ⟨w.heap.size + 1, 1, none⟩ (.slice bo (addD s ml t').items.length c8) = w9 at *
          go_wp2
          go_roundw
          case rel => exact ⟨addD s ml t', bo, c8, ps ++ [q], n, m + 1, t', by go_num, by go_num, by omega, by omega, ⟨HS.out.add HR.out HI.out⟩, addD_len HL.out q, D9⟩
          case measure => simp [intOf]
      have hb0 : ((k3 : Int) == 0) = false := by rw [beq_eq_false_iff_ne]; omega
      go_wp2_with fail
      refine (pick_at s.items.length D3.out.rd rfl (by omega) (by omega) (by omega)).mono ?_
      rintro e w4 ⟨i, rfl, hi, h4, g4⟩
      have D4 : Seal _ := ⟨D3.out.draw h4 g4⟩
      clear h4 g4 D3 k0 k1 hb0 hk0 hk3
      obtain ⟨x, hx⟩ : ∃ x, s.items[i]? = some x := ⟨_, List.getElem?_eq_getElem hi⟩
      obtain ⟨q, hq⟩ : ∃ q, ps[i]? = some q := ⟨_, List.getElem?_eq_getElem (by have := HL.out; omega)⟩
      have HX : Seal _ := ⟨hx⟩
      have HI := HS.out.is x (List.mem_of_getElem? hx)
      have hrl := (itemN_parts HI.n).2.2.1
      have hr1 := HI.rc
      have HTR : Seal _ := ⟨HI.tr⟩
      have HN : Seal _ := ⟨HI.n⟩
      clear HI
      have K := D4.out.boxA
      have k0 := K.c 0 _ rfl
      have k1 := K.c 1 _ rfl
      clear K
      obtain ⟨g, hga, _, _, _, ic3, _⟩ := itemCells D4.out.st hx hq
      clear hx hq
      have hi0 : (0 : Int) ≤ (i : Int) ∧ (i : Int) < (s.items.length : Int) := by omega
      subst hga
      go_wp2_with fail
      refine (pick_at x.rc.length D4.out.rd rfl (by omega) (by omega) (by omega)).mono ?_
      rintro e w5 ⟨k, rfl, hk, h5, g5⟩
      have D5 : Seal _ := ⟨D4.out.draw h5 g5⟩
      clear h5 g5 D4 k0 k1 ic3
      obtain ⟨r, hr⟩ : ∃ r, x.rc[k]? = some r := ⟨_, List.getElem?_eq_getElem hk⟩
      have HR : Seal _ := ⟨hr⟩
      have htr := HTR.out r (List.mem_of_getElem? hr)
      clear hr
      go_wp2_with fail
      refine (pick_at 2 D5.out.rd rfl (by omega) (by decide) (by decide)).mono ?_
      rintro e w6 ⟨k6, rfl, hk6, h6, g6⟩
      have D6 : Seal _ := ⟨D5.out.draw h6 g6⟩
      clear h6 g6 D5
      have K := D6.out.boxA
      have k0 := K.c 0 _ rfl
      have k1 := K.c 1 _ rfl
      clear K
      by_cases hz6 : k6 = 0
      · subst hz6
        go_wp2_with fail
        refine (l5Done_any _ s (some ⟨g, 0, none⟩) c ps HL.out (by omega) i k x r HX.out HR.out (bare w6) w6 D6.out.opn (by have := HN.out; omega)).mono ?_
        rintro e w7 ⟨bo, c7, qs, rfl, hq7, hk7⟩
        have HQ : Seal _ := ⟨hq7⟩
        have D7 : Seal _ := ⟨D6.out.cls hk7⟩
        clear hk7 hq7 D6 k0 k1
        have KK := D7.out.boxA
        have oc0 := KK.c 0 _ rfl
        have oc1 := KK.c 1 _ rfl
        have of0 := KK.f 0 (by simp)
        have of1 := KK.f 1 (by simp)
        have ofl := KK.lt
        clear KK
        have D9 : Seal _ := ⟨(D7.out.setA (.int .i64 s.last) (.slice bo (doneS s i (doneI x k)).items.length c7)).up (P' := P + 1 + (m + 1) * 65) (by omega)⟩
        clear D7
        go_wp2
        go_roundw
        case rel => exact ⟨doneS s i (doneI x k), bo, c7, qs, n, m + 1, t', by go_num, by go_num, by omega, by omega, ⟨(HS.out.done HX.out HR.out).up (by omega)⟩, HQ.out, D9⟩
        case measure => simp [intOf]
      have hb6 : ((k6 : Int) == 0) = false := by rw [beq_eq_false_iff_ne]; omega
      cases hm : mayLate r t'
      · go_wp2_with fail
        refine (l5Later_no _ s (some ⟨g, 0, none⟩) c ps HL.out i k x r HX.out HR.out t' (bare w6) w6 D6.out.opn (by have := HN.out; omega) htr.1 htr.2 (by omega) (by omega) hm).mono ?_
        rintro e w7 ⟨rfl, hk7⟩
        have D7 : Seal _ := ⟨D6.out.cls hk7⟩
        clear hk7 D6 k0 k1 hm
        have D8 : Seal _ := ⟨D7.out.later ((Below.refl _ _).alloc (Nat.le_refl _) (.cells #[.int .i64 s.last, .slice (some ⟨g, 0, none⟩) s.items.length c] 25))⟩
        have KK := D8.out.boxA
        have oc0 := KK.c 0 _ rfl
        have oc1 := KK.c 1 _ rfl
        have of0 := KK.f 0 (by simp)
        have of1 := KK.f 1 (by simp)
        have ofl := KK.lt
        clear KK
        have D9 : Seal _ := ⟨(D8.out.setA (.int .i64 s.last) (.slice (some ⟨g, 0, none⟩) s.items.length c)).up (P' := P + 1 + (m + 1) * 65) (by omega)⟩
        clear D7 D8
        go_wp2
        go_roundw
        case rel => exact ⟨s, some ⟨g, 0, none⟩, c, ps, n, m + 1, t', by go_num, by go_num, by omega, by omega, ⟨HS.out.up (by omega)⟩, HL.out, D9⟩
        case measure => simp [intOf]
      · go_wp2_with fail
        refine (l5Later_yes _ s (some ⟨g, 0, none⟩) c ps HL.out (by omega) i k x r HX.out HR.out t' (bare w6) w6 D6.out.opn (by have := HN.out; omega) htr.1 htr.2 (by omega) (by omega) hm).mono ?_
        rintro e w7 ⟨bo, c7, q, rfl, hk7⟩
        have D7 : Seal _ := ⟨D6.out.cls hk7⟩
        have HY : Seal _ := ⟨HS.out.late HX.out HR.out hm⟩
        have HLL : Seal ((ps.set i q).length = (lateD s i (lateI x k r t')).items.length) := ⟨late_len HL.out q⟩
        clear hk7 D6 k0 k1 hm
        have D8 : Seal _ := ⟨D7.out.later ((Below.refl _ _).alloc (Nat.le_refl _) (.cells #[.int .i64 s.last, .slice bo s.items.length c7] 25))⟩
        have KK := D8.out.boxA
        have oc0 := KK.c 0 _ rfl
        have oc1 := KK.c 1 _ rfl
        have of0 := KK.f 0 (by simp)
        have of1 := KK.f 1 (by simp)
        have ofl := KK.lt
        clear KK
        have D9 : Seal _ := ⟨(D8.out.setA (.int .i64 s.last) (.slice bo s.items.length c7)).up (P' := P + 1 + (m + 1) * 65) (by omega)⟩
        clear D7 D8
        go_wp2
        go_roundw
        case rel => exact ⟨lateD s i (lateI x k r t'), bo, c7, ps.set i q, n, m + 1, t', by go_num, by go_num, by omega, by omega, ⟨HY.out.up (by omega)⟩, HLL.out, ⟨late_parts D9.out⟩⟩
        case measure => simp [intOf]
end Go.Proofs.YtcaknjdolfheaaaGreatDoor
namespace Go.Proofs.YtcaknjdolfheaaaGreatDoor
open Go Go.RowKit

/-! ### an element of a spool's row is changed in place -/
theorem items_put {X : Nat → Prop} {w0 w : World} {g c : Nat} {xs : List ItemD} {ps : List ItemV} {l : List Res} (h : StX X w0 w (itemsR (some ⟨g, 0, none⟩) c xs ps ++ l)) (hl : ps.length = xs.length) {k : Nat} {x : ItemD} {p : ItemV} (hx : xs[k]? = some x) (hp : ps[k]? = some p) (j : Nat) (hj : j < 5) (v : Value) (y : ItemD) (q : ItemV) (e : itemL y q = (itemL x p).set j v)
    (hr : ∀ W l', StX X w0 W (itemE.res x p ++ l') → StX X w0 W (itemE.res y q ++ l')) :
    StX X w0 (w.setCell ⟨g, k * 5 + j, none⟩ v) (itemsR (some ⟨g, 0, none⟩) c (xs.set k y) (ps.set k q) ++ l) := by
  have hk := (List.getElem?_eq_some_iff.1 hx).1
  have ht : (ps.take k).length = (xs.take k).length := by simp; omega
  have e1 := take_drop_at hx
  have e2 := take_drop_at hp
  have eall : itemE.all xs ps = itemE.all (xs.take k) (ps.take k) ++ (itemL x p ++ itemE.all (xs.drop (k + 1)) (ps.drop (k + 1))) := by
    have := itemE.all_split (B := xs.drop (k + 1)) (PB := ps.drop (k + 1)) ht x p
    rw [← e1, ← e2] at this
    exact this
  have ha : (itemE.all (xs.take k) (ps.take k)).length = k * 5 := by
    rw [itemE.all_length ht]
    show (xs.take k).length * 5 = k * 5
    simp; omega
  have h0 : StX X w0 w (Res.row 43 5 (.slice (some ⟨g, 0, none⟩) xs.length c) xs.length (itemE.all xs ps) :: (itemE.ress xs ps ++ l)) := h
  have hs := World.ownsRow.stored h0.head (k * 5 + j) v
  have ev : (itemE.all xs ps).set (k * 5 + j) v = itemE.all (xs.set k y) (ps.set k q) := by
    have e3 : itemE.all (xs.set k y) (ps.set k q) = itemE.all (xs.take k) (ps.take k) ++ (itemL y q ++ itemE.all (xs.drop (k + 1)) (ps.drop (k + 1))) := by
      rw [List.set_eq_take_append_cons_drop, if_pos hk, List.set_eq_take_append_cons_drop, if_pos (show k < ps.length by omega), itemE.all_split ht]
      rfl
    rw [e3, eall, List.set_append_right _ _ (by omega), ha, Nat.add_sub_cancel_left, List.set_append_left _ _ (by simpa using hj), e]
  rw [ev] at hs
  have h1 := h0.write hs.1 hs.2
  obtain ⟨r1, r2⟩ := ress_set hl hx hp y q
  have h2 := (h1.perm (l' := itemE.res x p ++ (itemRw g c xs.length (xs.set k y) (ps.set k q) :: (itemE.ress (xs.take k) (ps.take k) ++ (itemE.ress (xs.drop (k + 1)) (ps.drop (k + 1)) ++ l)))) (by
    rw [r1]
    exact perm_out _ _ _ _ _))
  have h3 := hr _ _ h2
  have h4 := h3.perm (perm_out _ _ _ _ _).symm
  show StX X w0 _ ((Res.row 43 5 (.slice (some ⟨g, 0, none⟩) (xs.set k y).length c) (xs.set k y).length (itemE.all (xs.set k y) (ps.set k q)) :: itemE.ress (xs.set k y) (ps.set k q)) ++ l)
  rw [List.length_set, r2]
  exact h4
theorem items_rc {X : Nat → Prop} {w0 w : World} {ao : Option Addr} {c : Nat} {xs : List ItemD} {ps : List ItemV} {l : List Res} (h : StX X w0 w (itemsR ao c xs ps ++ l)) (hl : ps.length = xs.length) {k : Nat} {x : ItemD} {p : ItemV} (hx : xs[k]? = some x) (hp : ps[k]? = some p) {f : Nat} (hf : p.a1 = some ⟨f, 0, none⟩) {i : Nat} {r : RcptD} (hr : x.rc[i]? = some r) (j : Nat) (hj : j < 4) (v : Value) (r' : RcptD) (e : rcptL r' = (rcptL r).set j v) :
    StX X w0 (w.setCell ⟨f, i * 4 + j, none⟩ v) (itemsR ao c (xs.set k ⟨x.id, x.fu, x.fd, x.rc.set i r', x.body⟩) ps ++ l) := by
  obtain ⟨a1, c1, a2, c2⟩ := p
  dsimp only at hf
  subst hf
  obtain ⟨r1, r2⟩ := ress_set hl hx hp ⟨x.id, x.fu, x.fd, x.rc.set i r', x.body⟩ ⟨some ⟨f, 0, none⟩, c1, a2, c2⟩
  rw [set_self' hp] at r2
  have h0 : StX X w0 w (Res.row 43 5 (.slice ao xs.length c) xs.length (itemE.all xs ps) :: (itemE.ress xs ps ++ l)) := h
  rw [r1] at h0
  have h2 := h0.perm (perm_out _ _ _ _ _)
  have h3 : StX X w0 w (rcptsR (some ⟨f, 0, none⟩) c1 x.rc :: (strsR a2 c2 x.body :: (Res.row 43 5 (.slice ao xs.length c) xs.length (itemE.all xs ps) :: (itemE.ress (xs.take k) (ps.take k) ++ (itemE.ress (xs.drop (k + 1)) (ps.drop (k + 1)) ++ l))))) := h2
  have h4 := rcpt_set h3 hr j hj v r' e
  have h5 := StX.perm (l := itemE.res ⟨x.id, x.fu, x.fd, x.rc.set i r', x.body⟩ ⟨some ⟨f, 0, none⟩, c1, a2, c2⟩ ++ (Res.row 43 5 (.slice ao xs.length c) xs.length (itemE.all xs ps) :: (itemE.ress (xs.take k) (ps.take k) ++ (itemE.ress (xs.drop (k + 1)) (ps.drop (k + 1)) ++ l)))) h4 (perm_out _ _ _ _ _).symm
  have ea : itemE.all (xs.set k ⟨x.id, x.fu, x.fd, x.rc.set i r', x.body⟩) ps = itemE.all xs ps := all_same hl hx hp _ (by unfold itemL; rw [List.length_set])
  show StX X w0 _ ((Res.row 43 5 (.slice ao (xs.set k _).length c) (xs.set k _).length (itemE.all (xs.set k _) ps) :: itemE.ress (xs.set k _) ps) ++ l)
  rw [List.length_set, ea, r2]
  exact h5
theorem Rd.far {B b P g j : Nat} {w : World} (h : Rd B b P w) (hg : b < g) (v : Value) : Rd B b P (w.setCell ⟨g, j, none⟩ v) := h.set hg v
/-- 'one', of a row of numbers that lies anywhere. -/
theorem one_any {B b P k n : Nat} (xs : List Int) {w : World} (h : Rd B b P w) (hc : CellsM w k (xs.map (Value.int .i64))) (hk : k ≠ b) (hP : P ≤ 1000000) (hn : n = xs.length) (h0 : 1 ≤ xs.length) (h1 : xs.length ≤ 1000000) :
    Calls Tryz.prog 58 #[.pointer (some ⟨b, 0, none⟩), .slice (some ⟨k, 0, none⟩) n n] w fun e w' => ∃ x : Int, x ∈ xs ∧ e = .returned (.int .i64 x) ∧ Rd B b (P + 1) w' ∧ w.grownBy w' (some b) := by
  subst hn
  have HC := Lib.hid hc
  clear hc
  go_enter Tryz.func58, Tryz.ntmps58
  go_wp2_with fail
  refine (pick_at1 xs.length h rfl hP h0 h1).mono ?_
  rintro e w1 ⟨i, rfl, hi, h2, g2⟩
  obtain ⟨x, hx⟩ : ∃ x, xs[i]? = some x := ⟨_, List.getElem?_eq_getElem hi⟩
  have hc1 : w1.cell? ⟨k, i, none⟩ = some (.int .i64 x) := g2.cell (HC.out.c i _ (by rw [List.getElem?_map, hx]; rfl)) (fun e => hk (Option.some.inj e))
  have HX := Lib.hid (List.mem_of_getElem? hx)
  have H2 := Lib.hid h2
  have G2 := Lib.hid g2
  clear hx h2 g2
  go_wp2
  go_ret
  exact ⟨x, HX.out, rfl, H2.out, G2.out⟩
theorem itm_id {x : ItemD} (i : Int) (h : itemN x ≤ 1000) : itemN ⟨i, x.fu, x.fd, x.rc, x.body⟩ ≤ 1000 := h
theorem itm_nil {x : ItemD} (h : itemN x ≤ 1000) : itemN ⟨x.id, x.fu, x.fd, [], x.body⟩ ≤ 1000 := by
  unfold itemN at h ⊢
  have e : rowN rcptN [] = 0 := rfl
  dsimp only
  omega
theorem itm_try {x : ItemD} {r : RcptD} (t : Int) (hr : x.rc[0]? = some r) (h : itemN x ≤ 1000) : itemN ⟨x.id, x.fu, x.fd, x.rc.set 0 ⟨r.u, r.d, t, r.next⟩, x.body⟩ ≤ 1000 := by
  have h2 := sumN_set rcptN (y := (⟨r.u, r.d, t, r.next⟩ : RcptD)) hr
  unfold itemN at h ⊢
  dsimp only
  rw [rowN_eq] at h ⊢
  rw [List.length_set]
  have e0 : rcptN (⟨r.u, r.d, t, r.next⟩ : RcptD) = rcptN r := rfl
  omega
theorem ret_sp {v : Array Value} {s : SpoolD} {ao : Option Addr} {c : Nat} (h : v = spoolV s ao c) : Ending.returned (.agg v) = .returned (.agg (spoolV s ao c)) := by rw [h]
set_option maxHeartbeats 12800000 in
set_option maxRecDepth 100000 in
theorem l20AnySpool_any (B b P : Nat) (w : World) (h : Rd B b P w) (hP : P ≤ 300000) :
    Calls Tryz.prog 56 #[.pointer (some ⟨b, 0, none⟩)] w fun e w' => ∃ s ao c ps, e = .returned (.agg (spoolV s ao c)) ∧ SplA s ∧ ps.length = s.items.length ∧ Dw B b (P + 610) w w' (itemsR ao c s.items ps) := by
  have D0 : Seal _ := ⟨(Dw.start h).alloc #[.int .i64 0, .slice none 0 0] 25⟩
  clear h
  go_enter Tryz.func56, Tryz.ntmps56
  go_wp2_with fail
  refine (l20Spool_any B b P _ D0.out.rd hP).mono ?_
  rintro e w2 ⟨s, ao, c, ps, rfl, hs, hl, k2⟩
  have HS : Seal _ := ⟨hs⟩
  have HL : Seal _ := ⟨hl⟩
  have hlen := hs.len
  have D2 : Seal (Dw B b (P + 600) w (w2.alloc (.cells #[.int .i64 s.last, .slice ao s.items.length c] 25)) (itemsR ao c s.items ps ++ [spB w2.heap.size s ao c, Res.cells w.heap.size [.int .i64 0, .slice none 0 0]])) := ⟨((D0.out.join k2).alloc #[.int .i64 s.last, .slice ao s.items.length c] 25).perm (perm_mid _ _ _)⟩
  clear hs hl k2 D0
  by_cases hz : s.items.length = 0
  · have hz0 : ¬ (0 : Int) < (s.items.length : Int) := by omega
    clear hz
    have RC := Dw.boxC (J := itemsR (ao) c (s).items ps) (I := []) D2.out
    have r0 := RC.c 0 _ rfl
    have r1 := RC.c 1 _ rfl
    have f0 := RC.f 0 (by simp)
    have f1 := RC.f 1 (by simp)
    have rl := RC.lt
    clear RC
    have KA := D2.out.boxA
    have k0 := KA.c 0 _ rfl
    have k1 := KA.c 1 _ rfl
    clear KA
    go_wp2
    refine bodyPost_ret (v := .agg #[.int .i64 s.last, .slice (ao) s.items.length c]) (by simp [results, Tryz.results56, go_sem, r0, r1]) rfl ⟨s, ao, c, ps, ret_sp rfl, HS.out.any, HL.out, ?_⟩
    exact (Dw.setC (J := itemsR (ao) c (s).items ps) (I := []) D2.out _ _).up (by omega)
  have hz0 : (0 : Int) < (s.items.length : Int) := by omega
  clear hz
  have KA := D2.out.boxA
  have k0 := KA.c 0 _ rfl
  have k1 := KA.c 1 _ rfl
  clear KA
  go_wp2_with fail
  refine (pick_at s.items.length D2.out.rd rfl (by omega) (by omega) (by omega)).mono ?_
  rintro e w3 ⟨k, rfl, hk, h3, g3⟩
  have D3 : Seal _ := ⟨D2.out.draw h3 g3⟩
  clear h3 g3 D2 k0 k1
  go_wp2_with fail
  refine (pick_at 14 D3.out.rd rfl (by omega) (by decide) (by decide)).mono ?_
  rintro e w4 ⟨n, rfl, hn, h4, g4⟩
  have D4 : Seal _ := ⟨D3.out.draw h4 g4⟩
  clear h4 g4 D3
  obtain ⟨x, hx⟩ : ∃ x, s.items[k]? = some x := ⟨_, List.getElem?_eq_getElem hk⟩
  obtain ⟨q, hq⟩ : ∃ q, ps[k]? = some q := ⟨_, List.getElem?_eq_getElem (by have := HL.out; omega)⟩
  have HX : Seal _ := ⟨hx⟩
  have HQ : Seal _ := ⟨hq⟩
  have HI : Seal _ := ⟨HS.out.is x (List.mem_of_getElem? hx)⟩
  obtain ⟨g, hga, _⟩ := itemCells D4.out.st hx hq
  clear hx hq
  subst hga
  have hk0 : (0 : Int) ≤ (k : Int) ∧ (k : Int) < (s.items.length : Int) := by omega
  have hrow : Seal (∀ {P W J}, Dw B b P w W (itemsR (some ⟨g, 0, none⟩) c s.items ps ++ J) → (itemRw g c s.items.length s.items ps).P W ∧ b < g) := ⟨fun h => ⟨h.st.head, by have h1 := (h.st.low g rfl).1; have h2 := h.lt; omega⟩⟩
  rcases (show n = 0 ∨ n = 1 ∨ n = 2 ∨ n = 3 ∨ 4 ≤ n by omega) with rfl | rfl | rfl | rfl | hn4
  · go_upto_region 6 with fail
    have D5 : Seal _ := ⟨D4.out.later (Below.refl _ _).drew⟩
    clear D4
    refine wp_region_held_drew (S := (fun w' => w'.cell? ⟨w2.heap.size, 1, none⟩ = some (.slice (some ⟨g, 0, none⟩) s.items.length c))) (by kernel_rfl) (D5.out.boxA.c 1 _ rfl) (fun hHeld => ?_)
    refine tkH 0 (by assumption) (h := ?_)
    refine tkH 1 (by assumption) (h := ?_)
    refine tkH 2 (by assumption) (h := ?_)
    refine tkH 3 (by assumption) (h := ?_)
    refine wpAnyH_ready (rs := [4]) (by kernel_rfl) (by simp) ?_
    refine AllReadyH.cons rfl (fun K hK => ?_) AllReadyH.nil
    have D6 : Seal _ := ⟨D5.out.alloc #[.int .i64 0, .int .i64 1, .int .i64 99] 3⟩
    have hbk : w4.drew.heap.size ≠ b := by have h1 := D5.out.st.size; have h2 := D5.out.lt; omega
    clear D5
    go_simp
    refine hK.out _ _ (D6.out.tail.boxA.c 1 _ rfl) (fun hHeld => ?_)
    clear hK K
    try simp only [Act.put, List.getElem_toArray, List.getElem_cons_succ, List.getElem_cons_zero, List.setIfInBounds_toArray, List.set_cons_zero, List.set_cons_succ]
    refine wpAnyH_ready (rs := [5]) (by kernel_rfl) (by simp) ?_
    refine AllReadyH.cons rfl (fun K hK => ?_) AllReadyH.nil
    try dsimp only at hHeld
    go_split_ands
    go_simp
    refine (one_any [0, 1, 99] D6.out.rd D6.out.st.head hbk (by omega) rfl (by decide) (by decide)).mono ?_
    rintro e w6 ⟨v, hv, rfl, h6, g6⟩
    have D7 : Seal _ := ⟨(D6.out.draw h6 g6).tail⟩
    clear h6 g6 D6 hbk hv
    refine hK.out _ _ (D7.out.boxA.c 1 _ rfl) (fun hHeld => ?_)
    clear hK K
    try simp only [Act.put, List.getElem_toArray, List.getElem_cons_succ, List.getElem_cons_zero, List.setIfInBounds_toArray, List.set_cons_zero, List.set_cons_succ]
    refine tkH 6 (by assumption) (h := ?_)
    refine tkH 7 (by assumption) (h := ?_)
    refine wpAnyH_ready (rs := [8]) (by kernel_rfl) (by simp) ?_
    refine AllReadyH.cons rfl (fun K hK => ?_) AllReadyH.nil
    have oc := item_at (hrow.out D7.out).1 rfl HX.out HQ.out 0 (by decide) rfl
    rw [Nat.add_zero] at oc
    obtain ⟨oc, of⟩ := oc
    have D8 : Seal (Dw B b _ w (w6.setCell ⟨g, k * 5, none⟩ (.int .i64 v)) _) := ⟨D7.out.st' (items_put D7.out.st HL.out HX.out HQ.out 0 (by decide) (.int .i64 v) ⟨v, x.fu, x.fd, x.rc, x.body⟩ q rfl (fun W l' h => h)) (D7.out.rd.set (hrow.out D7.out).2 _)⟩
    rw [set_self' HQ.out] at D8
    go_simp
    refine hK.out _ _ (D8.out.boxA.c 1 _ rfl) (fun hHeld => ?_)
    clear hK K
    try simp only [Act.put, List.getElem_toArray, List.getElem_cons_succ, List.getElem_cons_zero, List.setIfInBounds_toArray, List.set_cons_zero, List.set_cons_succ]
    clear oc of D7
    refine wpAnyH_done (by kernel_rfl) ?_ _
    generalize w6.setCell ⟨g, k * 5, none⟩ (.int .i64 v) = w9 at *
    have RC := Dw.boxC (J := itemsR (some ⟨g, 0, none⟩) c ((⟨s.last, s.items.set k ⟨v, x.fu, x.fd, x.rc, x.body⟩⟩ : SpoolD)).items ps) (I := []) D8.out
    have r0 := RC.c 0 _ rfl
    have r1 := RC.c 1 _ rfl
    have f0 := RC.f 0 (by simp)
    have f1 := RC.f 1 (by simp)
    have rl := RC.lt
    clear RC
    have KA := D8.out.boxA
    have k0 := KA.c 0 _ rfl
    have k1 := KA.c 1 _ rfl
    clear KA
    go_wp2
    refine bodyPost_ret (v := .agg #[.int .i64 s.last, .slice (some ⟨g, 0, none⟩) s.items.length c]) (by simp [results, Tryz.results56, go_sem, r0, r1]) rfl ⟨(⟨s.last, s.items.set k ⟨v, x.fu, x.fd, x.rc, x.body⟩⟩ : SpoolD), some ⟨g, 0, none⟩, c, ps, ret_sp (by unfold spoolV; rw [List.length_set]), HS.out.any.set HI.out.n, by rw [List.length_set]; exact HL.out, ?_⟩
    exact (Dw.setC (J := itemsR (some ⟨g, 0, none⟩) c ((⟨s.last, s.items.set k ⟨v, x.fu, x.fd, x.rc, x.body⟩⟩ : SpoolD)).items ps) (I := []) D8.out _ _).up (by omega)
  · have oc := item_at (hrow.out D4.out).1 rfl HX.out HQ.out 3 (by decide) rfl
    obtain ⟨oc, of⟩ := oc
    have D8 : Seal (Dw B b _ w (w4.setCell ⟨g, k * 5 + 3, none⟩ (.slice none 0 0)) _) := ⟨D4.out.st' (items_put D4.out.st HL.out HX.out HQ.out 3 (by decide) (.slice none 0 0) ⟨x.id, x.fu, x.fd, [], x.body⟩ ⟨none, 0, q.a2, q.c2⟩ rfl (fun W l' h => (StX.tail h).nothing 105 4)) (D4.out.rd.set (hrow.out D4.out).2 _)⟩
    have KB := D4.out.boxA
    have j0 := KB.c 0 _ rfl
    have j1 := KB.c 1 _ rfl
    clear KB D4
    have RC := Dw.boxC (J := itemsR (some ⟨g, 0, none⟩) c ((⟨s.last, s.items.set k ⟨x.id, x.fu, x.fd, [], x.body⟩⟩ : SpoolD)).items (ps.set k ⟨none, 0, q.a2, q.c2⟩)) (I := []) D8.out
    have r0 := RC.c 0 _ rfl
    have r1 := RC.c 1 _ rfl
    have f0 := RC.f 0 (by simp)
    have f1 := RC.f 1 (by simp)
    have rl := RC.lt
    clear RC
    have KA := D8.out.boxA
    have k0 := KA.c 0 _ rfl
    have k1 := KA.c 1 _ rfl
    clear KA
    go_wp2
    refine bodyPost_ret (v := .agg #[.int .i64 s.last, .slice (some ⟨g, 0, none⟩) s.items.length c]) (by simp [results, Tryz.results56, go_sem, r0, r1]) rfl ⟨(⟨s.last, s.items.set k ⟨x.id, x.fu, x.fd, [], x.body⟩⟩ : SpoolD), some ⟨g, 0, none⟩, c, (ps.set k ⟨none, 0, q.a2, q.c2⟩), ret_sp (by unfold spoolV; rw [List.length_set]), HS.out.any.set (itm_nil HI.out.n), by rw [List.length_set, List.length_set]; exact HL.out, ?_⟩
    exact (Dw.setC (J := itemsR (some ⟨g, 0, none⟩) c ((⟨s.last, s.items.set k ⟨x.id, x.fu, x.fd, [], x.body⟩⟩ : SpoolD)).items (ps.set k ⟨none, 0, q.a2, q.c2⟩)) (I := []) D8.out _ _).up (by omega)
  · obtain ⟨qa, qc, qa2, qc2⟩ := q
    have hr1 := HI.out.rc
    obtain ⟨r, hr⟩ : ∃ r, x.rc[0]? = some r := ⟨_, List.getElem?_eq_getElem (by omega)⟩
    have hmem : ∀ J, rcptsR qa qc x.rc ∈ itemsR (some ⟨g, 0, none⟩) c s.items ps ++ J := fun J => List.mem_append_left _ (List.mem_cons_of_mem _ (itemE.mem_ress HX.out HQ.out List.mem_cons_self))
    have hrow0 : World.ownsRow w4 0 105 4 (.slice qa x.rc.length qc) x.rc.length (rcptE.all x.rc (ones x.rc)) := D4.out.st.get (hmem _)
    obtain ⟨f, hf⟩ : ∃ f, qa = some ⟨f, 0, none⟩ := by
      rcases slice_or hrow0 with hz | ⟨f, hf⟩
      · omega
      · exact ⟨f, hf⟩
    subst hf
    have hrc : Seal (∀ {P W J}, Dw B b P w W (itemsR (some ⟨g, 0, none⟩) c s.items ps ++ J) → (rcptsR (some ⟨f, 0, none⟩) qc x.rc).P W ∧ b < f) := ⟨fun h => ⟨h.st.get (hmem _), by have h1 := ((h.st.fits _ (hmem _)).2 f rfl).1; have h2 := h.lt; omega⟩⟩
    have HR : Seal _ := ⟨hr⟩
    have hr0 : 0 < x.rc.length := by omega
    clear hrow0 hr hmem
    go_upto_region 10 with fail
    have D5 : Seal _ := ⟨D4.out.later (Below.refl _ _).drew⟩
    clear D4
    refine wp_region_held_drew (S := (fun w' => w'.cell? ⟨w2.heap.size, 1, none⟩ = some (.slice (some ⟨g, 0, none⟩) s.items.length c) ∧ w'.cell? ⟨g, k * 5 + 3, none⟩ = some (.slice (some ⟨f, 0, none⟩) x.rc.length qc))) (by kernel_rfl) ⟨D5.out.boxA.c 1 _ rfl, (item_at (hrow.out D5.out).1 rfl HX.out HQ.out 3 (by decide) rfl).1⟩ (fun hHeld => ?_)
    refine tkH 0 (by assumption) (h := ?_)
    refine tkH 1 (by assumption) (h := ?_)
    refine tkH 2 (by assumption) (h := ?_)
    refine tkH 3 (by assumption) (h := ?_)
    refine tkH 4 (by assumption) (h := ?_)
    refine tkH 5 (by assumption) (h := ?_)
    refine tkH 6 (by assumption) (h := ?_)
    refine wpAnyH_ready (rs := [7]) (by kernel_rfl) (by simp) ?_
    refine AllReadyH.cons rfl (fun K hK => ?_) AllReadyH.nil
    have D6 : Seal _ := ⟨D5.out.alloc #[.int .i64 (-1), .int .i64 4] 3⟩
    have hbk : w4.drew.heap.size ≠ b := by have h1 := D5.out.st.size; have h2 := D5.out.lt; omega
    clear D5
    go_simp
    refine hK.out _ _ ⟨D6.out.tail.boxA.c 1 _ rfl, (item_at (hrow.out D6.out.tail).1 rfl HX.out HQ.out 3 (by decide) rfl).1⟩ (fun hHeld => ?_)
    clear hK K
    try simp only [Act.put, List.getElem_toArray, List.getElem_cons_succ, List.getElem_cons_zero, List.setIfInBounds_toArray, List.set_cons_zero, List.set_cons_succ]
    refine wpAnyH_ready (rs := [8]) (by kernel_rfl) (by simp) ?_
    refine AllReadyH.cons rfl (fun K hK => ?_) AllReadyH.nil
    try dsimp only at hHeld
    go_split_ands
    go_simp
    refine (one_any [-1, 4] D6.out.rd D6.out.st.head hbk (by omega) rfl (by decide) (by decide)).mono ?_
    rintro e w6 ⟨v, hv, rfl, h6, g6⟩
    have D7 : Seal _ := ⟨(D6.out.draw h6 g6).tail⟩
    clear h6 g6 D6 hbk hv
    refine hK.out _ _ ⟨D7.out.boxA.c 1 _ rfl, (item_at (hrow.out D7.out).1 rfl HX.out HQ.out 3 (by decide) rfl).1⟩ (fun hHeld => ?_)
    clear hK K
    try simp only [Act.put, List.getElem_toArray, List.getElem_cons_succ, List.getElem_cons_zero, List.setIfInBounds_toArray, List.set_cons_zero, List.set_cons_succ]
    refine tkH 9 (by assumption) (h := ?_)
    refine tkH 10 (by assumption) (h := ?_)
    refine wpAnyH_ready (rs := [11]) (by kernel_rfl) (by simp) ?_
    refine AllReadyH.cons rfl (fun K hK => ?_) AllReadyH.nil
    have oc := rcpt_at (hrc.out D7.out).1 HR.out 2 (by decide) rfl
    obtain ⟨oc, of⟩ := oc
    have D8 : Seal (Dw B b _ w (w6.setCell ⟨f, 2, none⟩ (.int .i64 v)) _) := ⟨D7.out.st' (items_rc D7.out.st HL.out HX.out HQ.out rfl HR.out 2 (by decide) (.int .i64 v) ⟨r.u, r.d, v, r.next⟩ rfl) (D7.out.rd.set (hrc.out D7.out).2 _)⟩
    have oi := (item_at (hrow.out D7.out).1 rfl HX.out HQ.out 3 (by decide) rfl).1
    go_simp
    refine hK.out _ _ ⟨D8.out.boxA.c 1 _ rfl, by have h := (item_at (xs := s.items.set k ⟨x.id, x.fu, x.fd, x.rc.set 0 ⟨r.u, r.d, v, r.next⟩, x.body⟩) (n := (s.items.set k ⟨x.id, x.fu, x.fd, x.rc.set 0 ⟨r.u, r.d, v, r.next⟩, x.body⟩).length) D8.out.st.head rfl (List.getElem?_set_self hk) HQ.out 3 (by decide) rfl).1; rw [List.length_set] at h; exact h⟩ (fun hHeld => ?_)
    clear hK K
    try simp only [Act.put, List.getElem_toArray, List.getElem_cons_succ, List.getElem_cons_zero, List.setIfInBounds_toArray, List.set_cons_zero, List.set_cons_succ]
    clear oc of oi D7
    refine wpAnyH_done (by kernel_rfl) ?_ _
    generalize w6.setCell ⟨f, 2, none⟩ (.int .i64 v) = w9 at *
    have RC := Dw.boxC (J := itemsR (some ⟨g, 0, none⟩) c ((⟨s.last, s.items.set k ⟨x.id, x.fu, x.fd, x.rc.set 0 ⟨r.u, r.d, v, r.next⟩, x.body⟩⟩ : SpoolD)).items ps) (I := []) D8.out
    have r0 := RC.c 0 _ rfl
    have r1 := RC.c 1 _ rfl
    have f0 := RC.f 0 (by simp)
    have f1 := RC.f 1 (by simp)
    have rl := RC.lt
    clear RC
    have KA := D8.out.boxA
    have k0 := KA.c 0 _ rfl
    have k1 := KA.c 1 _ rfl
    clear KA
    go_wp2
    refine bodyPost_ret (v := .agg #[.int .i64 s.last, .slice (some ⟨g, 0, none⟩) s.items.length c]) (by simp [results, Tryz.results56, go_sem, r0, r1]) rfl ⟨(⟨s.last, s.items.set k ⟨x.id, x.fu, x.fd, x.rc.set 0 ⟨r.u, r.d, v, r.next⟩, x.body⟩⟩ : SpoolD), some ⟨g, 0, none⟩, c, ps, ret_sp (by unfold spoolV; rw [List.length_set]), HS.out.any.set (itm_try v HR.out HI.out.n), by rw [List.length_set]; exact HL.out, ?_⟩
    exact (Dw.setC (J := itemsR (some ⟨g, 0, none⟩) c ((⟨s.last, s.items.set k ⟨x.id, x.fu, x.fd, x.rc.set 0 ⟨r.u, r.d, v, r.next⟩, x.body⟩⟩ : SpoolD)).items ps) (I := []) D8.out _ _).up (by omega)
  · have KA := D4.out.boxA
    have k0 := KA.c 0 _ rfl
    have k1 := KA.c 1 _ rfl
    clear KA
    go_wp2_with fail
    refine (one_int [-1, 0, 1000, 999] D4.out.rd rfl (by omega) rfl rfl (by decide) (by decide)).mono ?_
    rintro e w6 ⟨v, hv, rfl, h6, g6⟩
    have D7 : Seal _ := ⟨D4.out.draw h6 g6⟩
    clear h6 g6 D4 k0 k1 hv
    have KB := D7.out.boxA
    have j0 := KB.c 0 _ rfl
    have j1 := KB.c 1 _ rfl
    have of0 := KB.f 0 (by simp)
    have ofl := KB.lt
    clear KB
    have D8 : Seal (Dw B b _ w (w6.setCell ⟨w2.heap.size, 0, none⟩ (.int .i64 v)) (itemsR (some ⟨g, 0, none⟩) c s.items ps ++ [Res.cells w2.heap.size [.int .i64 v, .slice (some ⟨g, 0, none⟩) s.items.length c], _])) := ⟨D7.out.setA0 (.int .i64 v)⟩
    clear D7
    have RC := Dw.boxC (J := itemsR (some ⟨g, 0, none⟩) c ((⟨v, s.items⟩ : SpoolD)).items ps) (I := []) D8.out
    have r0 := RC.c 0 _ rfl
    have r1 := RC.c 1 _ rfl
    have f0 := RC.f 0 (by simp)
    have f1 := RC.f 1 (by simp)
    have rl := RC.lt
    clear RC
    have KA := D8.out.boxA
    have k0 := KA.c 0 _ rfl
    have k1 := KA.c 1 _ rfl
    clear KA
    go_wp2
    refine bodyPost_ret (v := .agg #[.int .i64 v, .slice (some ⟨g, 0, none⟩) s.items.length c]) (by simp [results, Tryz.results56, go_sem, r0, r1]) rfl ⟨(⟨v, s.items⟩ : SpoolD), some ⟨g, 0, none⟩, c, ps, ret_sp rfl, ⟨HS.out.any.len, HS.out.any.is⟩, HL.out, ?_⟩
    exact (Dw.setC (J := itemsR (some ⟨g, 0, none⟩) c ((⟨v, s.items⟩ : SpoolD)).items ps) (I := []) D8.out _ _).up (by omega)
  · have e0 : ((n : Int) == 0) = false := by rw [beq_eq_false_iff_ne]; omega
    have e1 : ((n : Int) == 1) = false := by rw [beq_eq_false_iff_ne]; omega
    have e2 : ((n : Int) == 2) = false := by rw [beq_eq_false_iff_ne]; omega
    have e3 : ((n : Int) == 3) = false := by rw [beq_eq_false_iff_ne]; omega
    have RC := Dw.boxC (J := itemsR (some ⟨g, 0, none⟩) c (s).items ps) (I := []) D4.out
    have r0 := RC.c 0 _ rfl
    have r1 := RC.c 1 _ rfl
    have f0 := RC.f 0 (by simp)
    have f1 := RC.f 1 (by simp)
    have rl := RC.lt
    clear RC
    have KA := D4.out.boxA
    have k0 := KA.c 0 _ rfl
    have k1 := KA.c 1 _ rfl
    clear KA
    go_wp2
    refine bodyPost_ret (v := .agg #[.int .i64 s.last, .slice (some ⟨g, 0, none⟩) s.items.length c]) (by simp [results, Tryz.results56, go_sem, r0, r1]) rfl ⟨s, some ⟨g, 0, none⟩, c, ps, ret_sp rfl, HS.out.any, HL.out, ?_⟩
    exact (Dw.setC (J := itemsR (some ⟨g, 0, none⟩) c (s).items ps) (I := []) D4.out _ _).up (by omega)
end Go.Proofs.YtcaknjdolfheaaaGreatDoor
namespace Go.Proofs.YtcaknjdolfheaaaGreatDoor
open Go Go.RowKit

theorem Dw.ne {B b P k : Nat} {w0 w : World} {xs : List Value} {l : List Res} (h : Dw B b P w0 w (Res.cells k xs :: l)) : k ≠ b := by
  have h1 := (h.st.low k rfl).1
  have h2 := h.lt
  omega
theorem Dw.cut2 {B b P : Nat} {w0 w : World} {a r : Res} {l : List Res} (h : Dw B b P w0 w (a :: r :: l)) : Dw B b P w0 w l := h.tail.tail
theorem Dw.cut3 {B b P : Nat} {w0 w : World} {a r q : Res} {l : List Res} (h : Dw B b P w0 w (a :: r :: q :: l)) : Dw B b P w0 w l := h.tail.tail.tail
/-- What was drawn goes to the caller's own parts: the reader lies in new memory, in none of them. -/
theorem StX.drawn2 {B b P : Nat} {w0 w1 w : World} {l l' : List Res} (S : St w0 w1 l) (D : Dw B b P w1 w l') (hb : w0.heap.size ≤ b) (hn : ∀ r ∈ l, ¬ r.S b) : St w0 w (l' ++ l) := by
  have G := D.st.grown
  have G0 := S.grown
  refine ⟨⟨G.os.trans G0.os, G.tape.trans G0.tape, G.output.trans G0.output, Nat.le_trans G0.size G.size, fun i hi _ => (G.block i (Nat.lt_of_lt_of_le hi G0.size) (by omega)).trans (G0.block i hi (fun e => e))⟩, fun r hr => ?_, List.pairwise_append.2 ⟨D.st.apart, S.apart, fun r hr q hq i hi hj => ?_⟩⟩
  · rcases List.mem_append.1 hr with hr | hr
    · exact ⟨(D.st.fits r hr).1, fun i hi => ⟨Nat.le_trans G0.size ((D.st.fits r hr).2 i hi).1, ((D.st.fits r hr).2 i hi).2⟩⟩
    · exact ⟨r.loc w1 w (S.fits r hr).1 G.size fun i hi => G.block i ((S.fits r hr).2 i hi).2 fun e => hn r hr (e ▸ hi), fun i hi => ⟨((S.fits r hr).2 i hi).1, Nat.lt_of_lt_of_le ((S.fits r hr).2 i hi).2 G.size⟩⟩
  · have h1 := ((D.st.fits r hr).2 i hi).1
    have h2 := ((S.fits q hq).2 i hj).2
    omega
theorem perm_at0of1 {α : Type} (L : List α) (a : α) : (L ++ [a]).Perm (a :: L) := List.perm_append_comm
theorem perm_at0of2 {α : Type} (L : List α) (a b : α) : (L ++ [a, b]).Perm (a :: (L ++ [b])) := List.perm_middle
theorem perm_at1of2 {α : Type} (L : List α) (a b : α) : (L ++ [a, b]).Perm (b :: (L ++ [a])) := by
  have e : L ++ [a, b] = (L ++ [a]) ++ [b] := by simp
  rw [e]
  exact List.perm_append_comm
theorem own_parts {w0 w : World} {a : Res} {I l : List Res} (h : St w0 w (a :: I ++ l)) : St w0 w I := h.first.tail
theorem own_partsA {w0 w : World} {a r : Res} {I l : List Res} (h : St w0 w (a :: r :: I ++ l)) : St w0 w I := h.first.tail.tail
theorem own_partsM {w0 w : World} {m a : Res} {I l : List Res} (h : St w0 w (m :: a :: I ++ l)) : St w0 w (m :: I) := h.first.two.tail
/-- What is drawn of a spool: a number, an address that is not large. -/
def OfP (B b P : Nat) (w0 : World) (l : List Res) (e : Ending) (w' : World) : Prop := ∃ (i : Int) (u d : ByteArray), e = .returned (.tuple #[.int .i64 i, .agg #[.string u, .string d]]) ∧ u.size ≤ 1000 ∧ d.size ≤ 1000 ∧ Dw B b P w0 w' l

set_option maxHeartbeats 12800000 in
set_option maxRecDepth 100000 in
theorem l20Of_any (B b P : Nat) (s : SpoolD) (ao : Option Addr) (c : Nat) (ps : List ItemV) (hl : ps.length = s.items.length) (hA : SplA s) (l : List Res) (w0 w : World) (h : Dw B b P w0 w (itemsR ao c s.items ps ++ l)) (hP : P ≤ 900000) :
    Calls Tryz.prog 146 #[.pointer (some ⟨b, 0, none⟩), .agg (spoolV s ao c)] w (OfP B b (P + 10) w0 (itemsR ao c s.items ps ++ l)) := by
  have HL : Seal _ := ⟨hl⟩
  have HA : Seal _ := ⟨hA⟩
  have hlen := hA.len
  have D0 : Seal (Dw B b P w0 ((w.alloc (.cells (spoolV s ao c) 25)).alloc (.cells #[.string { data := #[] }, .string { data := #[] }] 27)) (Res.cells (w.heap.size + 1) [.string { data := #[] }, .string { data := #[] }] :: Res.cells w.heap.size (spoolL s ao c) :: (itemsR ao c s.items ps ++ l))) := ⟨by
    have D := (h.alloc (spoolV s ao c) 25).alloc #[.string { data := #[] }, .string { data := #[] }] 27
    simp only [World.size_alloc] at D
    exact D⟩
  have k1 := D0.out.tail.st.head.c 1 _ rfl
  clear h hl hA
  go_enter Tryz.func146, Tryz.ntmps146
  by_cases hz : s.items.length = 0
  · have hz0 : ((s.items.length : Int) == 0) = true := by rw [beq_iff_eq]; omega
    clear hz
    go_wp2_with fail
    refine (pick_at 4 D0.out.rd rfl (by omega) (by decide) (by decide)).mono ?_
    rintro e w2 ⟨n, rfl, hn, h2, g2⟩
    have D2 : Seal _ := ⟨D0.out.draw h2 g2⟩
    clear h2 g2 D0 k1
    go_wp2_with fail
    refine (l20Addr_any B b _ _ D2.out.rd (by omega)).mono ?_
    rintro e w3 ⟨u, d, hu, hd, rfl, h3, g3⟩
    have D3 : Seal _ := ⟨D2.out.draw h3 g3⟩
    have zu : u.size ≤ 20 := small_of (by decide) hu
    have zd : d.size ≤ 20 := small_of (by decide) hd
    have K5 := D3.out.st.head
    have r0 := K5.c 0 _ rfl
    have r1 := K5.c 1 _ rfl
    have f0 := K5.f 0 (by simp)
    have f1 := K5.f 1 (by simp)
    have rl := K5.lt
    clear K5 h3 g3 D2 hu hd
    go_wp2
    refine bodyPost_ret (v := .tuple #[.int .i64 n, .agg #[.string u, .string d]]) (by simp [results, Tryz.results146, go_sem, r0, r1]) rfl ⟨n, u, d, rfl, by omega, by omega, ?_⟩
    exact (((D3.out.set 0 (.string u) (by simp)).set 1 (.string d) (by simp)).cut2).up (by omega)
  have hz0 : ((s.items.length : Int) == 0) = false := by rw [beq_eq_false_iff_ne]; omega
  have hzp : 0 < s.items.length := by omega
  clear hz
  go_wp2_with fail
  refine (pick_at 6 D0.out.rd rfl (by omega) (by decide) (by decide)).mono ?_
  rintro e w1 ⟨k, rfl, hk, h1, g1⟩
  have D1 : Seal _ := ⟨D0.out.draw h1 g1⟩
  clear h1 g1 D0 k1
  have k1 := D1.out.tail.st.head.c 1 _ rfl
  by_cases hk0 : k = 0
  · subst hk0
    go_wp2_with fail
    refine (pick_at 4 D1.out.rd rfl (by omega) (by decide) (by decide)).mono ?_
    rintro e w2 ⟨n, rfl, hn, h2, g2⟩
    have D2 : Seal _ := ⟨D1.out.draw h2 g2⟩
    clear h2 g2 D1 k1
    go_wp2_with fail
    refine (l20Addr_any B b _ _ D2.out.rd (by omega)).mono ?_
    rintro e w3 ⟨u, d, hu, hd, rfl, h3, g3⟩
    have D3 : Seal _ := ⟨D2.out.draw h3 g3⟩
    have zu : u.size ≤ 20 := small_of (by decide) hu
    have zd : d.size ≤ 20 := small_of (by decide) hd
    have K5 := D3.out.st.head
    have r0 := K5.c 0 _ rfl
    have r1 := K5.c 1 _ rfl
    have f0 := K5.f 0 (by simp)
    have f1 := K5.f 1 (by simp)
    have rl := K5.lt
    clear K5 h3 g3 D2 hu hd
    go_wp2
    refine bodyPost_ret (v := .tuple #[.int .i64 n, .agg #[.string u, .string d]]) (by simp [results, Tryz.results146, go_sem, r0, r1]) rfl ⟨n, u, d, rfl, by omega, by omega, ?_⟩
    exact (((D3.out.set 0 (.string u) (by simp)).set 1 (.string d) (by simp)).cut2).up (by omega)
  have hb0 : ((k : Int) == 0) = false := by rw [beq_eq_false_iff_ne]; omega
  obtain ⟨g, hg⟩ : ∃ g, ao = some ⟨g, 0, none⟩ := by
    have h0 : World.ownsRow w1 0 43 5 (.slice ao s.items.length c) s.items.length (itemE.all s.items ps) := D1.out.st.get (List.mem_cons_of_mem _ (List.mem_cons_of_mem _ (List.mem_append_left _ List.mem_cons_self)))
    rcases slice_or h0 with hz | ⟨g, hg⟩
    · omega
    · exact ⟨g, hg⟩
  subst hg
  have hrow : Seal (∀ {P W a r}, Dw B b P w0 W (a :: r :: (itemsR (some ⟨g, 0, none⟩) c s.items ps ++ l)) → (itemRw g c s.items.length s.items ps).P W) := ⟨fun h => h.st.get (List.mem_cons_of_mem _ (List.mem_cons_of_mem _ (List.mem_append_left _ List.mem_cons_self)))⟩
  go_upto_region 3 with fail
  clear k1
  go_cut [6] (fun s6 wx => ∃ (k6 i : Nat) (x : ItemD) (q : ItemV), s6 = .pointer (some ⟨k6, 0, none⟩) ∧ s.items[i]? = some x ∧ ps[i]? = some q ∧ Seal (Dw B b (P + 2) w0 wx (Res.cells k6 (itemL x q) :: Res.cells (w.heap.size + 1) [.string { data := #[] }, .string { data := #[] }] :: Res.cells w.heap.size (spoolL s (some ⟨g, 0, none⟩) c) :: (itemsR (some ⟨g, 0, none⟩) c s.items ps ++ l))))
  case first =>
    have D2 : Seal _ := ⟨D1.out.later (Below.refl _ _).drew⟩
    clear D1
    refine wp_region_held_drew (S := (fun w' => w'.cell? ⟨w.heap.size, 1, none⟩ = some (.slice (some ⟨g, 0, none⟩) s.items.length c))) (by kernel_rfl) (D2.out.tail.st.head.c 1 _ rfl) (fun hHeld => ?_)
    refine tkH 0 (by assumption) (h := ?_)
    refine tkH 1 (by assumption) (h := ?_)
    refine tkH 2 (by assumption) (h := ?_)
    refine tkH 3 (by assumption) (h := ?_)
    refine tkH 4 (by assumption) (h := ?_)
    refine tkH 5 (by assumption) (h := ?_)
    refine wpAnyH_ready (rs := [6, 9]) (by kernel_rfl) (by simp) ?_
    refine AllReadyH.cons rfl (fun K hK => ?_) (AllReadyH.cons rfl (fun K hK => ?_) AllReadyH.nil)
    · try dsimp only at hHeld
      go_split_ands
      go_simp
      refine (pick_at s.items.length D2.out.rd rfl (by omega) (by omega) (by omega)).mono ?_
      rintro e w5 ⟨i, rfl, hi, h5, g5⟩
      have D5 : Seal _ := ⟨D2.out.draw h5 g5⟩
      obtain ⟨x, hx⟩ : ∃ x, s.items[i]? = some x := ⟨_, List.getElem?_eq_getElem hi⟩
      obtain ⟨q, hq⟩ : ∃ q, ps[i]? = some q := ⟨_, List.getElem?_eq_getElem (by have := HL.out; omega)⟩
      have HX : Seal _ := ⟨hx⟩
      have HQ : Seal _ := ⟨hq⟩
      have hi0 : (0 : Int) ≤ (i : Int) ∧ (i : Int) < (s.items.length : Int) := by omega
      clear h5 g5 hx hq D2
      refine hK.out _ _ (D5.out.tail.st.head.c 1 _ rfl) (fun hHeld => ?_)
      clear hK K
      try simp only [Act.put, List.getElem_toArray, List.getElem_cons_succ, List.getElem_cons_zero, List.setIfInBounds_toArray, List.set_cons_zero, List.set_cons_succ]
      refine tkH 7 (by assumption) (h := ?_)
      refine wpAnyH_ready (rs := [8, 9]) (by kernel_rfl) (by simp) ?_
      refine AllReadyH.cons rfl (fun K hK => ?_) (AllReadyH.cons rfl (fun K hK => ?_) AllReadyH.nil)
      · have oc0 := (item_at (hrow.out D5.out) rfl HX.out HQ.out 0 (by decide) rfl).1
        have oc1 := (item_at (hrow.out D5.out) rfl HX.out HQ.out 1 (by decide) rfl).1
        have oc2 := (item_at (hrow.out D5.out) rfl HX.out HQ.out 2 (by decide) rfl).1
        have oc3 := (item_at (hrow.out D5.out) rfl HX.out HQ.out 3 (by decide) rfl).1
        have oc4 := (item_at (hrow.out D5.out) rfl HX.out HQ.out 4 (by decide) rfl).1
        rw [Nat.add_zero] at oc0
        go_simp
        refine hK.out _ _ (D5.out.tail.st.head.c 1 _ rfl) (fun hHeld => ?_)
        clear hK K
        try simp only [Act.put, List.getElem_toArray, List.getElem_cons_succ, List.getElem_cons_zero, List.setIfInBounds_toArray, List.set_cons_zero, List.set_cons_succ]
        clear oc0 oc1 oc2 oc3 oc4
        refine wpAnyH_ready (rs := [9]) (by kernel_rfl) (by simp) ?_
        refine AllReadyH.cons rfl (fun K hK => ?_) AllReadyH.nil
        have D6 : Seal _ := ⟨D5.out.alloc #[.int .i64 0, .string { data := #[] }, .string { data := #[] }, .slice none 0 0, .slice none 0 0] 43⟩
        have D6f : Seal _ := ⟨D5.out.alloc (itemV x q) 43⟩
        clear D5
        go_simp
        refine hK.out _ _ (D6.out.tail.tail.st.head.c 1 _ rfl) (fun hHeld => ?_)
        clear hK K
        try simp only [Act.put, List.getElem_toArray, List.getElem_cons_succ, List.getElem_cons_zero, List.setIfInBounds_toArray, List.set_cons_zero, List.set_cons_succ]
        refine wpAnyH_ready (rs := [10]) (by kernel_rfl) (by simp) ?_
        refine AllReadyH.cons rfl (fun K hK => ?_) AllReadyH.nil
        have K6 := D6.out.st.head
        have oc0 := K6.c 0 _ rfl
        have of0 := K6.f 0 (by simp)
        have oc1 := K6.c 1 _ rfl
        have of1 := K6.f 1 (by simp)
        have oc2 := K6.c 2 _ rfl
        have of2 := K6.f 2 (by simp)
        have oc3 := K6.c 3 _ rfl
        have of3 := K6.f 3 (by simp)
        have oc4 := K6.c 4 _ rfl
        have of4 := K6.f 4 (by simp)
        clear K6
        go_simp
        refine hK.out _ _ (D6f.out.tail.tail.st.head.c 1 _ rfl) (fun hHeld => ?_)
        clear hK K
        try simp only [Act.put, List.getElem_toArray, List.getElem_cons_succ, List.getElem_cons_zero, List.setIfInBounds_toArray, List.set_cons_zero, List.set_cons_succ]
        clear oc0 oc1 oc2 oc3 oc4 of0 of1 of2 of3 of4
        refine wpAnyH_done (by kernel_rfl) ?_ _
        go_wp2_with fail
        go_meet
        exact ⟨_, i, x, q, rfl, HX.out, HQ.out, ⟨D6f.out.up (by omega)⟩⟩
      · have D6 : Seal _ := ⟨D5.out.alloc #[.int .i64 0, .string { data := #[] }, .string { data := #[] }, .slice none 0 0, .slice none 0 0] 43⟩
        have D6f : Seal _ := ⟨D5.out.alloc (itemV x q) 43⟩
        clear D5
        go_simp
        refine hK.out _ _ (D6.out.tail.tail.st.head.c 1 _ rfl) (fun hHeld => ?_)
        clear hK K
        try simp only [Act.put, List.getElem_toArray, List.getElem_cons_succ, List.getElem_cons_zero, List.setIfInBounds_toArray, List.set_cons_zero, List.set_cons_succ]
        refine wpAnyH_ready (rs := [8]) (by kernel_rfl) (by simp) ?_
        refine AllReadyH.cons rfl (fun K hK => ?_) AllReadyH.nil
        have oc0 := (item_at (hrow.out D6.out.tail) rfl HX.out HQ.out 0 (by decide) rfl).1
        have oc1 := (item_at (hrow.out D6.out.tail) rfl HX.out HQ.out 1 (by decide) rfl).1
        have oc2 := (item_at (hrow.out D6.out.tail) rfl HX.out HQ.out 2 (by decide) rfl).1
        have oc3 := (item_at (hrow.out D6.out.tail) rfl HX.out HQ.out 3 (by decide) rfl).1
        have oc4 := (item_at (hrow.out D6.out.tail) rfl HX.out HQ.out 4 (by decide) rfl).1
        rw [Nat.add_zero] at oc0
        go_simp
        refine hK.out _ _ (D6.out.tail.tail.st.head.c 1 _ rfl) (fun hHeld => ?_)
        clear hK K
        try simp only [Act.put, List.getElem_toArray, List.getElem_cons_succ, List.getElem_cons_zero, List.setIfInBounds_toArray, List.set_cons_zero, List.set_cons_succ]
        clear oc0 oc1 oc2 oc3 oc4
        refine wpAnyH_ready (rs := [10]) (by kernel_rfl) (by simp) ?_
        refine AllReadyH.cons rfl (fun K hK => ?_) AllReadyH.nil
        have K6 := D6.out.st.head
        have oc0 := K6.c 0 _ rfl
        have of0 := K6.f 0 (by simp)
        have oc1 := K6.c 1 _ rfl
        have of1 := K6.f 1 (by simp)
        have oc2 := K6.c 2 _ rfl
        have of2 := K6.f 2 (by simp)
        have oc3 := K6.c 3 _ rfl
        have of3 := K6.f 3 (by simp)
        have oc4 := K6.c 4 _ rfl
        have of4 := K6.f 4 (by simp)
        clear K6
        go_simp
        refine hK.out _ _ (D6f.out.tail.tail.st.head.c 1 _ rfl) (fun hHeld => ?_)
        clear hK K
        try simp only [Act.put, List.getElem_toArray, List.getElem_cons_succ, List.getElem_cons_zero, List.setIfInBounds_toArray, List.set_cons_zero, List.set_cons_succ]
        clear oc0 oc1 oc2 oc3 oc4 of0 of1 of2 of3 of4
        refine wpAnyH_done (by kernel_rfl) ?_ _
        go_wp2_with fail
        go_meet
        exact ⟨_, i, x, q, rfl, HX.out, HQ.out, ⟨D6f.out.up (by omega)⟩⟩
    · have D4 : Seal (Dw B b _ w0 _ (Res.cells w1.heap.size [.int .i64 0, .string { data := #[] }, .string { data := #[] }, .slice none 0 0, .slice none 0 0] :: _)) := ⟨D2.out.alloc #[.int .i64 0, .string { data := #[] }, .string { data := #[] }, .slice none 0 0, .slice none 0 0] 43⟩
      clear D2
      go_simp
      refine hK.out _ _ (D4.out.tail.tail.st.head.c 1 _ rfl) (fun hHeld => ?_)
      clear hK K
      try simp only [Act.put, List.getElem_toArray, List.getElem_cons_succ, List.getElem_cons_zero, List.setIfInBounds_toArray, List.set_cons_zero, List.set_cons_succ]
      refine wpAnyH_ready (rs := [6]) (by kernel_rfl) (by simp) ?_
      refine AllReadyH.cons rfl (fun K hK => ?_) AllReadyH.nil
      try dsimp only at hHeld
      go_split_ands
      go_simp
      refine (pick_at s.items.length D4.out.rd rfl (by omega) (by omega) (by omega)).mono ?_
      rintro e w5 ⟨i, rfl, hi, h5, g5⟩
      have D5 : Seal _ := ⟨D4.out.draw h5 g5⟩
      obtain ⟨x, hx⟩ : ∃ x, s.items[i]? = some x := ⟨_, List.getElem?_eq_getElem hi⟩
      obtain ⟨q, hq⟩ : ∃ q, ps[i]? = some q := ⟨_, List.getElem?_eq_getElem (by have := HL.out; omega)⟩
      have HX : Seal _ := ⟨hx⟩
      have HQ : Seal _ := ⟨hq⟩
      have hi0 : (0 : Int) ≤ (i : Int) ∧ (i : Int) < (s.items.length : Int) := by omega
      clear h5 g5 hx hq D4
      refine hK.out _ _ (D5.out.tail.tail.st.head.c 1 _ rfl) (fun hHeld => ?_)
      clear hK K
      try simp only [Act.put, List.getElem_toArray, List.getElem_cons_succ, List.getElem_cons_zero, List.setIfInBounds_toArray, List.set_cons_zero, List.set_cons_succ]
      refine tkH 7 (by assumption) (h := ?_)
      refine wpAnyH_ready (rs := [8]) (by kernel_rfl) (by simp) ?_
      refine AllReadyH.cons rfl (fun K hK => ?_) AllReadyH.nil
      have oc0 := (item_at (hrow.out D5.out.tail) rfl HX.out HQ.out 0 (by decide) rfl).1
      have oc1 := (item_at (hrow.out D5.out.tail) rfl HX.out HQ.out 1 (by decide) rfl).1
      have oc2 := (item_at (hrow.out D5.out.tail) rfl HX.out HQ.out 2 (by decide) rfl).1
      have oc3 := (item_at (hrow.out D5.out.tail) rfl HX.out HQ.out 3 (by decide) rfl).1
      have oc4 := (item_at (hrow.out D5.out.tail) rfl HX.out HQ.out 4 (by decide) rfl).1
      rw [Nat.add_zero] at oc0
      go_simp
      refine hK.out _ _ (D5.out.tail.tail.st.head.c 1 _ rfl) (fun hHeld => ?_)
      clear hK K
      try simp only [Act.put, List.getElem_toArray, List.getElem_cons_succ, List.getElem_cons_zero, List.setIfInBounds_toArray, List.set_cons_zero, List.set_cons_succ]
      clear oc0 oc1 oc2 oc3 oc4
      refine wpAnyH_ready (rs := [10]) (by kernel_rfl) (by simp) ?_
      refine AllReadyH.cons rfl (fun K hK => ?_) AllReadyH.nil
      have K6 := D5.out.st.head
      have oc0 := K6.c 0 _ rfl
      have of0 := K6.f 0 (by simp)
      have oc1 := K6.c 1 _ rfl
      have of1 := K6.f 1 (by simp)
      have oc2 := K6.c 2 _ rfl
      have of2 := K6.f 2 (by simp)
      have oc3 := K6.c 3 _ rfl
      have of3 := K6.f 3 (by simp)
      have oc4 := K6.c 4 _ rfl
      have of4 := K6.f 4 (by simp)
      have D7 : Seal _ := ⟨(((((D5.out.set 0 (.int .i64 x.id) (by simp)).set 1 (.string x.fu) (by simp)).set 2 (.string x.fd) (by simp)).set 3 (.slice q.a1 x.rc.length q.c1) (by simp)).set 4 (.slice q.a2 x.body.length q.c2) (by simp))⟩
      clear K6
      go_simp
      refine hK.out _ _ (D7.out.tail.tail.st.head.c 1 _ rfl) (fun hHeld => ?_)
      clear hK K
      try simp only [Act.put, List.getElem_toArray, List.getElem_cons_succ, List.getElem_cons_zero, List.setIfInBounds_toArray, List.set_cons_zero, List.set_cons_succ]
      clear oc0 oc1 oc2 oc3 oc4 of0 of1 of2 of3 of4
      refine wpAnyH_done (by kernel_rfl) ?_ _
      go_wp2_with fail
      go_meet
      exact ⟨_, i, x, q, rfl, HX.out, HQ.out, ⟨D7.out.up (by omega)⟩⟩
  case rest =>
  obtain ⟨k6, i, x, q, rfl, hx, hq, D⟩ := hcut
  have HX : Seal _ := ⟨hx⟩
  have HQ : Seal _ := ⟨hq⟩
  have HN : Seal _ := ⟨HA.out.is x (List.mem_of_getElem? hx)⟩
  have hrl := (itemN_parts HN.out).2.2.1
  have D2 : Seal _ := ⟨D.out⟩
  clear D hx hq D1 hrow hz0 hb0
  generalize wc = w4 at *
  by_cases hr0 : x.rc.length = 0
  · have e0 : ((x.rc.length : Int) == 0) = true := by rw [beq_iff_eq]; omega
    clear hr0
    have j3 := D2.out.st.head.c 3 _ rfl
    go_upto_region 5 with fail
    clear j3
    have D3 : Seal _ := ⟨D2.out.later (Below.refl _ _).drew⟩
    clear D2
    refine wp_region_held_drew (S := (fun w' => w'.cell? ⟨k6, 0, none⟩ = some (.int .i64 x.id))) (by kernel_rfl) (D3.out.st.head.c 0 _ rfl) (fun hHeld => ?_)
    refine tkH 0 (by assumption) (h := ?_)
    refine tkH 1 (by assumption) (h := ?_)
    refine tkH 2 (by assumption) (h := ?_)
    refine wpAnyH_ready (rs := [3]) (by kernel_rfl) (by simp) ?_
    refine AllReadyH.cons rfl (fun K hK => ?_) AllReadyH.nil
    try dsimp only at hHeld
    go_split_ands
    go_simp
    refine (l20Addr_any B b _ _ D3.out.rd (by omega)).mono ?_
    rintro e w5 ⟨u, d, hu, hd, rfl, h5, g5⟩
    have D5 : Seal _ := ⟨D3.out.draw h5 g5⟩
    have ZU : u.size ≤ 1000 := Nat.le_trans (small_of (by decide) hu) (by decide)
    have ZD : d.size ≤ 1000 := Nat.le_trans (small_of (by decide) hd) (by decide)
    clear h5 g5 D3 hu hd
    refine hK.out _ _ (D5.out.st.head.c 0 _ rfl) (fun hHeld => ?_)
    clear hK K
    try simp only [Act.put, List.getElem_toArray, List.getElem_cons_succ, List.getElem_cons_zero, List.setIfInBounds_toArray, List.set_cons_zero, List.set_cons_succ]
    refine wpAnyH_ready (rs := [4]) (by kernel_rfl) (by simp) ?_
    refine AllReadyH.cons rfl (fun K hK => ?_) AllReadyH.nil
    go_simp
    refine hK.out _ _ (by assumption) (fun hHeld => ?_)
    clear hK K
    try simp only [Act.put, List.getElem_toArray, List.getElem_cons_succ, List.getElem_cons_zero, List.setIfInBounds_toArray, List.set_cons_zero, List.set_cons_succ]
    refine wpAnyH_ready (rs := [5]) (by kernel_rfl) (by simp) ?_
    refine AllReadyH.cons rfl (fun K hK => ?_) AllReadyH.nil
    have K5 := D5.out.two.st.head
    have oc0 := K5.c 0 _ rfl
    have oc1 := K5.c 1 _ rfl
    have of0 := K5.f 0 (by simp)
    have of1 := K5.f 1 (by simp)
    clear K5
    have D6 : Seal _ := ⟨((D5.out.two.set 0 (.string u) (by simp)).set 1 (.string d) (by simp))⟩
    go_simp
    refine hK.out _ _ (D6.out.tail.st.head.c 0 _ rfl) (fun hHeld => ?_)
    clear hK K
    try simp only [Act.put, List.getElem_toArray, List.getElem_cons_succ, List.getElem_cons_zero, List.setIfInBounds_toArray, List.set_cons_zero, List.set_cons_succ]
    clear oc0 oc1 of0 of1 D5
    have D7 : Seal _ := ⟨D6.out⟩
    clear D6
    refine wpAnyH_done (by kernel_rfl) ?_ _
    have K5 := D7.out.st.head
    have r0 := K5.c 0 _ rfl
    have r1 := K5.c 1 _ rfl
    clear K5
    generalize hwz : World.setCell _ _ _ = wz at r0 r1 D7 ⊢
    go_wp2
    refine bodyPost_ret (v := .tuple #[.int .i64 x.id, .agg #[.string u, .string d]]) (by simp [results, Tryz.results146, go_sem, r0, r1]) rfl ⟨x.id, u, d, rfl, ZU, ZD, ?_⟩
    exact (D7.out.tail.two.cut2).up (by omega)
  have e0 : ((x.rc.length : Int) == 0) = false := by rw [beq_eq_false_iff_ne]; omega
  have hrp : 0 < x.rc.length := by omega
  clear hr0
  have j3 := D2.out.st.head.c 3 _ rfl
  obtain ⟨qa, qc, qa2, qc2⟩ := q
  have hmem : ∀ a r t : Res, rcptsR qa qc x.rc ∈ a :: r :: t :: (itemsR (some ⟨g, 0, none⟩) c s.items ps ++ l) := fun _ _ _ => List.mem_cons_of_mem _ (List.mem_cons_of_mem _ (List.mem_cons_of_mem _ (List.mem_append_left _ (List.mem_cons_of_mem _ (itemE.mem_ress HX.out HQ.out List.mem_cons_self)))))
  obtain ⟨f, hf⟩ : ∃ f, qa = some ⟨f, 0, none⟩ := by
    have h0 : World.ownsRow w4 0 105 4 (.slice qa x.rc.length qc) x.rc.length (rcptE.all x.rc (ones x.rc)) := D2.out.st.get (hmem _ _ _)
    rcases slice_or h0 with hz | ⟨f, hf⟩
    · omega
    · exact ⟨f, hf⟩
  subst hf
  have hrc : Seal (∀ {P W a r t}, Dw B b P w0 W (a :: r :: t :: (itemsR (some ⟨g, 0, none⟩) c s.items ps ++ l)) → (rcptsR (some ⟨f, 0, none⟩) qc x.rc).P W) := ⟨fun h => h.st.get (hmem _ _ _)⟩
  clear hmem
  go_upto_region 6 with fail
  clear j3
  have D3 : Seal _ := ⟨D2.out.later (Below.refl _ _).drew⟩
  clear D2
  refine wp_region_held_drew (S := (fun w' => w'.cell? ⟨k6, 0, none⟩ = some (.int .i64 x.id) ∧ w'.cell? ⟨k6, 3, none⟩ = some (.slice (some ⟨f, 0, none⟩) x.rc.length qc))) (by kernel_rfl) ⟨D3.out.st.head.c 0 _ rfl, D3.out.st.head.c 3 _ rfl⟩ (fun hHeld => ?_)
  refine tkH 0 (by assumption) (h := ?_)
  refine tkH 1 (by assumption) (h := ?_)
  refine tkH 2 (by assumption) (h := ?_)
  refine tkH 3 (by assumption) (h := ?_)
  refine tkH 4 (by assumption) (h := ?_)
  refine tkH 5 (by assumption) (h := ?_)
  refine tkH 6 (by assumption) (h := ?_)
  refine tkH 7 (by assumption) (h := ?_)
  refine wpAnyH_ready (rs := [8]) (by kernel_rfl) (by simp) ?_
  refine AllReadyH.cons rfl (fun K hK => ?_) AllReadyH.nil
  try dsimp only at hHeld
  go_split_ands
  go_simp
  refine (pick_at x.rc.length D3.out.rd rfl (by omega) (by omega) (by omega)).mono ?_
  rintro e w5 ⟨k, rfl, hk, h5, g5⟩
  have D5 : Seal _ := ⟨D3.out.draw h5 g5⟩
  obtain ⟨r, hr⟩ : ∃ r, x.rc[k]? = some r := ⟨_, List.getElem?_eq_getElem hk⟩
  have HR : Seal _ := ⟨hr⟩
  have hk0 : (0 : Int) ≤ (k : Int) ∧ (k : Int) < (x.rc.length : Int) := by omega
  have hz4 := (itemN_parts HN.out).2.2.2.1 r (List.mem_of_getElem? hr)
  have ZU : r.u.size ≤ 1000 := hz4.1
  have ZD : r.d.size ≤ 1000 := hz4.2
  clear h5 g5 D3 hr hz4
  refine hK.out _ _ ⟨D5.out.st.head.c 0 _ rfl, D5.out.st.head.c 3 _ rfl⟩ (fun hHeld => ?_)
  clear hK K
  try simp only [Act.put, List.getElem_toArray, List.getElem_cons_succ, List.getElem_cons_zero, List.setIfInBounds_toArray, List.set_cons_zero, List.set_cons_succ]
  refine tkH 9 (by assumption) (h := ?_)
  refine tkH 10 (by assumption) (h := ?_)
  refine wpAnyH_ready (rs := [11, 12]) (by kernel_rfl) (by simp) ?_
  refine AllReadyH.cons rfl (fun K hK => ?_) (AllReadyH.cons rfl (fun K hK => ?_) AllReadyH.nil)
  · have oc0 := (rcpt_at (hrc.out D5.out) HR.out 0 (by decide) rfl).1
    have oc1 := (rcpt_at (hrc.out D5.out) HR.out 1 (by decide) rfl).1
    rw [Nat.add_zero] at oc0
    go_simp
    refine hK.out _ _ ⟨D5.out.st.head.c 0 _ rfl, D5.out.st.head.c 3 _ rfl⟩ (fun hHeld => ?_)
    clear hK K
    try simp only [Act.put, List.getElem_toArray, List.getElem_cons_succ, List.getElem_cons_zero, List.setIfInBounds_toArray, List.set_cons_zero, List.set_cons_succ]
    clear oc0 oc1
    refine wpAnyH_ready (rs := [12]) (by kernel_rfl) (by simp) ?_
    refine AllReadyH.cons rfl (fun K hK => ?_) AllReadyH.nil
    go_simp
    refine hK.out _ _ (by assumption) (fun hHeld => ?_)
    clear hK K
    try simp only [Act.put, List.getElem_toArray, List.getElem_cons_succ, List.getElem_cons_zero, List.setIfInBounds_toArray, List.set_cons_zero, List.set_cons_succ]
    refine wpAnyH_ready (rs := [13]) (by kernel_rfl) (by simp) ?_
    refine AllReadyH.cons rfl (fun K hK => ?_) AllReadyH.nil
    have K5 := D5.out.two.st.head
    have oc0 := K5.c 0 _ rfl
    have oc1 := K5.c 1 _ rfl
    have of0 := K5.f 0 (by simp)
    have of1 := K5.f 1 (by simp)
    clear K5
    have D6 : Seal _ := ⟨((D5.out.two.set 0 (.string r.u) (by simp)).set 1 (.string r.d) (by simp))⟩
    go_simp
    refine hK.out _ _ ⟨D6.out.tail.st.head.c 0 _ rfl, D6.out.tail.st.head.c 3 _ rfl⟩ (fun hHeld => ?_)
    clear hK K
    try simp only [Act.put, List.getElem_toArray, List.getElem_cons_succ, List.getElem_cons_zero, List.setIfInBounds_toArray, List.set_cons_zero, List.set_cons_succ]
    clear oc0 oc1 of0 of1 D5
    have D7 : Seal _ := ⟨D6.out⟩
    clear D6
    refine wpAnyH_done (by kernel_rfl) ?_ _
    have K5 := D7.out.st.head
    have r0 := K5.c 0 _ rfl
    have r1 := K5.c 1 _ rfl
    clear K5
    generalize hwz : World.setCell _ _ _ = wz at r0 r1 D7 ⊢
    go_wp2
    refine bodyPost_ret (v := .tuple #[.int .i64 x.id, .agg #[.string r.u, .string r.d]]) (by simp [results, Tryz.results146, go_sem, r0, r1]) rfl ⟨x.id, r.u, r.d, rfl, ZU, ZD, ?_⟩
    exact (D7.out.tail.two.cut2).up (by omega)
  · go_simp
    refine hK.out _ _ (by assumption) (fun hHeld => ?_)
    clear hK K
    try simp only [Act.put, List.getElem_toArray, List.getElem_cons_succ, List.getElem_cons_zero, List.setIfInBounds_toArray, List.set_cons_zero, List.set_cons_succ]
    refine wpAnyH_ready (rs := [11]) (by kernel_rfl) (by simp) ?_
    refine AllReadyH.cons rfl (fun K hK => ?_) AllReadyH.nil
    have oc0 := (rcpt_at (hrc.out D5.out) HR.out 0 (by decide) rfl).1
    have oc1 := (rcpt_at (hrc.out D5.out) HR.out 1 (by decide) rfl).1
    rw [Nat.add_zero] at oc0
    go_simp
    refine hK.out _ _ ⟨D5.out.st.head.c 0 _ rfl, D5.out.st.head.c 3 _ rfl⟩ (fun hHeld => ?_)
    clear hK K
    try simp only [Act.put, List.getElem_toArray, List.getElem_cons_succ, List.getElem_cons_zero, List.setIfInBounds_toArray, List.set_cons_zero, List.set_cons_succ]
    clear oc0 oc1
    refine wpAnyH_ready (rs := [13]) (by kernel_rfl) (by simp) ?_
    refine AllReadyH.cons rfl (fun K hK => ?_) AllReadyH.nil
    have K5 := D5.out.two.st.head
    have oc0 := K5.c 0 _ rfl
    have oc1 := K5.c 1 _ rfl
    have of0 := K5.f 0 (by simp)
    have of1 := K5.f 1 (by simp)
    clear K5
    have D6 : Seal _ := ⟨((D5.out.two.set 0 (.string r.u) (by simp)).set 1 (.string r.d) (by simp))⟩
    go_simp
    refine hK.out _ _ ⟨D6.out.tail.st.head.c 0 _ rfl, D6.out.tail.st.head.c 3 _ rfl⟩ (fun hHeld => ?_)
    clear hK K
    try simp only [Act.put, List.getElem_toArray, List.getElem_cons_succ, List.getElem_cons_zero, List.setIfInBounds_toArray, List.set_cons_zero, List.set_cons_succ]
    clear oc0 oc1 of0 of1 D5
    have D7 : Seal _ := ⟨D6.out⟩
    clear D6
    refine wpAnyH_done (by kernel_rfl) ?_ _
    have K5 := D7.out.st.head
    have r0 := K5.c 0 _ rfl
    have r1 := K5.c 1 _ rfl
    clear K5
    generalize hwz : World.setCell _ _ _ = wz at r0 r1 D7 ⊢
    go_wp2
    refine bodyPost_ret (v := .tuple #[.int .i64 x.id, .agg #[.string r.u, .string r.d]]) (by simp [results, Tryz.results146, go_sem, r0, r1]) rfl ⟨x.id, r.u, r.d, rfl, ZU, ZD, ?_⟩
    exact (D7.out.tail.two.cut2).up (by omega)
end Go.Proofs.YtcaknjdolfheaaaGreatDoor
