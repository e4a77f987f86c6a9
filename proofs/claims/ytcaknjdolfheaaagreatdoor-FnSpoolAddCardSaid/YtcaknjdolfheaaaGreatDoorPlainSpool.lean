/- Plain facts: spools. No program in this text. -/
import Derived.Test.YtcaknjdolfheaaaGreatDoorPlains
namespace Go.Proofs.YtcaknjdolfheaaaGreatDoor
open Go

/-- One whom a mail is for. -/
structure RcptD where
  u : ByteArray
  d : ByteArray
  tries : Int
  next : Int
/-- A mail that is kept. -/
structure ItemD where
  id : Int
  fu : ByteArray
  fd : ByteArray
  rc : List RcptD
  body : List ByteArray
/-- A spool. -/
structure SpoolD where
  last : Int
  items : List ItemD
def rcptPair (x : RcptD) : ByteArray × ByteArray := (x.u, x.d)
def tryB (x : RcptD) : Bool := decide (0 ≤ x.tries ∧ x.tries ≤ 3) && decide (0 ≤ x.next ∧ x.next ≤ 9999)
abbrev itemMail (x : ItemD) : MailD := ⟨x.fu, x.fd, x.rc.map rcptPair, x.body⟩
/-- All of an item but its number. -/
def itemB (x : ItemD) : Bool := mailB (itemMail x) && x.rc.all tryB
/-- The numbers ascend, and none is above the last. -/
def ascB (last : Int) : Int → List ItemD → Bool
  | _, [] => true
  | p, x :: xs => decide (p < x.id ∧ x.id ≤ last) && ascB last x.id xs
def spoolB (s : SpoolD) : Bool := decide (0 ≤ s.last ∧ s.last ≤ 999) && (decide (s.items.length ≤ 10) && (s.items.all itemB && ascB s.last 0 s.items))

/-- The number ahead of place k. -/
def ahead (xs : List ItemD) : Nat → Int
  | 0 => 0
  | k + 1 => match xs[k]? with
    | some x => x.id
    | none => 0
theorem ahead_succ {xs : List ItemD} {k : Nat} {x : ItemD} (h : xs[k]? = some x) : ahead xs (k + 1) = x.id := by show (match xs[k]? with | some x => x.id | none => 0) = x.id; rw [h]
theorem ascB_drop {last : Int} {xs : List ItemD} {k : Nat} {x : ItemD} (p : Int) (h : xs.drop k = x :: xs.drop (k + 1)) : ascB last p (xs.drop k) = (decide (p < x.id ∧ x.id ≤ last) && ascB last x.id (xs.drop (k + 1))) := by rw [h]; rfl
theorem drop_get {α : Type} {xs : List α} {k : Nat} {x : α} (h : xs[k]? = some x) : xs.drop k = x :: xs.drop (k + 1) := by
  obtain ⟨hk, e⟩ := List.getElem?_eq_some_iff.1 h
  rw [List.drop_eq_getElem_cons hk, e]
/-- So far the numbers ascend: what is left to ask. -/
theorem asc_next {last : Int} {xs : List ItemD} {k : Nat} {x : ItemD} (hx : xs[k]? = some x) (h : ascB last 0 xs = ascB last (ahead xs k) (xs.drop k)) (h1 : ahead xs k < x.id) (h2 : x.id ≤ last) : ascB last 0 xs = ascB last (ahead xs (k + 1)) (xs.drop (k + 1)) := by
  rw [h, ascB_drop _ (drop_get hx), ahead_succ hx, decide_eq_true ⟨h1, h2⟩, Bool.true_and]
theorem asc_miss {last : Int} {xs : List ItemD} {k : Nat} {x : ItemD} (hx : xs[k]? = some x) (h : ascB last 0 xs = ascB last (ahead xs k) (xs.drop k)) (h1 : ¬ (ahead xs k < x.id ∧ x.id ≤ last)) : ascB last 0 xs = false := by
  rw [h, ascB_drop _ (drop_get hx), decide_eq_false h1, Bool.false_and]
theorem asc_end {last : Int} {xs : List ItemD} {k : Nat} (hk : xs.length ≤ k) (h : ascB last 0 xs = ascB last (ahead xs k) (xs.drop k)) : ascB last 0 xs = true := by
  rw [h, List.drop_eq_nil_of_le hk]; rfl
theorem ahead_pos {last : Int} : ∀ {xs : List ItemD} {p : Int} (_ : 0 ≤ p) (_ : ascB last p xs = true) (x : ItemD) (_ : x ∈ xs), p < x.id ∧ x.id ≤ last
  | [], _, _, _, _, hx => by cases hx
  | y :: ys, p, hp, h, x, hx => by
    unfold ascB at h
    rw [Bool.and_eq_true, decide_eq_true_eq] at h
    rcases List.mem_cons.1 hx with rfl | hx
    · exact h.1
    · have := ahead_pos (p := y.id) (by omega) h.2 x hx
      omega
theorem spoolB_item {s : SpoolD} {x : ItemD} (hx : x ∈ s.items) (h : itemB x = false) : spoolB s = false := by
  have : s.items.all itemB = false := by
    rw [← Bool.not_eq_true, List.all_eq_true]
    exact fun e => by rw [e x hx] at h; cases h
  unfold spoolB; rw [this]; simp
theorem spoolB_asc {s : SpoolD} (h : ascB s.last 0 s.items = false) : spoolB s = false := by unfold spoolB; rw [h]; simp
theorem spoolB_last {s : SpoolD} (h : ¬ (0 ≤ s.last ∧ s.last ≤ 999)) : spoolB s = false := by unfold spoolB; rw [decide_eq_false h]; rfl
theorem spoolB_many {s : SpoolD} (h : ¬ s.items.length ≤ 10) : spoolB s = false := by unfold spoolB; rw [decide_eq_false h]; simp
theorem spoolB_end {s : SpoolD} (h1 : s.items.all itemB = true) (h2 : ascB s.last 0 s.items = true) : spoolB s = (decide (0 ≤ s.last ∧ s.last ≤ 999) && decide (s.items.length ≤ 10)) := by unfold spoolB; rw [h1, h2]; simp

/-- The model asks of each recipient at once: the address, the attempts, the time. -/
def rcptB (x : RcptD) : Bool := addrB x.u x.d && tryB x
theorem rcpts_split (xs : List RcptD) : ((xs.map rcptPair).all pairB && xs.all tryB) = xs.all rcptB := by
  induction xs with
  | nil => rfl
  | cons x xs ih =>
    rw [List.map_cons, List.all_cons, List.all_cons, List.all_cons, ← ih]
    unfold rcptB pairB rcptPair
    cases addrB x.u x.d <;> cases tryB x <;> cases (List.map (fun x => (x.u, x.d)) xs).all (fun p => addrB p.1 p.2) <;> cases xs.all tryB <;> rfl
theorem itemB_eq (x : ItemD) : itemB x = (x.rc.all rcptB && (decide (x.rc.map rcptPair).Nodup && (senderB x.fu x.fd && (decide (1 ≤ x.rc.length ∧ x.rc.length ≤ 4) && bodyB x.body)))) := by
  rw [← rcpts_split]
  unfold itemB mailB toB
  rw [List.length_map]
  cases senderB x.fu x.fd <;> cases decide (1 ≤ x.rc.length ∧ x.rc.length ≤ 4) <;> cases (x.rc.map rcptPair).all pairB <;> cases decide (x.rc.map rcptPair).Nodup <;> cases bodyB x.body <;> cases x.rc.all tryB <;> rfl
theorem itemB_rcpt {x : ItemD} {k : Nat} {y : RcptD} (hy : x.rc[k]? = some y) (h : rcptB y = false) : itemB x = false := by
  rw [itemB_eq, list_all_miss hy h]; rfl
theorem itemB_twice {x : ItemD} {j k : Nat} {y z : RcptD} (hy : x.rc[k]? = some y) (hz : x.rc[j]? = some z) (hjk : j < k) (he : rcptPair z = rcptPair y) : itemB x = false := by
  have h1 : (x.rc.map rcptPair)[k]? = some (rcptPair y) := by rw [List.getElem?_map, hy]; rfl
  have h2 : (x.rc.map rcptPair)[j]? = some (rcptPair y) := by rw [List.getElem?_map, hz]; exact congrArg some he
  rw [itemB_eq, decide_eq_false (nodup_miss h1 h2 hjk)]; simp
theorem itemB_end {x : ItemD} (h1 : x.rc.all rcptB = true) (h2 : (x.rc.map rcptPair).Nodup) : itemB x = (senderB x.fu x.fd && (decide (1 ≤ x.rc.length ∧ x.rc.length ≤ 4) && bodyB x.body)) := by
  rw [itemB_eq, h1, decide_eq_true h2]; rfl
theorem rcpt_nodup_succ {xs : List RcptD} {k : Nat} {y : RcptD} (hy : xs[k]? = some y) (h : ((xs.take k).map rcptPair).Nodup) (hn : ∀ j z, j < k → xs[j]? = some z → rcptPair z ≠ rcptPair y) : ((xs.take (k + 1)).map rcptPair).Nodup := by
  have h1 : (xs.map rcptPair)[k]? = some (rcptPair y) := by rw [List.getElem?_map, hy]; rfl
  rw [List.map_take] at h ⊢
  refine nodup_succ h1 h fun j hj e => ?_
  rw [List.getElem?_map] at e
  cases hz : xs[j]? with
  | none => rw [hz] at e; cases e
  | some z => rw [hz] at e; exact hn j z hj hz (Option.some.inj e)
end Go.Proofs.YtcaknjdolfheaaaGreatDoor
