/- SpoolD, SpoolSz, SpoolTo, SpoolEq. -/
import Derived.Test.YtcaknjdolfheaaaDoorRowOf
import Derived.Test.YtcaknjdolfheaaaDoorPlainSpool
import Derived.Test.YtcaknjdolfheaaaDoorMails
import Derived.Deep.RegionHeld3
namespace Go.Proofs.YtcaknjdolfheaaaDoor
open Go Go.RowKit

abbrev rcptL (x : RcptD) : List Value := [.string x.u, .string x.d, .int .i64 x.tries, .int .i64 x.next]
abbrev rcptV (x : RcptD) : Array Value := #[.string x.u, .string x.d, .int .i64 x.tries, .int .i64 x.next]
def rcptP (_ : World) (vs : List Value) (x : RcptD) : Prop := vs = rcptL x
theorem rcptP_stays : Stays rcptP := fun _ _ _ _ _ h _ _ => h
abbrev RcptRow (w : World) (ao : Option Addr) (xs : List RcptD) : Prop := RowOf 4 rcptP w ao xs
theorem rcptAt {w : World} {ao : Option Addr} {xs : List RcptD} (h : RcptRow w ao xs) {k : Nat} {x : RcptD} (hx : xs[k]? = some x) :
    ∃ b off, ao = some ⟨b, off, none⟩ ∧ w.cell? ⟨b, off + k * 4, none⟩ = some (.string x.u) ∧ w.cell? ⟨b, off + k * 4 + 1, none⟩ = some (.string x.d) ∧ w.cell? ⟨b, off + k * 4 + 2, none⟩ = some (.int .i64 x.tries) ∧ w.cell? ⟨b, off + k * 4 + 3, none⟩ = some (.int .i64 x.next) := by
  obtain ⟨b, off, vs, e, _, hc, hp⟩ := h k x hx
  unfold rcptP at hp
  subst hp
  exact ⟨b, off, e, hc 0 _ rfl, hc 1 _ rfl, hc 2 _ rfl, hc 3 _ rfl⟩
def rcptE : Elem RcptD Unit := ⟨4, fun x _ => rcptL x, fun _ _ => [], fun _ _ => rfl⟩
abbrev ones {α : Type} (xs : List α) : List Unit := List.replicate xs.length ()

/-- Where its rows lie. -/
structure ItemV where
  a1 : Option Addr
  c1 : Nat
  a2 : Option Addr
  c2 : Nat
abbrev itemL (x : ItemD) (p : ItemV) : List Value := [.int .i64 x.id, .string x.fu, .string x.fd, .slice p.a1 x.rc.length p.c1, .slice p.a2 x.body.length p.c2]
abbrev itemV (x : ItemD) (p : ItemV) : Array Value := #[.int .i64 x.id, .string x.fu, .string x.fd, .slice p.a1 x.rc.length p.c1, .slice p.a2 x.body.length p.c2]
structure ItemAt (w : World) (x : ItemD) (p : ItemV) : Prop where
  rc : RcptRow w p.a1 x.rc
  body : StrRow w p.a2 x.body
theorem ItemAt.below {B : Nat} {w w' : World} {x : ItemD} {p : ItemV} (h : ItemAt w x p) (hb : Below B w w') (hB : w.heap.size ≤ B) : ItemAt w' x p := ⟨h.rc.below rcptP_stays hb hB, h.body.below hb hB⟩
theorem ItemAt.later {w w' : World} {x : ItemD} {p : ItemV} (h : ItemAt w x p) (hb : Below w.heap.size w w') : ItemAt w' x p := h.below hb (Nat.le_refl _)
def itemP (w : World) (vs : List Value) (x : ItemD) : Prop := ∃ p, vs = itemL x p ∧ ItemAt w x p
theorem itemP_stays : Stays itemP := fun _ _ _ _ _ ⟨p, e, h⟩ hb hB => ⟨p, e, h.below hb hB⟩
abbrev ItemRow (w : World) (ao : Option Addr) (xs : List ItemD) : Prop := RowOf 5 itemP w ao xs
theorem itemAt {w : World} {ao : Option Addr} {xs : List ItemD} (h : ItemRow w ao xs) {k : Nat} {x : ItemD} (hx : xs[k]? = some x) :
    ∃ b off p, ao = some ⟨b, off, none⟩ ∧ w.cell? ⟨b, off + k * 5, none⟩ = some (.int .i64 x.id) ∧ w.cell? ⟨b, off + k * 5 + 1, none⟩ = some (.string x.fu) ∧ w.cell? ⟨b, off + k * 5 + 2, none⟩ = some (.string x.fd) ∧ w.cell? ⟨b, off + k * 5 + 3, none⟩ = some (.slice p.a1 x.rc.length p.c1) ∧ w.cell? ⟨b, off + k * 5 + 4, none⟩ = some (.slice p.a2 x.body.length p.c2) ∧ ItemAt w x p := by
  obtain ⟨b, off, vs, e, _, hc, p, hp, ha⟩ := h k x hx
  subst hp
  exact ⟨b, off, p, e, hc 0 _ rfl, hc 1 _ rfl, hc 2 _ rfl, hc 3 _ rfl, hc 4 _ rfl, ha⟩
/-- The parts of memory that a row of texts is. -/
abbrev strsR (ao : Option Addr) (cap : Nat) (xs : List ByteArray) : Res := Res.row 9 1 (.slice ao xs.length cap) xs.length (xs.map Value.string)
/-- The parts of memory that a row of recipients is. -/
abbrev rcptsR (ao : Option Addr) (cap : Nat) (xs : List RcptD) : Res := Res.row 44 4 (.slice ao xs.length cap) xs.length (rcptE.all xs (ones xs))
def itemE : Elem ItemD ItemV := ⟨5, itemL, fun x p => [rcptsR p.a1 p.c1 x.rc, strsR p.a2 p.c2 x.body], fun _ _ => rfl⟩
theorem rcptE_ress (xs : List RcptD) (ps : List Unit) : rcptE.ress xs ps = [] := by
  unfold Elem.ress
  rw [List.flatten_eq_nil_iff]
  intro l hl
  obtain ⟨k, hk⟩ := List.getElem?_of_mem hl
  rw [List.getElem?_zipWith] at hk
  cases hx : xs[k]? with
  | none => rw [hx] at hk; cases hk
  | some x =>
    cases hp : ps[k]? with
    | none => rw [hx, hp] at hk; cases hk
    | some p => rw [hx, hp] at hk; exact (Option.some.inj hk).symm
theorem rcpts_read {w : World} {ao : Option Addr} {cap : Nat} {xs : List RcptD} (h : (rcptsR ao cap xs).P w) : RcptRow w ao xs := by
  refine rcptE.reads (P := rcptP) (e := 44) (cap := cap) (ps := ones xs) (fun _ _ _ _ => rfl) (by simp) fun r hr => ?_
  rcases List.mem_cons.1 hr with rfl | hr
  · exact h
  · rw [rcptE_ress] at hr
    cases hr
theorem strs_read {w : World} {ao : Option Addr} {cap : Nat} {xs : List ByteArray} (h : (strsR ao cap xs).P w) : StrRow w ao xs := StrRow.of_own h
theorem item_read {w : World} {x : ItemD} {p : ItemV} (h : ∀ r ∈ itemE.res x p, r.P w) : ItemAt w x p :=
  ⟨rcpts_read (cap := p.c1) (h _ List.mem_cons_self), strs_read (cap := p.c2) (h _ (List.mem_cons_of_mem _ List.mem_cons_self))⟩
/-- The parts of memory that a row of items is. -/
abbrev itemsR (ao : Option Addr) (cap : Nat) (xs : List ItemD) (ps : List ItemV) : List Res := itemE.row 42 ao cap xs ps
theorem items_read {w : World} {ao : Option Addr} {cap : Nat} {xs : List ItemD} {ps : List ItemV} (hl : ps.length = xs.length) (h : ∀ r ∈ itemsR ao cap xs ps, r.P w) : ItemRow w ao xs :=
  itemE.reads (P := itemP) (fun _ _ p hp => ⟨p, rfl, item_read hp⟩) hl h

abbrev spoolL (s : SpoolD) (ao : Option Addr) (cap : Nat) : List Value := [.int .i64 s.last, .slice ao s.items.length cap]
abbrev spoolV (s : SpoolD) (ao : Option Addr) (cap : Nat) : Array Value := #[.int .i64 s.last, .slice ao s.items.length cap]

def rcptN (x : RcptD) : Nat := x.u.size + x.d.size
def itemN (x : ItemD) : Nat := x.fu.size + x.fd.size + rowN rcptN x.rc + rowN ByteArray.size x.body
def spoolN (s : SpoolD) : Nat := rowN itemN s.items
/-- No row, no text is longer than a machine bears. -/
structure RcptF (x : RcptD) : Prop where
  u : x.u.size ≤ maxLen
  d : x.d.size ≤ maxLen
structure ItemF (x : ItemD) : Prop where
  fu : x.fu.size ≤ maxLen
  fd : x.fd.size ≤ maxLen
  rcl : x.rc.length ≤ maxLen
  rcs : ∀ y ∈ x.rc, RcptF y
  bol : x.body.length ≤ maxLen
  bos : ∀ y ∈ x.body, y.size ≤ maxLen
structure SpoolF (s : SpoolD) : Prop where
  il : s.items.length ≤ maxLen
  is : ∀ y ∈ s.items, ItemF y
theorem leftA_N (u d : ByteArray) (left : Int) : leftA u d left = leftN (u.size + d.size) left := by
  unfold leftA leftN
  by_cases h : (u.size : Int) + d.size ≤ left
  · rw [if_pos h, if_pos (by omega)]; omega
  · rw [if_neg h, if_neg (by omega)]
theorem leftB_N (xs : List ByteArray) (left : Int) : leftB xs left = leftN (rowN ByteArray.size xs) left := by
  have e : (rowN ByteArray.size xs : Int) = xs.length + sumB xs := by unfold rowN sumB; push_cast; rfl
  unfold leftB leftN
  rw [e]
  by_cases h : (xs.length : Int) + sumB xs ≤ left
  · rw [if_pos h, if_pos h]; omega
  · rw [if_neg h, if_neg h]
theorem itemN_parts {x : ItemD} {n : Nat} (h : itemN x ≤ n) : x.fu.size ≤ n ∧ x.fd.size ≤ n ∧ x.rc.length ≤ n ∧ (∀ y ∈ x.rc, y.u.size ≤ n ∧ y.d.size ≤ n) ∧ x.body.length ≤ n ∧ (∀ y ∈ x.body, y.size ≤ n) := by
  unfold itemN at h
  have h1 := rowN_length rcptN x.rc
  have h2 := rowN_length ByteArray.size x.body
  refine ⟨by omega, by omega, by omega, fun y hy => ?_, by omega, fun y hy => ?_⟩
  · have : y.u.size + y.d.size ≤ rowN rcptN x.rc := rowN_mem rcptN hy
    omega
  · have := rowN_mem ByteArray.size hy
    omega
theorem spoolN_parts {s : SpoolD} {n : Nat} (h : spoolN s ≤ n) : s.items.length ≤ n ∧ ∀ x ∈ s.items, itemN x ≤ n := by
  unfold spoolN at h
  have h1 := rowN_length itemN s.items
  exact ⟨by omega, fun x hx => by have := rowN_mem itemN hx; omega⟩
end Go.Proofs.YtcaknjdolfheaaaDoor
namespace Go.Proofs.YtcaknjdolfheaaaDoor
open Go Go.RowKit

end Go.Proofs.YtcaknjdolfheaaaDoor
namespace Go.Proofs.YtcaknjdolfheaaaDoor
open Go Go.RowKit

theorem infoRcpt : (Tryd.prog.info? 44).map (fun i => (i.zero, i.size, i.bytes)) = some (some (.agg #[.string ByteArray.empty, .string ByteArray.empty, .int .i64 0, .int .i64 0]), 4, 48) := by kernel_rfl
theorem infoItem : (Tryd.prog.info? 42).map (fun i => (i.zero, i.size, i.bytes)) = some (some (.agg #[.int .i64 0, .string ByteArray.empty, .string ByteArray.empty, .slice none 0 0, .slice none 0 0]), 5, 88) := by kernel_rfl
abbrev noRcpt : Array Value := #[.string { data := #[] }, .string { data := #[] }, .int .i64 0, .int .i64 0]
abbrev noItem : Array Value := #[.int .i64 0, .string { data := #[] }, .string { data := #[] }, .slice none 0 0, .slice none 0 0]

end Go.Proofs.YtcaknjdolfheaaaDoor
namespace Go.Proofs.YtcaknjdolfheaaaDoor
open Go Go.RowKit

end Go.Proofs.YtcaknjdolfheaaaDoor
