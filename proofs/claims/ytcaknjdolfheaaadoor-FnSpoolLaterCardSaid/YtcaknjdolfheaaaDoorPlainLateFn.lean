/- Plain facts: who is tried later is kept. No program in this text. -/
import Derived.Test.YtcaknjdolfheaaaDoorSpoolLaterK
import Derived.Test.YtcaknjdolfheaaaDoorDrawSpools
namespace Go.Proofs.YtcaknjdolfheaaaDoor
open Go

theorem lateAt_inv {s : SpoolD} {i now : Int} {u d : ByteArray} {a k : Nat} {x : ItemD} {r : RcptD} (h : lateAt s i u d now = some (a, x, k, r)) : findR (idB i) s.items = a ∧ s.items[a]? = some x ∧ idB i x = true ∧ findR (toB1 u d) x.rc = k ∧ x.rc[k]? = some r ∧ toB1 u d r = true ∧ timeB now = true ∧ mayLate r now = true := by
  rcases findR_cases (idB i) s.items with hno | ⟨a', x', ha, hx, hi⟩
  · rw [lateAt_noid hno] at h; cases h
  · rcases findR_cases (toB1 u d) x'.rc with hno | ⟨k', r', hk, hr, ht⟩
    · rw [lateAt_norc ha hx hno] at h; cases h
    · rw [lateAt_at ha hx hk hr] at h
      split at h
      · rename_i hc
        rw [Bool.and_eq_true] at hc
        simp only [Option.some.injEq, Prod.mk.injEq] at h
        obtain ⟨rfl, rfl, rfl, rfl⟩ := h
        exact ⟨ha, hx, hi, hk, hr, ht, hc.1, hc.2⟩
      · cases h
theorem laterR_no {s : SpoolD} {i now : Int} {u d : ByteArray} (h : spoolB s = true) (hq : (laterR s i u d now).2 = false) : (laterR s i u d now).1 = s := by
  cases e : lateAt s i u d now with
  | none => rw [laterR_none h e]
  | some v => obtain ⟨a, x, k, r⟩ := v; rw [laterR_some h e] at hq; cases hq
/-- Of a valid spool: where the recipient lies, how often it was tried. -/
structure LateAt (s : SpoolD) (i : Int) (u d : ByteArray) (t : Int) : Prop where
  ok : spoolB s = true
  at' : ∃ (a k : Nat) (x : ItemD) (r : RcptD), findR (idB i) s.items = a ∧ s.items[a]? = some x ∧ idB i x = true ∧ findR (toB1 u d) x.rc = k ∧ x.rc[k]? = some r ∧ toB1 u d r = true ∧ r.tries = t
theorem toB1_congr {u d : ByteArray} {r r' : RcptD} (h : rcptPair r' = rcptPair r) : toB1 u d r' = toB1 u d r := by
  rw [Bool.eq_iff_iff, toB1_iff, toB1_iff, h]
theorem findR_pairs {xs ys : List RcptD} (u d : ByteArray) (e : ys.map rcptPair = xs.map rcptPair) : findR (toB1 u d) ys = findR (toB1 u d) xs := by
  have h : ∀ zs : List RcptD, findR (toB1 u d) zs = findR (fun p : ByteArray × ByteArray => (p.1.toList == u.toList) && (p.2.toList == d.toList)) (zs.map rcptPair) := fun zs => by
    unfold findR
    rw [List.findIdx_map, List.length_map]
    rfl
  rw [h, h, e]
theorem late_next {s : SpoolD} {a k : Nat} {x : ItemD} {r : RcptD} {i now : Int} {u d : ByteArray} (h : spoolB s = true) (ha : findR (idB i) s.items = a) (hx : s.items[a]? = some x) (hi : idB i x = true) (hk : findR (toB1 u d) x.rc = k) (hr : x.rc[k]? = some r) (ht : toB1 u d r = true) (hn : timeB now = true) (hm : mayLate r now = true) :
    LateAt (lateD s a (lateI x k r now)) i u d (r.tries + 1) := by
  unfold timeB inB at hn
  rw [decide_eq_true_eq] at hn
  have hal := (List.getElem?_eq_some_iff.1 hx).1
  have hkl := (List.getElem?_eq_some_iff.1 hr).1
  refine ⟨lateD_ok h hx hr hn.1 hm, a, k, lateI x k r now, lateR r now, ?_, ?_, hi, ?_, ?_, ?_, rfl⟩
  · have e : (s.items.set a (lateI x k r now)).map ItemD.id = s.items.map ItemD.id := map_set_same ItemD.id hx rfl
    exact (findR_ids i e).trans ha
  · exact List.getElem?_set_self hal
  · have e : (x.rc.set k (lateR r now)).map rcptPair = x.rc.map rcptPair := map_set_same rcptPair hr rfl
    exact (findR_pairs u d e).trans hk
  · exact List.getElem?_set_self hkl
  · rw [toB1_congr (show rcptPair (lateR r now) = rcptPair r from rfl)]; exact ht
theorem laterR_yes {s : SpoolD} {i now : Int} {u d : ByteArray} (h : spoolB s = true) (hq : (laterR s i u d now).2 = true) :
    spoolB (laterR s i u d now).1 = true ∧ manyR (laterR s i u d now).1 = manyR s ∧ ∃ t, 1 ≤ t ∧ LateAt (laterR s i u d now).1 i u d t := by
  cases e : lateAt s i u d now with
  | none => rw [laterR_none h e] at hq; cases hq
  | some v =>
    obtain ⟨a, x, k, r⟩ := v
    obtain ⟨ha, hx, hi, hk, hr, ht, hn, hm⟩ := lateAt_inv e
    have hn' : 0 ≤ now := by unfold timeB inB at hn; rw [decide_eq_true_eq] at hn; exact hn.1
    have hz := (spool_rcpt h hx hr).1
    rw [laterR_some h e]
    exact ⟨lateD_ok h hx hr hn' hm, lateD_many h hx hr hn' hm, r.tries + 1, by omega, late_next h ha hx hi hk hr ht hn hm⟩
/-- Once more: it cannot be, and nothing changes; or it was tried once more. -/
theorem late_more {s : SpoolD} {i now t : Int} {u d : ByteArray} (h : LateAt s i u d t) : t ≤ 3 ∧ spoolB (laterR s i u d now).1 = true ∧ (((laterR s i u d now).2 = false ∧ (laterR s i u d now).1 = s) ∨ LateAt (laterR s i u d now).1 i u d (t + 1)) := by
  obtain ⟨hb, a, k, x, r, ha, hx, hi, hk, hr, ht, e⟩ := h
  have ht3 := (spool_rcpt hb hx hr).2.1
  refine ⟨by omega, ?_⟩
  cases e1 : lateAt s i u d now with
  | none => rw [laterR_none hb e1]; exact ⟨hb, .inl ⟨rfl, rfl⟩⟩
  | some v =>
    obtain ⟨a', x', k', r'⟩ := v
    obtain ⟨ha', hx', hi', hk', hr', ht', hn, hm⟩ := lateAt_inv e1
    have e2 : a' = a := by omega
    subst e2
    have e3 : x' = x := Option.some.inj (hx'.symm.trans hx)
    subst e3
    have e4 : k' = k := by omega
    subst e4
    have e5 : r' = r := Option.some.inj (hr'.symm.trans hr)
    subst e5
    rw [laterR_some hb e1]
    have h2 := late_next hb ha hx hi hk hr ht hn hm
    rw [e] at h2
    exact ⟨h2.ok, .inr h2⟩
/-- What is asked of a spool that is tried again and again: behind n tries it can't be any more, or it was tried so often. -/
def Tired (i : Int) (u d : ByteArray) (now : Int) (n : Nat) (y : SpoolD) (ok : Bool) : Prop := (1 ≤ n ∧ ok = false ∧ laterR y i u d now = (y, false)) ∨ ∃ t : Int, (n : Int) + 1 ≤ t ∧ LateAt y i u d t
theorem Tired.start {s : SpoolD} {i now : Int} {u d : ByteArray} (ok : Bool) (h : spoolB s = true) (hq : (laterR s i u d now).2 = true) : Tired i u d now 0 (laterR s i u d now).1 ok := by
  obtain ⟨_, _, t, ht, h1⟩ := laterR_yes h hq
  exact .inr ⟨t, by omega, h1⟩
theorem Tired.next {i now : Int} {u d : ByteArray} {n : Nat} {y : SpoolD} {ok : Bool} (h : Tired i u d now n y ok) : Tired i u d now (n + 1) (laterR y i u d now).1 (laterR y i u d now).2 := by
  rcases h with ⟨_, _, h⟩ | ⟨t, ht, h⟩
  · exact .inl ⟨by omega, by rw [h], by rw [h]; exact h⟩
  · rcases (late_more (now := now) h).2.2 with ⟨h1, h2⟩ | h1
    · refine .inl ⟨by omega, h1, ?_⟩
      rw [h2]
      exact Prod.ext h2 h1
    · exact .inr ⟨t + 1, by omega, h1⟩
theorem Tired.end {i now : Int} {u d : ByteArray} {y : SpoolD} {ok : Bool} (h : Tired i u d now 4 y ok) : ok = false := by
  rcases h with ⟨_, h, _⟩ | ⟨t, ht, h⟩
  · exact h
  · have := (late_more (now := now) h).1; omega
end Go.Proofs.YtcaknjdolfheaaaDoor
