/- Rows of recipients and of items of a call's own: one element changed. -/
import Derived.Test.YtfffocfcnigogaaGreatDoorSpoolAt
namespace Go.Proofs.YtfffocfcnigogaaGreatDoor
open Go Go.RowKit

theorem rcpt_at {w : World} {g c : Nat} {xs : List RcptD} (h : (rcptsR (some ⟨g, 0, none⟩) c xs).P w) {k : Nat} {r : RcptD} (hr : xs[k]? = some r) (j : Nat) (hj : j < 4) {v : Value} (hv : (rcptL r)[j]? = some v) : w.cell? ⟨g, k * 4 + j, none⟩ = some v ∧ w.frozen? ⟨g, k * 4 + j, none⟩ = false := by
  have h0 : w.ownsRow 0 105 4 (.slice (some ⟨g, 0, none⟩) xs.length c) xs.length (rcptE.all xs (ones xs)) := h
  have hk := (List.getElem?_eq_some_iff.1 hr).1
  have hlt : k * 4 + j < xs.length * 4 := by omega
  refine ⟨?_, h0.frozenAt _⟩
  rw [h0.cellAt _ hlt]
  have hp : (ones xs)[k]? = some () := by rw [List.getElem?_replicate, if_pos hk]
  exact (rcptE.all_get hr hp hj).trans hv
theorem rcpt_set {X : Nat → Prop} {w0 w : World} {g c : Nat} {xs : List RcptD} {l : List Res} (h : StX X w0 w (rcptsR (some ⟨g, 0, none⟩) c xs :: l)) {k : Nat} {r : RcptD} (hr : xs[k]? = some r) (j : Nat) (hj : j < 4) (v : Value) (r' : RcptD) (e : rcptL r' = (rcptL r).set j v) :
    StX X w0 (w.setCell ⟨g, k * 4 + j, none⟩ v) (rcptsR (some ⟨g, 0, none⟩) c (xs.set k r') :: l) := by
  have hk := (List.getElem?_eq_some_iff.1 hr).1
  have hx := take_drop_at hr
  have hset : xs.set k r' = xs.take k ++ r' :: xs.drop (k + 1) := by rw [List.set_eq_take_append_cons_drop, if_pos hk]
  have hu : ∀ n : Nat, n = xs.length → List.replicate n () = List.replicate k () ++ () :: List.replicate (xs.length - (k + 1)) () := fun n hn => by
    rw [← List.replicate_succ, List.replicate_append_replicate]
    congr 1
    omega
  have s : StX X w0 w (Res.row 105 rcptE.size (.slice (some ⟨g, 0, none⟩) xs.length c) xs.length (rcptE.all (xs.take k ++ r :: xs.drop (k + 1)) (List.replicate k () ++ () :: List.replicate (xs.length - (k + 1)) ())) :: l) := by
    rw [← hx, ← hu xs.length rfl]
    exact h
  have s2 := s.setElem rcptE (by simp; omega) (i := k) (by simp; omega) (j := j) hj v r' e
  rw [← hset, ← hu (xs.set k r').length (by simp)] at s2
  have hl : (xs.set k r').length = xs.length := by simp
  show StX X w0 _ (Res.row 105 4 (.slice (some ⟨g, 0, none⟩) (xs.set k r').length c) (xs.set k r').length (rcptE.all (xs.set k r') (List.replicate (xs.set k r').length ())) :: l)
  rw [hl] at s2 ⊢
  exact s2
abbrev itemRw (g c n : Nat) (xs : List ItemD) (ps : List ItemV) : Res := Res.row 43 5 (.slice (some ⟨g, 0, none⟩) n c) n (itemE.all xs ps)
theorem item_at {w : World} {g c n : Nat} {xs : List ItemD} {ps : List ItemV} (h : (itemRw g c n xs ps).P w) (hn : n = xs.length) {k : Nat} {x : ItemD} {p : ItemV} (hx : xs[k]? = some x) (hp : ps[k]? = some p) (j : Nat) (hj : j < 5) {v : Value} (hv : (itemL x p)[j]? = some v) : w.cell? ⟨g, k * 5 + j, none⟩ = some v ∧ w.frozen? ⟨g, k * 5 + j, none⟩ = false := by
  have h0 : w.ownsRow 0 43 5 (.slice (some ⟨g, 0, none⟩) n c) n (itemE.all xs ps) := h
  have hk := (List.getElem?_eq_some_iff.1 hx).1
  have hlt : k * 5 + j < n * 5 := by omega
  refine ⟨?_, h0.frozenAt _⟩
  rw [h0.cellAt _ hlt]
  exact (itemE.all_get hx hp hj).trans hv
theorem item_set {X : Nat → Prop} {w0 w : World} {g c n : Nat} {xs : List ItemD} {ps : List ItemV} {l : List Res} (h : StX X w0 w (itemRw g c n xs ps :: l)) {k : Nat} {x : ItemD} {p : ItemV} (hx : xs[k]? = some x) (hp : ps[k]? = some p) (y : ItemD) (q : ItemV) :
    StX X w0 (setCells w g (k * 5) 0 (itemL y q)) (itemRw g c n (xs.set k y) (ps.set k q) :: l) := by
  have hk := (List.getElem?_eq_some_iff.1 hx).1
  have hk2 := (List.getElem?_eq_some_iff.1 hp).1
  have s2 := h.setAll (k * 5) 0 (itemL y q)
  have e1 := take_drop_at hx
  have e2 := take_drop_at hp
  have ht : (ps.take k).length = (xs.take k).length := by simp; omega
  have ha : (itemE.all (xs.take k) (ps.take k)).length = k * 5 := by
    rw [itemE.all_length ht]
    show (xs.take k).length * 5 = k * 5
    simp; omega
  have ev : setVals (itemE.all xs ps) (k * 5) 0 (itemL y q) = itemE.all (xs.set k y) (ps.set k q) := by
    rw [List.set_eq_take_append_cons_drop, if_pos hk, List.set_eq_take_append_cons_drop, if_pos hk2, itemE.all_split ht]
    have h4 : itemE.all xs ps = itemE.all (xs.take k) (ps.take k) ++ (itemL x p ++ itemE.all (xs.drop (k + 1)) (ps.drop (k + 1))) := by
      have := itemE.all_split (B := xs.drop (k + 1)) (PB := ps.drop (k + 1)) ht x p
      rw [← e1, ← e2] at this
      exact this
    rw [h4, ← ha]
    exact setVals_mid (itemE.all (xs.take k) (ps.take k)) [] (itemL y q) (itemL x p) _ rfl
  rw [ev] at s2
  exact s2
/-- What an element's place led to goes, what the new one leads to comes. -/
theorem ress_set {xs : List ItemD} {ps : List ItemV} {k : Nat} {x : ItemD} {p : ItemV} (hl : ps.length = xs.length) (hx : xs[k]? = some x) (hp : ps[k]? = some p) (y : ItemD) (q : ItemV) :
    itemE.ress xs ps = itemE.ress (xs.take k) (ps.take k) ++ (itemE.res x p ++ itemE.ress (xs.drop (k + 1)) (ps.drop (k + 1))) ∧ itemE.ress (xs.set k y) (ps.set k q) = itemE.ress (xs.take k) (ps.take k) ++ (itemE.res y q ++ itemE.ress (xs.drop (k + 1)) (ps.drop (k + 1))) := by
  have hk := (List.getElem?_eq_some_iff.1 hx).1
  have ht : (ps.take k).length = (xs.take k).length := by simp; omega
  constructor
  · have := itemE.ress_split (B := xs.drop (k + 1)) (PB := ps.drop (k + 1)) ht x p
    rw [← take_drop_at hx, ← take_drop_at hp] at this
    exact this
  · rw [List.set_eq_take_append_cons_drop, if_pos hk, List.set_eq_take_append_cons_drop, if_pos (by omega)]
    exact itemE.ress_split ht y q
end Go.Proofs.YtfffocfcnigogaaGreatDoor
