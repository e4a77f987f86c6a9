/- Contracts: the laws' helpers on mails: what is left of a size, copies, comparisons. -/
import Derived.Test.YtgbjdkmkgoidlaaMailOkI
import Derived.Test.YtgbjdkmkgoidlaaPairFnsAddr
namespace Go.Proofs.Ytgbjdkmkgoidlaa
open Go Go.RowKit

/-- Four cells of the call's own, in block k, that may be written. -/
structure FourM (w : World) (k : Nat) (x0 x1 x2 x3 : Value) : Prop where
  at' : FourAt w k x0 x1 x2 x3
  f0 : w.frozen? ⟨k, 0, none⟩ = false
  f1 : w.frozen? ⟨k, 1, none⟩ = false
  f2 : w.frozen? ⟨k, 2, none⟩ = false
  f3 : w.frozen? ⟨k, 3, none⟩ = false
theorem FourM.cells {w : World} {k : Nat} {x0 x1 x2 x3 : Value} (h : FourM w k x0 x1 x2 x3) : (w.cell? ⟨k, 0, none⟩ = some x0 ∧ w.cell? ⟨k, 1, none⟩ = some x1 ∧ w.cell? ⟨k, 2, none⟩ = some x2 ∧ w.cell? ⟨k, 3, none⟩ = some x3) ∧ (w.frozen? ⟨k, 0, none⟩ = false ∧ w.frozen? ⟨k, 1, none⟩ = false ∧ w.frozen? ⟨k, 2, none⟩ = false ∧ w.frozen? ⟨k, 3, none⟩ = false) := ⟨h.at'.cells, h.f0, h.f1, h.f2, h.f3⟩
theorem FourM.lt {w : World} {k : Nat} {x0 x1 x2 x3 : Value} (h : FourM w k x0 x1 x2 x3) : k < w.heap.size := World.block_lt_of_cell? w _ h.at'.c0
theorem FourM.later {w w' : World} {k : Nat} {x0 x1 x2 x3 : Value} (h : FourM w k x0 x1 x2 x3) (hb : Below w.heap.size w w') : FourM w' k x0 x1 x2 x3 :=
  ⟨h.at'.later hb, (hb.frozen (p := ⟨k, 0, none⟩) h.lt).trans h.f0, (hb.frozen (p := ⟨k, 1, none⟩) h.lt).trans h.f1, (hb.frozen (p := ⟨k, 2, none⟩) h.lt).trans h.f2, (hb.frozen (p := ⟨k, 3, none⟩) h.lt).trans h.f3⟩
theorem FourM.new (w : World) (x0 x1 x2 x3 : Value) (t : TypeId) : FourM (w.alloc (.cells #[x0, x1, x2, x3] t)) w.heap.size x0 x1 x2 x3 :=
  ⟨FourAt.new w x0 x1 x2 x3 t, by simp [go_sem], by simp [go_sem], by simp [go_sem], by simp [go_sem]⟩
theorem FourM.set0 {w : World} {k : Nat} {x0 x1 x2 x3 : Value} (h : FourM w k x0 x1 x2 x3) (v : Value) : FourM (w.setCell ⟨k, 0, none⟩ v) k v x1 x2 x3 :=
  ⟨⟨World.cell?_setCell_same _ _ _ h.at'.c0, (World.cell?_setCell_other _ _ _ _ (by simp)).trans h.at'.c1, (World.cell?_setCell_other _ _ _ _ (by simp)).trans h.at'.c2, (World.cell?_setCell_other _ _ _ _ (by simp)).trans h.at'.c3⟩, by simpa using h.f0, by simpa using h.f1, by simpa using h.f2, by simpa using h.f3⟩
theorem FourM.set1 {w : World} {k : Nat} {x0 x1 x2 x3 : Value} (h : FourM w k x0 x1 x2 x3) (v : Value) : FourM (w.setCell ⟨k, 1, none⟩ v) k x0 v x2 x3 :=
  ⟨⟨(World.cell?_setCell_other _ _ _ _ (by simp)).trans h.at'.c0, World.cell?_setCell_same _ _ _ h.at'.c1, (World.cell?_setCell_other _ _ _ _ (by simp)).trans h.at'.c2, (World.cell?_setCell_other _ _ _ _ (by simp)).trans h.at'.c3⟩, by simpa using h.f0, by simpa using h.f1, by simpa using h.f2, by simpa using h.f3⟩
theorem FourM.set2 {w : World} {k : Nat} {x0 x1 x2 x3 : Value} (h : FourM w k x0 x1 x2 x3) (v : Value) : FourM (w.setCell ⟨k, 2, none⟩ v) k x0 x1 v x3 :=
  ⟨⟨(World.cell?_setCell_other _ _ _ _ (by simp)).trans h.at'.c0, (World.cell?_setCell_other _ _ _ _ (by simp)).trans h.at'.c1, World.cell?_setCell_same _ _ _ h.at'.c2, (World.cell?_setCell_other _ _ _ _ (by simp)).trans h.at'.c3⟩, by simpa using h.f0, by simpa using h.f1, by simpa using h.f2, by simpa using h.f3⟩
theorem FourM.set3 {w : World} {k : Nat} {x0 x1 x2 x3 : Value} (h : FourM w k x0 x1 x2 x3) (v : Value) : FourM (w.setCell ⟨k, 3, none⟩ v) k x0 x1 x2 v :=
  ⟨⟨(World.cell?_setCell_other _ _ _ _ (by simp)).trans h.at'.c0, (World.cell?_setCell_other _ _ _ _ (by simp)).trans h.at'.c1, (World.cell?_setCell_other _ _ _ _ (by simp)).trans h.at'.c2, World.cell?_setCell_same _ _ _ h.at'.c3⟩, by simpa using h.f0, by simpa using h.f1, by simpa using h.f2, by simpa using h.f3⟩
theorem FourM.far {w : World} {k k' j : Nat} {x0 x1 x2 x3 : Value} (h : FourM w k x0 x1 x2 x3) (v : Value) (hne : k' ≠ k) : FourM (w.setCell ⟨k', j, none⟩ v) k x0 x1 x2 x3 := by
  obtain ⟨⟨c0, c1, c2, c3⟩, f0, f1, f2, f3⟩ := h
  refine ⟨⟨?_, ?_, ?_, ?_⟩, by simpa using f0, by simpa using f1, by simpa using f2, by simpa using f3⟩
  all_goals exact (World.cell?_setCell_other _ _ _ _ (fun e => hne (congrArg Addr.block e))).trans (by assumption)

/-- What is left of a size behind a mail. -/
def leftM (m : MailD) (left : Int) : Int :=
  if leftA m.fu m.fd left < 0 then -1 else if leftP m.rc (leftA m.fu m.fd left) < 0 then -1 else leftB m.body (leftP m.rc (leftA m.fu m.fd left))
theorem leftA_le (u d : ByteArray) {left : Int} (h : 0 ≤ left) : leftA u d left ≤ left := by unfold leftA; split <;> omega
theorem leftB_le (xs : List ByteArray) {left : Int} (h : 0 ≤ left) : leftB xs left ≤ left := by unfold leftB; split <;> omega
theorem leftB_small2 {xs : List ByteArray} {left : Int} (h : ¬ leftB xs left < 0) (h1 : left ≤ 1048576) : xs.length ≤ 1048576 ∧ ∀ x ∈ xs, x.size ≤ 1048576 := by
  unfold leftB at h
  split at h
  · refine ⟨by omega, fun x hx => ?_⟩
    have := sumB_mem hx
    omega
  · exact absurd (show (-1 : Int) < 0 by decide) h
theorem leftM_small {m : MailD} {left : Int} (h : ¬ leftM m left < 0) (h0 : 0 ≤ left) (h1 : left ≤ 1048576) : MailSz 1048576 m := by
  unfold leftM at h
  split at h
  · exact absurd (show (-1 : Int) < 0 by decide) h
  · rename_i hA
    split at h
    · exact absurd (show (-1 : Int) < 0 by decide) h
    · rename_i hP
      have lA := leftA_le m.fu m.fd h0
      have lP := leftP_le (ps := m.rc) (left := leftA m.fu m.fd left) (by omega)
      obtain ⟨p1, p2⟩ := leftP_small hP (by omega)
      obtain ⟨b1, b2⟩ := leftB_small2 h (by omega)
      have hA2 : m.fu.size ≤ 1048576 ∧ m.fd.size ≤ 1048576 := by
        unfold leftA at hA
        split at hA
        · omega
        · exact absurd (show (-1 : Int) < 0 by decide) hA
      exact ⟨hA2.1, hA2.2, p1, p2, b1, b2⟩

/-- A mail of the call's own. -/
structure MailOwn (w : World) (B : Nat) (m : MailD) (a1 : Option Addr) (c1 : Nat) (a2 : Option Addr) (c2 : Nat) : Prop where
  rc : PRow w B 39 a1 c1 m.rc
  body : Row w B a2 c2 m.body
  ne : (blockOf a1 = none ∨ blockOf a1 ≠ blockOf a2) ∧ (blockOf a2 = none ∨ blockOf a2 ≠ blockOf a1)
theorem MailOwn.at {w : World} {B : Nat} {m : MailD} {a1 : Option Addr} {c1 : Nat} {a2 : Option Addr} {c2 : Nat} (h : MailOwn w B m a1 c1 a2 c2) : MailAt w m a1 a2 := ⟨h.rc.pairs, h.body.strs⟩
theorem MailOwn.later {w w' : World} {B : Nat} {m : MailD} {a1 : Option Addr} {c1 : Nat} {a2 : Option Addr} {c2 : Nat} (h : MailOwn w B m a1 c1 a2 c2) (hb : Below w.heap.size w w') : MailOwn w' B m a1 c1 a2 c2 := ⟨h.rc.later hb, h.body.later hb, h.ne⟩
theorem PRow.cap {w : World} {B : Nat} {t : TypeId} {ao : Option Addr} {cap : Nat} {ps : List Pair} (h : PRow w B t ao cap ps) : ps.length ≤ cap := by
  rcases h.2 with ⟨hv, hn⟩ | ⟨g, c, cur, hv, _, _, hc, _⟩
  · omega
  · simp only [Value.slice.injEq, true_and] at hv
    omega
theorem PRow.ne_row {wA wB : World} {B1 B2 : Nat} {t : TypeId} {ao bo : Option Addr} {c1 c2 : Nat} {ps : List Pair} {ys : List ByteArray} (h1 : PRow wA B1 t ao c1 ps) (h2 : Row wB B2 bo c2 ys) (hs : wA.heap.size ≤ B2) : (blockOf ao = none ∨ blockOf ao ≠ blockOf bo) ∧ (blockOf bo = none ∨ blockOf bo ≠ blockOf ao) := by
  have key : ∀ k, blockOf ao = some k → blockOf bo = some k → False := fun k e1 e2 => by
    have := (h1.lt e1).2
    have := (h2.lt e2).1
    omega
  constructor
  · cases e : blockOf ao with
    | none => exact .inl rfl
    | some k => exact .inr fun e2 => key k e e2.symm
  · cases e : blockOf bo with
    | none => exact .inl rfl
    | some k => exact .inr fun e2 => key k e2.symm e
theorem ownsRow_base {w : World} {B B' : Nat} {e : TypeId} {size : Nat} {v : Value} {n : Nat} {xs : List Value} (h : w.ownsRow B e size v n xs) (hB : B' ≤ B) : w.ownsRow B' e size v n xs := by
  refine ⟨h.1, ?_⟩
  rcases h.2 with hn | ⟨g, cap, cur, hv, hb, rest⟩
  · exact .inl hn
  · exact .inr ⟨g, cap, cur, hv, Nat.le_trans hB hb, rest⟩

theorem own_low {w : World} {B : Nat} {e : TypeId} {size : Nat} {ao : Option Addr} {n cap k j : Nat} {xs : List Value} (h : w.ownsRow B e size (.slice ao n cap) n xs) (hk : k < B) (v : Value) : (w.setCell ⟨k, j, none⟩ v).ownsRow B e size (.slice ao n cap) n xs := by
  refine h.kept (row := some k) ⟨rfl, rfl, rfl, by simp, fun i _ hi => heap_setCell_other w ⟨k, j, none⟩ i v (fun e => hi (by simp [e]))⟩ ?_
  cases e : (Value.slice ao n cap).ownBlock with
  | none => exact .inl rfl
  | some g =>
    refine .inr fun e2 => ?_
    have := (h.lt g e).1
    have := Option.some.inj e2
    omega
theorem PRow.low {w : World} {B : Nat} {t : TypeId} {ao : Option Addr} {cap k j : Nat} {ps : List Pair} (h : PRow w B t ao cap ps) (hk : k < B) (v : Value) : PRow (w.setCell ⟨k, j, none⟩ v) B t ao cap ps := own_low h hk v
theorem Row.low {w : World} {B : Nat} {ao : Option Addr} {cap k j : Nat} {xs : List ByteArray} (h : Row w B ao cap xs) (hk : k < B) (v : Value) : Row (w.setCell ⟨k, j, none⟩ v) B ao cap xs := own_low h hk v
theorem FourAt.far {w : World} {k k' j : Nat} {x0 x1 x2 x3 : Value} (h : FourAt w k x0 x1 x2 x3) (v : Value) (hne : k' ≠ k) : FourAt (w.setCell ⟨k', j, none⟩ v) k x0 x1 x2 x3 := by
  obtain ⟨c0, c1, c2, c3⟩ := h
  refine ⟨?_, ?_, ?_, ?_⟩
  all_goals exact (World.cell?_setCell_other _ _ _ _ (fun e => hne (congrArg Addr.block e))).trans (by assumption)

end Go.Proofs.Ytgbjdkmkgoidlaa
