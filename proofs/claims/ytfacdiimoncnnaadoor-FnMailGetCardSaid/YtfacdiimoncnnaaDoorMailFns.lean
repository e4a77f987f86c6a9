/- Contracts: the laws' helpers on mails: what is left of a size, copies, comparisons. -/
import Derived.Test.YtfacdiimoncnnaaDoorMailOkI
import Derived.Test.YtfacdiimoncnnaaDoorPairFnsAddr
namespace Go.Proofs.YtfacdiimoncnnaaDoor
open Go Go.RowKit

/-- Four cells of the call's own, in block k, that may be written. -/
structure FourM (w : World) (k : Nat) (x0 x1 x2 x3 : Value) : Prop where
  at' : FourAt w k x0 x1 x2 x3
  f0 : w.frozen? ⟨k, 0, none⟩ = false
  f1 : w.frozen? ⟨k, 1, none⟩ = false
  f2 : w.frozen? ⟨k, 2, none⟩ = false
  f3 : w.frozen? ⟨k, 3, none⟩ = false
theorem FourM.cells {w : World} {k : Nat} {x0 x1 x2 x3 : Value} (h : FourM w k x0 x1 x2 x3) : (w.cell? ⟨k, 0, none⟩ = some x0 ∧ w.cell? ⟨k, 1, none⟩ = some x1 ∧ w.cell? ⟨k, 2, none⟩ = some x2 ∧ w.cell? ⟨k, 3, none⟩ = some x3) ∧ (w.frozen? ⟨k, 0, none⟩ = false ∧ w.frozen? ⟨k, 1, none⟩ = false ∧ w.frozen? ⟨k, 2, none⟩ = false ∧ w.frozen? ⟨k, 3, none⟩ = false) := ⟨h.at'.cells, h.f0, h.f1, h.f2, h.f3⟩
theorem FourM.lt {w : World} {k : Nat} {x0 x1 x2 x3 : Value} (h : FourM w k x0 x1 x2 x3) : k < w.heap.size := World.block_lt_of_cell? w _ h.at'.c0
theorem FourM.later {w w' : World} {k : Nat} {x0 x1 x2 x3 : Value} (h : FourM w k x0 x1 x2 x3) (hb : Below w.heap.size w w') : FourM w' k x0 x1 x2 x3 :=
  ⟨h.at'.later hb, (hb.frozen (p := ⟨k, 0, none⟩) h.lt).trans h.f0, (hb.frozen (p := ⟨k, 1, none⟩) h.lt).trans h.f1, (hb.frozen (p := ⟨k, 2, none⟩) h.lt).trans h.f2, (hb.frozen (p := ⟨k, 3, none⟩) h.lt).trans h.f3⟩
theorem FourM.new (w : World) (x0 x1 x2 x3 : Value) (t : TypeId) : FourM (w.alloc (.cells #[x0, x1, x2, x3] t)) w.heap.size x0 x1 x2 x3 :=
  ⟨FourAt.new w x0 x1 x2 x3 t, by simp [go_sem], by simp [go_sem], by simp [go_sem], by simp [go_sem]⟩
theorem FourM.set0 {w : World} {k : Nat} {x0 x1 x2 x3 : Value} (h : FourM w k x0 x1 x2 x3) (v : Value) : FourM (w.setCell ⟨k, 0, none⟩ v) k v x1 x2 x3 :=
  ⟨⟨World.cell?_setCell_same _ _ _ h.at'.c0, (World.cell?_setCell_other _ _ _ _ (by simp)).trans h.at'.c1, (World.cell?_setCell_other _ _ _ _ (by simp)).trans h.at'.c2, (World.cell?_setCell_other _ _ _ _ (by simp)).trans h.at'.c3⟩, by simpa using h.f0, by simpa using h.f1, by simpa using h.f2, by simpa using h.f3⟩
theorem FourM.set1 {w : World} {k : Nat} {x0 x1 x2 x3 : Value} (h : FourM w k x0 x1 x2 x3) (v : Value) : FourM (w.setCell ⟨k, 1, none⟩ v) k x0 v x2 x3 :=
  ⟨⟨(World.cell?_setCell_other _ _ _ _ (by simp)).trans h.at'.c0, World.cell?_setCell_same _ _ _ h.at'.c1, (World.cell?_setCell_other _ _ _ _ (by simp)).trans h.at'.c2, (World.cell?_setCell_other _ _ _ _ (by simp)).trans h.at'.c3⟩, by simpa using h.f0, by simpa using h.f1, by simpa using h.f2, by simpa using h.f3⟩
theorem FourM.set2 {w : World} {k : Nat} {x0 x1 x2 x3 : Value} (h : FourM w k x0 x1 x2 x3) (v : Value) : FourM (w.setCell ⟨k, 2, none⟩ v) k x0 x1 v x3 :=
  ⟨⟨(World.cell?_setCell_other _ _ _ _ (by simp)).trans h.at'.c0, (World.cell?_setCell_other _ _ _ _ (by simp)).trans h.at'.c1, World.cell?_setCell_same _ _ _ h.at'.c2, (World.cell?_setCell_other _ _ _ _ (by simp)).trans h.at'.c3⟩, by simpa using h.f0, by simpa using h.f1, by simpa using h.f2, by simpa using h.f3⟩
theorem FourM.set3 {w : World} {k : Nat} {x0 x1 x2 x3 : Value} (h : FourM w k x0 x1 x2 x3) (v : Value) : FourM (w.setCell ⟨k, 3, none⟩ v) k x0 x1 x2 v :=
  ⟨⟨(World.cell?_setCell_other _ _ _ _ (by simp)).trans h.at'.c0, (World.cell?_setCell_other _ _ _ _ (by simp)).trans h.at'.c1, (World.cell?_setCell_other _ _ _ _ (by simp)).trans h.at'.c2, World.cell?_setCell_same _ _ _ h.at'.c3⟩, by simpa using h.f0, by simpa using h.f1, by simpa using h.f2, by simpa using h.f3⟩
theorem FourM.far {w : World} {k k' j : Nat} {x0 x1 x2 x3 : Value} (h : FourM w k x0 x1 x2 x3) (v : Value) (hne : k' ≠ k) : FourM (w.setCell ⟨k', j, none⟩ v) k x0 x1 x2 x3 := by
  obtain ⟨⟨c0, c1, c2, c3⟩, f0, f1, f2, f3⟩ := h
  refine ⟨⟨?_, ?_, ?_, ?_⟩, by simpa using f0, by simpa using f1, by simpa using f2, by simpa using f3⟩
  all_goals exact (World.cell?_setCell_other _ _ _ _ (fun e => hne (congrArg Addr.block e))).trans (by assumption)

/-- What is left of a size behind a mail. -/
def leftM (m : MailD) (left : Int) : Int :=
  if leftA m.fu m.fd left < 0 then -1 else if leftP m.rc (leftA m.fu m.fd left) < 0 then -1 else leftB m.body (leftP m.rc (leftA m.fu m.fd left))
theorem leftA_le (u d : ByteArray) {left : Int} (h : 0 ≤ left) : leftA u d left ≤ left := by unfold leftA; split <;> omega
theorem leftB_le (xs : List ByteArray) {left : Int} (h : 0 ≤ left) : leftB xs left ≤ left := by unfold leftB; split <;> omega
theorem leftB_small2 {xs : List ByteArray} {left : Int} (h : ¬ leftB xs left < 0) (h1 : left ≤ 1048576) : xs.length ≤ 1048576 ∧ ∀ x ∈ xs, x.size ≤ 1048576 := by
  unfold leftB at h
  split at h
  · refine ⟨by omega, fun x hx => ?_⟩
    have := sumB_mem hx
    omega
  · exact absurd (show (-1 : Int) < 0 by decide) h
theorem leftM_small {m : MailD} {left : Int} (h : ¬ leftM m left < 0) (h0 : 0 ≤ left) (h1 : left ≤ 1048576) : MailSz 1048576 m := by
  unfold leftM at h
  split at h
  · exact absurd (show (-1 : Int) < 0 by decide) h
  · rename_i hA
    split at h
    · exact absurd (show (-1 : Int) < 0 by decide) h
    · rename_i hP
      have lA := leftA_le m.fu m.fd h0
      have lP := leftP_le (ps := m.rc) (left := leftA m.fu m.fd left) (by omega)
      obtain ⟨p1, p2⟩ := leftP_small hP (by omega)
      obtain ⟨b1, b2⟩ := leftB_small2 h (by omega)
      have hA2 : m.fu.size ≤ 1048576 ∧ m.fd.size ≤ 1048576 := by
        unfold leftA at hA
        split at hA
        · omega
        · exact absurd (show (-1 : Int) < 0 by decide) hA
      exact ⟨hA2.1, hA2.2, p1, p2, b1, b2⟩

set_option maxHeartbeats 800000 in
set_option maxRecDepth 100000 in
theorem szMail_any (m : MailD) (a1 : Option Addr) (c1 : Nat) (a2 : Option Addr) (c2 : Nat) (left : Int) (w : World) (hat : MailAt w m a1 a2) (hsz : MailSz maxLen m) (h0 : 0 ≤ left) (h1 : left ≤ 1048576) :
    Calls Tryd.prog 27 #[.agg (mailV m a1 c1 a2 c2), .int .i64 left] w fun e w' => e = .returned (.int .i64 (leftM m left)) ∧ Below w.heap.size w w' := by
  have hb0 : Below w.heap.size w (w.alloc (.cells (mailV m a1 c1 a2 c2) 54)) := (Below.refl _ _).alloc (Nat.le_refl _) _
  have HAT := Lib.hid hat
  have HS := Lib.hid hsz
  obtain ⟨z1, z2, z3, z4, z5, z6⟩ := hsz
  unfold maxLen at z1 z2 z3 z4 z5 z6
  have Z4 : Hid (∀ p ∈ m.rc, p.1.size ≤ 9223372036854775807 ∧ p.2.size ≤ 9223372036854775807) := Lib.hid fun p hp => ⟨by have := (z4 p hp).1; omega, by have := (z4 p hp).2; omega⟩
  have Z6 : Hid (∀ x ∈ m.body, x.size ≤ 9223372036854775807) := Lib.hid fun x hx => by have := z6 x hx; omega
  have HF := Lib.hid (FourAt.new w (.string m.fu) (.string m.fd) (.slice a1 m.rc.length c1) (.slice a2 m.body.length c2) 54)
  clear hat z4 z6
  obtain ⟨lA, hA⟩ : ∃ l, leftA m.fu m.fd left = l := ⟨_, rfl⟩
  have LA := leftA_le m.fu m.fd h0
  rw [hA] at LA
  have HA := Lib.hid hA
  by_cases nA : lA < 0
  · have hq : Hid (leftM m left = -1) := Lib.hid (by unfold leftM; rw [hA, if_pos nA])
    clear hA
    go_enter Tryd.func27, Tryd.ntmps27
    go_wp2_with fail
    refine (szAddr_any m.fu m.fd left _ h0 h1 (by omega) (by omega)).mono ?_
    rintro e w1 ⟨rfl, hb1⟩
    rw [HA.out]
    have B1 := hb0.trans (hb1.mono (by simp))
    go_wp2
    go_ret
    exact ⟨ret_i hq.out.symm, B1⟩
  · obtain ⟨lP, hP⟩ : ∃ l, leftP m.rc lA = l := ⟨_, rfl⟩
    have LP := leftP_le (ps := m.rc) (left := lA) (by omega)
    rw [hP] at LP
    have HP := Lib.hid hP
    by_cases nP : lP < 0
    · have hq : Hid (leftM m left = -1) := Lib.hid (by unfold leftM; rw [hA, if_neg nA, hP, if_pos nP])
      clear hA hP
      go_enter Tryd.func27, Tryd.ntmps27
      go_wp2_with fail
      refine (szAddr_any m.fu m.fd left _ h0 h1 (by omega) (by omega)).mono ?_
      rintro e w1 ⟨rfl, hb1⟩
      rw [HA.out]
      have B1 := hb0.trans (hb1.mono (by simp))
      obtain ⟨g0, g1, g2, g3⟩ := (HF.out.later hb1).cells
      go_wp2_with fail
      refine (szAddrS_any a1 c1 m.rc lA _ (HAT.out.rc.below B1 (Nat.le_refl _)) (by omega) (by omega) (by omega) Z4.out).mono ?_
      rintro e w2 ⟨rfl, hb2⟩
      rw [HP.out]
      have B2 := B1.trans (hb2.mono B1.size)
      go_wp2
      go_ret
      exact ⟨ret_i hq.out.symm, B2⟩
    · have hq : Hid (leftM m left = leftB m.body lP) := Lib.hid (by unfold leftM; rw [hA, if_neg nA, hP, if_neg nP])
      obtain ⟨lB, hB⟩ : ∃ l, leftB m.body lP = l := ⟨_, rfl⟩
      have HB := Lib.hid hB
      clear hA hP hB
      go_enter Tryd.func27, Tryd.ntmps27
      go_wp2_with fail
      refine (szAddr_any m.fu m.fd left _ h0 h1 (by omega) (by omega)).mono ?_
      rintro e w1 ⟨rfl, hb1⟩
      rw [HA.out]
      have B1 := hb0.trans (hb1.mono (by simp))
      have F1 := Lib.hid (HF.out.later hb1)
      obtain ⟨g0, g1, g2, g3⟩ := F1.out.cells
      go_wp2_with fail
      refine (szAddrS_any a1 c1 m.rc lA _ (HAT.out.rc.below B1 (Nat.le_refl _)) (by omega) (by omega) (by omega) Z4.out).mono ?_
      rintro e w2 ⟨rfl, hb2⟩
      rw [HP.out]
      have B2 := B1.trans (hb2.mono B1.size)
      obtain ⟨g0, g1, g2, g3⟩ := (F1.out.later hb2).cells
      go_wp2_with fail
      refine (szStringS_any a2 c2 m.body lP _ (HAT.out.body.below B2 (Nat.le_refl _)) (by omega) (by omega) (by omega) Z6.out).mono ?_
      rintro e w3 ⟨rfl, rfl⟩
      rw [HB.out]
      by_cases nB : lB < 0
      · have hq2 : Hid (leftM m left = -1) := Lib.hid (by
          have e1 := HB.out
          rw [hq.out, e1]
          unfold leftB at e1
          split at e1 <;> omega)
        go_wp2
        go_ret
        exact ⟨ret_i hq2.out.symm, B2⟩
      · have hq2 : Hid (leftM m left = lB) := Lib.hid (by rw [hq.out, HB.out])
        go_wp2
        go_ret
        exact ⟨ret_i hq2.out.symm, B2⟩

/-- A mail of the call's own. -/
structure MailOwn (w : World) (B : Nat) (m : MailD) (a1 : Option Addr) (c1 : Nat) (a2 : Option Addr) (c2 : Nat) : Prop where
  rc : PRow w B 56 a1 c1 m.rc
  body : Row w B a2 c2 m.body
  ne : (blockOf a1 = none ∨ blockOf a1 ≠ blockOf a2) ∧ (blockOf a2 = none ∨ blockOf a2 ≠ blockOf a1)
theorem MailOwn.at {w : World} {B : Nat} {m : MailD} {a1 : Option Addr} {c1 : Nat} {a2 : Option Addr} {c2 : Nat} (h : MailOwn w B m a1 c1 a2 c2) : MailAt w m a1 a2 := ⟨h.rc.pairs, h.body.strs⟩
theorem MailOwn.later {w w' : World} {B : Nat} {m : MailD} {a1 : Option Addr} {c1 : Nat} {a2 : Option Addr} {c2 : Nat} (h : MailOwn w B m a1 c1 a2 c2) (hb : Below w.heap.size w w') : MailOwn w' B m a1 c1 a2 c2 := ⟨h.rc.later hb, h.body.later hb, h.ne⟩
theorem PRow.cap {w : World} {B : Nat} {t : TypeId} {ao : Option Addr} {cap : Nat} {ps : List Pair} (h : PRow w B t ao cap ps) : ps.length ≤ cap := by
  rcases h.2 with ⟨hv, hn⟩ | ⟨g, c, cur, hv, _, _, hc, _⟩
  · omega
  · simp only [Value.slice.injEq, true_and] at hv
    omega
theorem PRow.ne_row {wA wB : World} {B1 B2 : Nat} {t : TypeId} {ao bo : Option Addr} {c1 c2 : Nat} {ps : List Pair} {ys : List ByteArray} (h1 : PRow wA B1 t ao c1 ps) (h2 : Row wB B2 bo c2 ys) (hs : wA.heap.size ≤ B2) : (blockOf ao = none ∨ blockOf ao ≠ blockOf bo) ∧ (blockOf bo = none ∨ blockOf bo ≠ blockOf ao) := by
  have key : ∀ k, blockOf ao = some k → blockOf bo = some k → False := fun k e1 e2 => by
    have := (h1.lt e1).2
    have := (h2.lt e2).1
    omega
  constructor
  · cases e : blockOf ao with
    | none => exact .inl rfl
    | some k => exact .inr fun e2 => key k e e2.symm
  · cases e : blockOf bo with
    | none => exact .inl rfl
    | some k => exact .inr fun e2 => key k e2.symm e
theorem ownsRow_base {w : World} {B B' : Nat} {e : TypeId} {size : Nat} {v : Value} {n : Nat} {xs : List Value} (h : w.ownsRow B e size v n xs) (hB : B' ≤ B) : w.ownsRow B' e size v n xs := by
  refine ⟨h.1, ?_⟩
  rcases h.2 with hn | ⟨g, cap, cur, hv, hb, rest⟩
  · exact .inl hn
  · exact .inr ⟨g, cap, cur, hv, Nat.le_trans hB hb, rest⟩

theorem own_low {w : World} {B : Nat} {e : TypeId} {size : Nat} {ao : Option Addr} {n cap k j : Nat} {xs : List Value} (h : w.ownsRow B e size (.slice ao n cap) n xs) (hk : k < B) (v : Value) : (w.setCell ⟨k, j, none⟩ v).ownsRow B e size (.slice ao n cap) n xs := by
  refine h.kept (row := some k) ⟨rfl, rfl, rfl, by simp, fun i _ hi => heap_setCell_other w ⟨k, j, none⟩ i v (fun e => hi (by simp [e]))⟩ ?_
  cases e : (Value.slice ao n cap).ownBlock with
  | none => exact .inl rfl
  | some g =>
    refine .inr fun e2 => ?_
    have := (h.lt g e).1
    have := Option.some.inj e2
    omega
theorem PRow.low {w : World} {B : Nat} {t : TypeId} {ao : Option Addr} {cap k j : Nat} {ps : List Pair} (h : PRow w B t ao cap ps) (hk : k < B) (v : Value) : PRow (w.setCell ⟨k, j, none⟩ v) B t ao cap ps := own_low h hk v
theorem Row.low {w : World} {B : Nat} {ao : Option Addr} {cap k j : Nat} {xs : List ByteArray} (h : Row w B ao cap xs) (hk : k < B) (v : Value) : Row (w.setCell ⟨k, j, none⟩ v) B ao cap xs := own_low h hk v
theorem FourAt.far {w : World} {k k' j : Nat} {x0 x1 x2 x3 : Value} (h : FourAt w k x0 x1 x2 x3) (v : Value) (hne : k' ≠ k) : FourAt (w.setCell ⟨k', j, none⟩ v) k x0 x1 x2 x3 := by
  obtain ⟨c0, c1, c2, c3⟩ := h
  refine ⟨?_, ?_, ?_, ?_⟩
  all_goals exact (World.cell?_setCell_other _ _ _ _ (fun e => hne (congrArg Addr.block e))).trans (by assumption)

set_option maxHeartbeats 1600000 in
set_option maxRecDepth 100000 in
theorem toMail_any (m : MailD) (a1 : Option Addr) (c1 : Nat) (a2 : Option Addr) (c2 : Nat) (w : World) (hat : MailAt w m a1 a2) (hsz : MailSz 1048576 m) :
    Calls Tryd.prog 29 #[.agg (mailV m a1 c1 a2 c2)] w fun e w' => ∃ b1 d1 b2 d2, e = .returned (.agg (mailV m b1 d1 b2 d2)) ∧ MailOwn w' w.heap.size m b1 d1 b2 d2 ∧ Below w.heap.size w w' := by
  have HAT := Lib.hid hat
  have z1 := hsz.rcl
  have z2 := hsz.bol
  have hA0 := (((FourAt.new w (.string m.fu) (.string m.fd) (.slice a1 m.rc.length c1) (.slice a2 m.body.length c2) 54).later ((Below.refl _ _).alloc (Nat.le_refl _) (.cells #[.string ByteArray.empty, .string ByteArray.empty, .slice none 0 0, .slice none 0 0] 59))).later ((Below.refl _ _).alloc (Nat.le_refl _) (.cells #[.string ByteArray.empty, .string ByteArray.empty, .slice none 0 0, .slice none 0 0] 59)))
  have hR0 := (FourM.new (w.alloc (.cells (mailV m a1 c1 a2 c2) 54)) (.string ByteArray.empty) (.string ByteArray.empty) (.slice none 0 0) (.slice none 0 0) 59).later ((Below.refl _ _).alloc (Nat.le_refl _) (.cells #[.string ByteArray.empty, .string ByteArray.empty, .slice none 0 0, .slice none 0 0] 59))
  have hO0 := FourM.new ((w.alloc (.cells (mailV m a1 c1 a2 c2) 54)).alloc (.cells #[.string ByteArray.empty, .string ByteArray.empty, .slice none 0 0, .slice none 0 0] 59)) (.string ByteArray.empty) (.string ByteArray.empty) (.slice none 0 0) (.slice none 0 0) 59
  have hb0 : Below w.heap.size w (((w.alloc (.cells (mailV m a1 c1 a2 c2) 54)).alloc (.cells #[.string ByteArray.empty, .string ByteArray.empty, .slice none 0 0, .slice none 0 0] 59)).alloc (.cells #[.string ByteArray.empty, .string ByteArray.empty, .slice none 0 0, .slice none 0 0] 59)) := (((Below.refl _ _).alloc (Nat.le_refl _) _).alloc (by simp) _).alloc (by simp; omega) _
  simp only [World.size_alloc] at hR0 hO0
  have A0 := Lib.hid hA0
  have R0 := Lib.hid hR0
  have O0 := Lib.hid hO0
  clear hat hsz hA0 hR0 hO0
  go_enter Tryd.func29, Tryd.ntmps29
  go_wp2_with fail
  refine (toAddr_any m.fu m.fd _).mono ?_
  rintro e w1 ⟨rfl, hb1⟩
  have hz1 := hb1.size
  simp only [World.size_alloc] at hz1
  have A1 := Lib.hid (A0.out.later hb1)
  have R1 := Lib.hid (R0.out.later hb1)
  have O1 := Lib.hid (O0.out.later hb1)
  have B1 := Lib.hid (((hb0.trans (hb1.mono hb0.size)).setCell (p := ⟨w.heap.size + 1 + 1, 0, none⟩) (by simp; omega) (.string m.fu)).setCell (p := ⟨w.heap.size + 1 + 1, 1, none⟩) (by simp; omega) (.string m.fd))
  obtain ⟨⟨o0, o1, o2, o3⟩, p0, p1, p2, p3⟩ := O1.out.cells
  obtain ⟨g0, g1, g2, g3⟩ := A1.out.cells
  clear hb1 hb0
  go_wp2_with fail
  refine (toAddrS_any a1 c1 m.rc _ (HAT.out.rc.below B1.out (Nat.le_refl _)) z1).mono ?_
  rintro e w2 ⟨b1, d1, rfl, ho2, hb2⟩
  have hz2 := hb2.size
  simp only [World.size_setCell] at hz2
  have A2 := Lib.hid (((A1.out.far (k' := w.heap.size + 1 + 1) (j := 0) (.string m.fu) (by omega)).far (k' := w.heap.size + 1 + 1) (j := 1) (.string m.fd) (by omega)).later hb2)
  have R2 := Lib.hid (((R1.out.far (k' := w.heap.size + 1 + 1) (j := 0) (.string m.fu) (by omega)).far (k' := w.heap.size + 1 + 1) (j := 1) (.string m.fd) (by omega)).later hb2)
  have O2 := Lib.hid (((O1.out.set0 (.string m.fu)).set1 (.string m.fd)).later hb2)
  have B2 := Lib.hid ((B1.out.trans (hb2.mono B1.out.size)).setCell (p := ⟨w.heap.size + 1 + 1, 2, none⟩) (by simp; omega) (.slice b1 m.rc.length d1))
  have P2 := Lib.hid (ho2.low (k := w.heap.size + 1 + 1) (j := 2) (by simp; omega) (.slice b1 m.rc.length d1))
  clear o0 o1 o2 o3 p0 p1 p2 p3 g0 g1 g2 g3 ho2 hb2
  obtain ⟨⟨o0, o1, o2, o3⟩, p0, p1, p2, p3⟩ := O2.out.cells
  obtain ⟨g0, g1, g2, g3⟩ := A2.out.cells
  go_wp2_with fail
  refine (toStringS_row a2 c2 m.body _ (HAT.out.body.below B2.out (Nat.le_refl _)) z2).mono ?_
  rintro e w3 ⟨b2, d2, rfl, ho3, hb3⟩
  have hz3 := hb3.size
  simp only [World.size_setCell] at hz3
  have R3 := Lib.hid ((R2.out.far (k' := w.heap.size + 1 + 1) (j := 2) (.slice b1 m.rc.length d1) (by omega)).later hb3)
  have O3 := Lib.hid ((O2.out.set2 (.slice b1 m.rc.length d1)).later hb3)
  have B3 := Lib.hid ((B2.out.trans (hb3.mono B2.out.size)).setCell (p := ⟨w.heap.size + 1 + 1, 3, none⟩) (by simp; omega) (.slice b2 m.body.length d2))
  have NE := Lib.hid (P2.out.ne_row ho3 (Nat.le_refl _))
  have P3 := Lib.hid ((P2.out.later hb3).low (k := w.heap.size + 1 + 1) (j := 3) (by simp; omega) (.slice b2 m.body.length d2))
  have Q3 := Lib.hid (ho3.low (k := w.heap.size + 1 + 1) (j := 3) (by simp; omega) (.slice b2 m.body.length d2))
  clear o0 o1 o2 o3 p0 p1 p2 p3 g0 g1 g2 g3 ho3 hb3
  obtain ⟨⟨o0, o1, o2, o3⟩, p0, p1, p2, p3⟩ := O3.out.cells
  obtain ⟨⟨r0, r1, r2, r3⟩, q0, q1, q2, q3⟩ := R3.out.cells
  have hn : w.heap.size + 1 + 1 ≠ w.heap.size + 1 := by omega
  go_wp2
  refine bodyPost_ret (v := .agg (mailV m b1 d1 b2 d2)) (by simp [results, Tryd.results29, go_sem, r0, r1, r2, r3]) rfl ⟨b1, d1, b2, d2, rfl, ?_, ?_⟩
  · refine ⟨ownsRow_base (((((P3.out.low (k := w.heap.size + 1) (j := 0) (by simp; omega) _).low (k := w.heap.size + 1) (j := 1) (by simp; omega) _).low (k := w.heap.size + 1) (j := 2) (by simp; omega) _).low (k := w.heap.size + 1) (j := 3) (by simp; omega) _)) (by simp; omega), ownsRow_base (((((Q3.out.low (k := w.heap.size + 1) (j := 0) (by simp; omega) _).low (k := w.heap.size + 1) (j := 1) (by simp; omega) _).low (k := w.heap.size + 1) (j := 2) (by simp; omega) _).low (k := w.heap.size + 1) (j := 3) (by simp; omega) _)) (by simp; omega), NE.out⟩
  · exact (((B3.out.setCell (p := ⟨w.heap.size + 1, 0, none⟩) (by simp) _).setCell (p := ⟨w.heap.size + 1, 1, none⟩) (by simp) _).setCell (p := ⟨w.heap.size + 1, 2, none⟩) (by simp) _).setCell (p := ⟨w.heap.size + 1, 3, none⟩) (by simp) _

set_option maxHeartbeats 1600000 in
set_option maxRecDepth 100000 in
theorem eqMail_same (m : MailD) (a1 : Option Addr) (c1 : Nat) (a2 : Option Addr) (c2 : Nat) (b1 : Option Addr) (d1 : Nat) (b2 : Option Addr) (d2 : Nat) (w : World) (ha : MailAt w m a1 a2) (hb : MailAt w m b1 b2) (h1 : m.rc.length ≤ 1048576) (h2 : m.body.length ≤ 1048576) :
    Calls Tryd.prog 32 #[.agg (mailV m a1 c1 a2 c2), .agg (mailV m b1 d1 b2 d2)] w fun e w' => e = .returned (.bool true) ∧ Below w.heap.size w w' := by
  have HA := Lib.hid ha
  have HB := Lib.hid hb
  have X0 := Lib.hid ((FourAt.new w (.string m.fu) (.string m.fd) (.slice a1 m.rc.length c1) (.slice a2 m.body.length c2) 59).later ((Below.refl _ _).alloc (Nat.le_refl _) (.cells (mailV m b1 d1 b2 d2) 59)))
  have Y0 := Lib.hid (FourAt.new (w.alloc (.cells (mailV m a1 c1 a2 c2) 59)) (.string m.fu) (.string m.fd) (.slice b1 m.rc.length d1) (.slice b2 m.body.length d2) 59)
  have hb0 : Below w.heap.size w ((w.alloc (.cells (mailV m a1 c1 a2 c2) 59)).alloc (.cells (mailV m b1 d1 b2 d2) 59)) := ((Below.refl _ _).alloc (Nat.le_refl _) _).alloc (by simp) _
  clear ha hb
  go_enter Tryd.func32, Tryd.ntmps32
  go_wp2_with fail
  refine (eqAddr_same m.fu m.fd _).mono ?_
  rintro e w1 ⟨rfl, hb1⟩
  have X1 := Lib.hid (X0.out.later hb1)
  have Y1 := Lib.hid (Y0.out.later hb1)
  have B1 := hb0.trans (hb1.mono hb0.size)
  obtain ⟨x0, x1, x2, x3⟩ := X1.out.cells
  obtain ⟨y0, y1, y2, y3⟩ := Y1.out.cells
  simp only [World.size_alloc] at y0 y1 y2 y3
  clear hb1 hb0
  go_wp2_with fail
  refine (eqAddrS_same a1 b1 c1 d1 m.rc _ (HA.out.rc.below B1 (Nat.le_refl _)) (HB.out.rc.below B1 (Nat.le_refl _)) h1).mono ?_
  rintro e w2 ⟨rfl, hb2⟩
  have B2 := B1.trans (hb2.mono B1.size)
  clear x0 x1 x2 x3 y0 y1 y2 y3
  obtain ⟨x0, x1, x2, x3⟩ := (X1.out.later hb2).cells
  obtain ⟨y0, y1, y2, y3⟩ := (Y1.out.later hb2).cells
  simp only [World.size_alloc] at y0 y1 y2 y3
  go_wp2_with fail
  refine (eqStringS_same a2 b2 c2 d2 m.body _ (HA.out.body.below B2 (Nat.le_refl _)) (HB.out.body.below B2 (Nat.le_refl _)) h2).mono ?_
  rintro e w3 ⟨rfl, n, rfl⟩
  go_wp2
  go_ret
  exact ⟨rfl, drewN_below B2 n⟩
end Go.Proofs.YtfacdiimoncnnaaDoor
