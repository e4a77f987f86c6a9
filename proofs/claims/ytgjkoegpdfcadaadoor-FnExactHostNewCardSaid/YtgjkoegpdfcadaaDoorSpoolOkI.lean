/- Contracts: whether a spool is ok, of the program. -/
import Derived.Test.YtgjkoegpdfcadaaDoorSpoolValid
namespace Go.Proofs.YtgjkoegpdfcadaaDoor
open Go Go.RowKit

/-- What is asked of the next item, behind one with the number p. -/
def nextB (last p : Int) (x : ItemD) : Bool := decide (p < x.id ∧ x.id ≤ last) && itemB x
def spoolBad (s : SpoolD) (k : Nat) : Bool := match s.items[k]? with
  | some x => !nextB s.last (ahead s.items k) x
  | none => false
theorem spoolBad_of {s : SpoolD} {k : Nat} {x : ItemD} (h : s.items[k]? = some x) : spoolBad s k = !nextB s.last (ahead s.items k) x := by unfold spoolBad; rw [h]
theorem good_chain {s : SpoolD} : ∀ {k : Nat}, k ≤ s.items.length → (∀ j, j < k → spoolBad s j = false) → (s.items.take k).all itemB = true ∧ ascB s.last 0 s.items = ascB s.last (ahead s.items k) (s.items.drop k)
  | 0, _, _ => ⟨by simp, rfl⟩
  | k + 1, hk, h => by
    obtain ⟨x, hx⟩ : ∃ x, s.items[k]? = some x := ⟨_, List.getElem?_eq_getElem hk⟩
    have ih := good_chain (s := s) (k := k) (by omega) fun j hj => h j (by omega)
    have hq := h k (Nat.lt_succ_self k)
    rw [spoolBad_of hx] at hq
    have hq2 : nextB s.last (ahead s.items k) x = true := by simpa using hq
    unfold nextB at hq2
    rw [Bool.and_eq_true, decide_eq_true_eq] at hq2
    exact ⟨list_all_succ hx ih.1 hq2.2, asc_next hx ih.2 hq2.1.1 hq2.1.2⟩
theorem spool_good {s : SpoolD} (h : ∀ j, j < s.items.length → spoolBad s j = false) : spoolB s = (decide (0 ≤ s.last ∧ s.last ≤ 999) && decide (s.items.length ≤ 10)) := by
  have := good_chain (Nat.le_refl _) h
  rw [List.take_length] at this
  exact spoolB_end this.1 (asc_end (Nat.le_refl _) this.2)
theorem spool_bad {s : SpoolD} {k : Nat} (hk : k < s.items.length) (hq : spoolBad s k = true) (h : ∀ j, j < k → spoolBad s j = false) : spoolB s = false := by
  obtain ⟨x, hx⟩ : ∃ x, s.items[k]? = some x := ⟨_, List.getElem?_eq_getElem hk⟩
  have hc := good_chain (Nat.le_of_lt hk) h
  rw [spoolBad_of hx] at hq
  have hq2 : nextB s.last (ahead s.items k) x = false := by simpa using hq
  unfold nextB at hq2
  rw [Bool.and_eq_false_iff, decide_eq_false_iff_not] at hq2
  rcases hq2 with h1 | h1
  · exact spoolB_asc (asc_miss hx hc.2 h1)
  · exact spoolB_item (List.mem_of_getElem? hx) h1

/-- The memory of the question: the number that was last, the spool. -/
abbrev askL (b1 b2 : Nat) (s : SpoolD) (ao : Option Addr) (cap : Nat) (p : Int) (l : List Res) : List Res := Res.cells b1 [.int .i64 p] :: Res.cells b2 (spoolL s ao cap) :: l

set_option maxHeartbeats 1600000 in
set_option maxRecDepth 100000 in
theorem okOne_any (b1 b2 : Nat) (s : SpoolD) (ao : Option Addr) (cap : Nat) (prev : Int) (l : List Res) (x : ItemD) (p : ItemV) (w0 w : World) (hm : HasMax w0) (hat : ItemAt w0 x p) (hz : itemN x ≤ 1048576) (h : St w0 w (askL b1 b2 s ao cap prev l)) :
    Calls Tryd.prog 112 #[.agg (itemV x p), .pointer (some ⟨b1, 0, none⟩), .pointer (some ⟨b2, 0, none⟩)] w fun e w' => e = .returned (.bool (nextB s.last prev x)) ∧ St w0 w' (askL b1 b2 s ao cap x.id l) := by
  have hl1 := h.head.lt
  have s0 := (h.alloc (itemV x p) 64)
  have K0 := s0.head
  have g0 := K0.c 0 _ rfl
  have P0 := s0.two.head
  have p0 := P0.c 0 _ rfl
  have f0 := P0.f 0 (by simp)
  have q0 := s0.three.head.c 0 _ rfl
  have s1 := (h.set 0 (.int .i64 x.id) (by simp)).alloc (itemV x p) 64
  simp only [World.size_setCell] at s1
  have S1 : Seal _ := ⟨s1⟩
  have hne : b1 ≠ w.heap.size := by omega
  have C : Seal _ := ⟨itemValid_any x p _ (hm.below s1.below (Nat.le_refl _)) (hat.below s1.below (Nat.le_refl _)) hz⟩
  obtain ⟨v2, h2⟩ : ∃ v, itemB x = v := ⟨_, rfl⟩
  rw [h2] at C
  have K1 := s1.head
  have k0 := K1.c 0 _ rfl
  have k1 := K1.c 1 _ rfl
  have k2 := K1.c 2 _ rfl
  have k3 := K1.c 3 _ rfl
  have k4 := K1.c 4 _ rfl
  by_cases ha : prev < x.id ∧ x.id ≤ s.last
  · have hq : Seal (nextB s.last prev x = v2) := ⟨by unfold nextB; rw [decide_eq_true ha, h2]; rfl⟩
    obtain ⟨ha1, ha2⟩ := ha
    clear h hat hm s0 s1 K0 P0 K1 h2 hz
    go_enter Tryd.func112, Tryd.ntmps112
    go_wp2_with fail
    refine C.out.mono ?_
    rintro e w1 ⟨rfl, hb1⟩
    have S2 : Seal _ := ⟨(S1.out.later hb1)⟩
    clear hb1 C S1
    go_wp2
    go_ret
    exact ⟨ret_b hq.out.symm, S2.out.tail⟩
  · have hq : Seal (nextB s.last prev x = false) := ⟨by unfold nextB; rw [decide_eq_false ha]; rfl⟩
    have S2 : Seal _ := ⟨s1.tail⟩
    clear h hat hm s0 s1 K0 P0 K1 h2 hz C S1
    by_cases ha1 : prev < x.id
    · have ha2 : s.last < x.id := by omega
      clear ha
      go_enter Tryd.func112, Tryd.ntmps112
      go_wp2
      go_ret
      exact ⟨ret_b hq.out.symm, S2.out⟩
    · clear ha
      go_enter Tryd.func112, Tryd.ntmps112
      go_wp2
      go_ret
      exact ⟨ret_b hq.out.symm, S2.out⟩

/-- The question as a value. -/
abbrev askF (b1 b2 : Nat) : Value := .func (.func 112) #[] #[.pointer (some ⟨b1, 0, none⟩), .pointer (some ⟨b2, 0, none⟩)]

set_option maxRecDepth 100000 in
theorem everyOneItem_any (b1 b2 b3 : Nat) (s : SpoolD) (ao : Option Addr) (cap : Nat) (prev : Int) (l : List Res) (x : ItemD) (p : ItemV) (w0 w : World) (hm : HasMax w0) (hat : ItemAt w0 x p) (hz : itemN x ≤ 1048576) (h : St w0 w (askL b1 b2 s ao cap prev (Res.cells b3 [askF b1 b2] :: l))) :
    Calls Tryd.prog 186 #[.agg (itemV x p), .pointer (some ⟨b3, 0, none⟩)] w fun e w' => e = .returned (.bool (!nextB s.last prev x)) ∧ St w0 w' (askL b1 b2 s ao cap x.id (Res.cells b3 [askF b1 b2] :: l)) := by
  have s0 := h.more (.cells (itemV x p) 64)
  have c1 := s0.three.head.c 0 _ rfl
  have C : Seal _ := ⟨okOne_any b1 b2 s ao cap prev _ x p w0 _ hm hat hz s0⟩
  obtain ⟨v, hv⟩ : ∃ v, nextB s.last prev x = v := ⟨_, rfl⟩
  rw [hv] at C ⊢
  clear h hat hm hz s0 hv
  go_enter Tryd.func186, Tryd.ntmps186
  go_wp2_with fail
  refine C.out.mono ?_
  rintro e w1 ⟨rfl, h1⟩
  have S1 : Seal _ := ⟨h1⟩
  clear h1 C
  go_wp2
  go_ret
  exact ⟨rfl, S1.out⟩

set_option maxHeartbeats 1600000 in
set_option maxRecDepth 100000 in
theorem everyItem_any (b1 b2 : Nat) (s : SpoolD) (ao : Option Addr) (cap : Nat) (l : List Res) (w0 w : World) (hm : HasMax w0) (hat : ItemRow w0 ao s.items) (hz : spoolN s ≤ 1048576) (h : St w0 w (askL b1 b2 s ao cap 0 l)) (hs1 : 0 ≤ s.last ∧ s.last ≤ 999) (hs2 : s.items.length ≤ 10) :
    Calls Tryd.prog 111 #[.slice ao s.items.length cap, askF b1 b2] w fun e w' => e = .returned (.bool (spoolB s)) ∧ Below w0.heap.size w0 w' := by
  have hz2 := (spoolN_parts hz).2
  have s1 : St w0 _ (askL b1 b2 s ao cap 0 (Res.cells w.heap.size [askF b1 b2] :: l)) := (h.alloc #[askF b1 b2] 145).perm ((List.Perm.swap _ _ _).trans ((List.Perm.swap _ _ _).cons _))
  have C : Seal _ := ⟨findItem_any 186 ⟨w.heap.size, 0, none⟩ ao cap s.items (spoolBad s) (fun k W => St w0 W (askL b1 b2 s ao cap (ahead s.items k) (Res.cells w.heap.size [askF b1 b2] :: l))) (fun k W => St w0 W (askL b1 b2 s ao cap (ahead s.items (k + 1)) (Res.cells w.heap.size [askF b1 b2] :: l))) _
    (enters_of Tryd.func186 (by kernel_rfl) rfl) (by omega) s1 (fun k W W' h hb => h.later hb) w0 hat (fun k W h => h.below)
    (fun k x p W hx ha hi => by
      refine (everyOneItem_any b1 b2 w.heap.size s ao cap (ahead s.items k) l x p w0 W hm ha (hz2 x (List.mem_of_getElem? hx)) hi).mono ?_
      rintro e w1 ⟨rfl, h1⟩
      rw [spoolBad_of hx]
      have h2 := h1
      rw [← ahead_succ hx] at h2
      exact ⟨rfl, fun _ => h2, fun _ => h2⟩)⟩
  have hq : Seal (∀ _ : (∀ j, j < s.items.length → spoolBad s j = false), spoolB s = true) := ⟨fun h => by rw [spool_good h, decide_eq_true hs1, decide_eq_true hs2]; rfl⟩
  clear hat hm hz h s1 hz2 hs1 hs2
  go_enter Tryd.func111, Tryd.ntmps111
  go_wp2_with fail
  refine C.out.mono ?_
  rintro e w1 ⟨r, rfl, hh⟩
  rcases hh with ⟨k, hk, rfl, h1, h2, h3⟩ | ⟨rfl, h2, h3⟩
  · have hm : Seal (spoolB s = false) := ⟨spool_bad hk h1 h2⟩
    have B1 : Seal _ := ⟨h3.below⟩
    clear h1 h2 h3 C
    go_wp2
    go_ret
    exact ⟨ret_b hm.out.symm, B1.out⟩
  · have hm : Seal (spoolB s = true) := ⟨hq.out h2⟩
    have B1 : Seal _ := ⟨h3.below⟩
    clear h2 h3 C
    go_wp2
    go_ret
    exact ⟨ret_b hm.out.symm, B1.out⟩

theorem items_any (s : SpoolD) (ao : Option Addr) (cap : Nat) (w : World) :
    Calls Tryd.prog 110 #[.agg (spoolV s ao cap)] w fun e w' => e = .returned (.slice ao s.items.length cap) ∧ Below w.heap.size w w' := by
  have S0 : Seal _ := ⟨(St.start w).alloc (spoolV s ao cap) 55⟩
  go_enter Tryd.func110, Tryd.ntmps110
  go_wp2
  go_ret
  exact ⟨rfl, S0.out.below⟩

set_option maxHeartbeats 1600000 in
set_option maxRecDepth 100000 in
theorem implSpoolOk_any (s : SpoolD) (ao : Option Addr) (cap : Nat) (w : World) (hm : HasMax w) (hat : ItemRow w ao s.items) (hz : spoolN s ≤ 1048576) :
    Calls Tryd.prog 36 #[.agg (spoolV s ao cap)] w fun e w' => e = .returned (.bool (spoolB s)) ∧ Below w.heap.size w w' := by
  obtain ⟨z1, _⟩ := spoolN_parts hz
  have s0 := (St.start w).alloc (spoolV s ao cap) 55
  have S0 : Seal _ := ⟨s0⟩
  have s1 := s0.alloc #[.int .i64 0] 3
  simp only [World.size_alloc] at s1
  have S1 : Seal _ := ⟨s1⟩
  by_cases h1 : 0 ≤ s.last ∧ s.last ≤ 999
  · obtain ⟨h1a, h1b⟩ := h1
    by_cases h2 : s.items.length ≤ 10
    · have h2' : (s.items.length : Int) ≤ 10 := by omega
      have CE : Seal (∀ W, St w W (askL (w.heap.size + 1) w.heap.size s ao cap 0 []) → Calls Tryd.prog 111 #[.slice ao s.items.length cap, askF (w.heap.size + 1) w.heap.size] W fun e w' => e = .returned (.bool (spoolB s)) ∧ Below w.heap.size w w') := ⟨fun W hW => everyItem_any _ _ s ao cap [] w W hm hat hz hW ⟨h1a, h1b⟩ h2⟩
      clear hm hat hz s0 s1
      have q0 := S1.out.two.head.c 0 _ rfl
      have q1 := S1.out.two.head.c 1 _ rfl
      go_enter Tryd.func36, Tryd.ntmps36
      go_wp2_with fail
      refine (items_any s ao cap _).mono ?_
      rintro e w1 ⟨rfl, hb1⟩
      have S2 : Seal _ := ⟨S1.out.later hb1⟩
      clear hb1 S1
      go_wp2_with fail
      refine (CE.out _ S2.out).mono ?_
      rintro e w2 ⟨rfl, hb2⟩
      have B2 : Seal _ := ⟨hb2⟩
      clear hb2 CE
      go_wp2
      go_ret
      exact ⟨rfl, B2.out⟩
    · have hq : Seal (spoolB s = false) := ⟨spoolB_many h2⟩
      have h2' : (10 : Int) < s.items.length := by omega
      clear hm hat hz s0 s1 h2
      go_enter Tryd.func36, Tryd.ntmps36
      go_wp2
      go_ret
      exact ⟨ret_b hq.out.symm, S0.out.below⟩
  · have hq : Seal (spoolB s = false) := ⟨spoolB_last h1⟩
    clear hm hat hz s0 s1
    by_cases h1a : 0 ≤ s.last
    · have h1b : 999 < s.last := by omega
      clear h1
      go_enter Tryd.func36, Tryd.ntmps36
      go_wp2
      go_ret
      exact ⟨ret_b hq.out.symm, S0.out.below⟩
    · clear h1
      go_enter Tryd.func36, Tryd.ntmps36
      go_wp2
      go_ret
      exact ⟨ret_b hq.out.symm, S0.out.below⟩
end Go.Proofs.YtgjkoegpdfcadaaDoor
