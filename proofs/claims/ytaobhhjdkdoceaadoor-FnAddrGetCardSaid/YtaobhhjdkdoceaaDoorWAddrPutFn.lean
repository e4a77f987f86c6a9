/- The walk of FnAddrPut. -/
import Derived.Test.YtaobhhjdkdoceaaDoorWDomain
import Derived.Test.YtaobhhjdkdoceaaDoorDrawAddr
import Derived.Test.YtaobhhjdkdoceaaDoorPlainRound
import Derived.Test.YtaobhhjdkdoceaaDoorAddrPut
import Derived.Test.YtaobhhjdkdoceaaDoorAddrGetI
import Derived.Deep.RegionHeld3
namespace Go.Proofs.YtaobhhjdkdoceaaDoor
open Go Go.RowKit

set_option maxHeartbeats 1000000 in
set_option maxRecDepth 100000 in
theorem drawAddrPut_any (ao : Option Addr) (len cap : Nat) (w : World) (hr : ByteRow w ao len) (hl : len ≤ cap) (hc : cap ≤ maxLen) :
    Calls Tryd.prog 35 #[.slice ao len cap] w fun e w' => ∃ u d, u.size ≤ 20 ∧ d.size ≤ 20 ∧ e = .returned (.agg #[.string u, .string d]) ∧ Below w.heap.size w w' := by
  have C := Lib.hid (fun W h1 => l20Open_any ao len cap W h1 hl hc)
  have HR := Lib.hid hr
  clear hr hl hc
  go_enter Tryd.func35, Tryd.ntmps35
  go_wp2_with fail
  refine (C.out _ (HR.out.below ((Below.refl _ _).alloc (Nat.le_refl _) _) (Nat.le_refl _))).mono ?_
  rintro e w1 ⟨b, rfl, h1, b1⟩
  have T1 := Lib.hid ((TwoAt.new w _ _ _).later b1)
  have B1 := Lib.hid (((Below.refl _ w).alloc (Nat.le_refl _) _).trans (b1.mono (by simp)))
  have H1 := Lib.hid h1
  have l1 : w.heap.size < b := by have := h1.lt.1; simp at this; omega
  clear h1 b1
  go_wp2_with fail
  refine (l20AnyAddr_any _ b _ _ H1.out (by omega)).mono ?_
  rintro e w2 ⟨u, d, zu, zd, rfl, h2, g2⟩
  have B2 := Lib.hid (B1.out.trans (H1.out.below g2 (by simp)))
  obtain ⟨r0, r1, r2, r3⟩ := T1.out.kept g2 (by omega)
  clear h2 g2
  go_wp2
  exact bodyPost_ret (v := .agg #[.string u, .string d]) (by simp [results, Tryd.results35, go_sem, r0, r1]) rfl ⟨u, d, zu, zd, rfl, (B2.out.setCell (p := ⟨w.heap.size, 0, none⟩) (Nat.le_refl _) _).setCell (p := ⟨w.heap.size, 1, none⟩) (Nat.le_refl _) _⟩

/-- What stands from call to call. -/
structure Steady (I : World → Prop) : Prop where
  max : ∀ W, I W → HasMax W
  next : ∀ W W', I W → Below W.heap.size W W' → I W'
def Now2 (w : World) (A : Nat) (u d : ByteArray) (W : World) : Prop := Now w W ∧ TwoAt W A (.string u) (.string d)
theorem Now2.steady (w : World) (A : Nat) (u d : ByteArray) : Steady (Now2 w A u d) := ⟨fun _ h => h.1.1, fun _ _ h hb => ⟨h.1.next hb, h.2.later hb⟩⟩
theorem Now.steady (w : World) : Steady (Now w) := ⟨fun _ h => h.1, fun _ _ h hb => h.next hb⟩
theorem Now2.drew {w W : World} {A : Nat} {u d : ByteArray} (h : Now2 w A u d W) : Now2 w A u d W.drew := (Now2.steady w A u d).next W _ h (Below.refl _ _).drew
theorem Now2.held {w W : World} {A : Nat} {u d : ByteArray} (h : Now2 w A u d W) : W.cell? ⟨A, 0, none⟩ = some (.string u) ∧ W.cell? ⟨A, 1, none⟩ = some (.string d) ∧ Now2 w A u d W := ⟨h.2.1, h.2.2.1, h⟩
theorem Now2.new {w W : World} {A : Nat} {u d : ByteArray} (h : Now2 w A u d W) (o : Obj) : Now2 w A u d (W.alloc o) := (Now2.steady w A u d).next W _ h ((Below.refl _ _).alloc (Nat.le_refl _) _)
theorem emptyB {x : ByteArray} (h : x.toList = []) : x = { data := #[] } := by
  rw [Lib.toList_data] at h; exact ba_ext h

theorem implPut_st {u d x : ByteArray} (e : putB u d = x) (zu : u.size ≤ 100) (zd : d.size ≤ 100) {I : World → Prop} (S : Steady I) : Hid (∀ W, I W →
    Calls Tryd.prog 22 #[.agg #[.string u, .string d]] W fun e W' => e = .returned (.string x) ∧ I W') := Lib.hid fun W h => by
  subst e
  refine (implAddrPut_any u d W (S.max W h) (by omega) (by omega)).mono ?_
  rintro e W' ⟨rfl, hb⟩
  exact ⟨rfl, S.next W W' h hb⟩
theorem specPut_st {u d x : ByteArray} (e : putB u d = x) (zu : u.size ≤ 100) (zd : d.size ≤ 100) {I : World → Prop} (S : Steady I) : Hid (∀ W, I W →
    Calls Tryd.prog 36 #[.agg #[.string u, .string d]] W fun e W' => e = .returned (.string x) ∧ I W') := Lib.hid fun W h => by
  subst e
  refine (specAddrPut_any u d W (by omega) (by omega)).mono ?_
  rintro e W' ⟨rfl, hb⟩
  exact ⟨rfl, S.next W W' h hb⟩
theorem implAOk_st {u d : ByteArray} {v : Bool} (e : addrB u d = v) (zu : u.size ≤ 100) (zd : d.size ≤ 100) {I : World → Prop} (S : Steady I) : Hid (∀ W, I W →
    Calls Tryd.prog 37 #[.agg #[.string u, .string d]] W fun e W' => e = .returned (.bool v) ∧ I W') := Lib.hid fun W h => by
  subst e
  refine (implAddrOk_any u d W (S.max W h) (by omega) (by omega)).mono ?_
  rintro e W' ⟨rfl, hb⟩
  exact ⟨rfl, S.next W W' h hb⟩
theorem specAOk_st {u d : ByteArray} {v : Bool} (e : addrB u d = v) (zu : u.size ≤ 100) (zd : d.size ≤ 100) {I : World → Prop} (S : Steady I) : Hid (∀ W, I W →
    Calls Tryd.prog 38 #[.agg #[.string u, .string d]] W fun e W' => e = .returned (.bool v) ∧ I W') := Lib.hid fun W h => by
  subst e
  refine (specAddrOk_any u d W (by omega) (by omega)).mono ?_
  rintro e W' ⟨rfl, hb⟩
  exact ⟨rfl, S.next W W' h hb⟩
theorem implGet_st {s u d : ByteArray} {ok : Bool} (e : getR s = (u, d, ok)) (zs : s.size ≤ 1000) {I : World → Prop} (S : Steady I) : Hid (∀ W, I W →
    Calls Tryd.prog 20 #[.string s] W fun e W' => e = .returned (.tuple #[.agg #[.string u, .string d], .bool ok]) ∧ I W') := Lib.hid fun W h => by
  refine (implAddrGet_any s W (S.max W h) (by omega)).mono ?_
  rintro e1 W' ⟨rfl, hb⟩
  rw [e]
  exact ⟨rfl, S.next W W' h hb⟩
theorem specGet_st {s u d : ByteArray} {ok : Bool} (e : getR s = (u, d, ok)) (zs : s.size ≤ 1000) {I : World → Prop} (S : Steady I) : Hid (∀ W, I W →
    Calls Tryd.prog 21 #[.string s] W fun e W' => e = .returned (.tuple #[.agg #[.string u, .string d], .bool ok]) ∧ I W') := Lib.hid fun W h => by
  refine (specAddrGet_any s W (by omega)).mono ?_
  rintro e1 W' ⟨rfl, hb⟩
  rw [e]
  exact ⟨rfl, S.next W W' h hb⟩

set_option maxHeartbeats 2500000 in
set_option maxRecDepth 100000 in
theorem wFnAddrPut.walk (ao : Option Addr) (len cap : Nat) (w : World) (hr : ByteRow w ao len) (hl : len ≤ cap) (hc : cap ≤ maxLen) (hm : HasMax w) :
    Calls Tryd.prog 6 #[.slice ao len cap] w fun e w' => e = .returned (.bool true) ∧ Below w.heap.size w w' := by
  have HM := Lib.hid hm
  have hc' := hc
  unfold maxLen at hc'
  clear hm
  by_cases hbig : 1048576 < len
  · clear hr
    go_enter Tryd.func6, Tryd.ntmps6
    go_wp2
    go_ret
    exact ⟨rfl, Below.refl _ _⟩
  have CD := Lib.hid (fun W h1 => drawAddrPut_any ao len cap W h1 hl hc)
  have HR := Lib.hid hr
  clear hr hc
  go_enter Tryd.func6, Tryd.ntmps6
  go_wp2_with fail
  refine (CD.out _ (by first | exact HR.out | exact HR.out.below ((Below.refl _ _).alloc (Nat.le_refl _) _) (Nat.le_refl _))).mono ?_
  rintro e w1 ⟨u, d, zu, zd, rfl, b1⟩
  have b2 : Below w.heap.size w (w1.alloc (.cells #[.string u, .string d] 25)) := b1.alloc b1.size _
  have N1 : Now2 w w1.heap.size u d (w1.alloc (.cells #[.string u, .string d] 25)) := ⟨⟨HM.out.below b2 (Nat.le_refl _), b2⟩, TwoAt.new _ _ _ _⟩
  obtain ⟨t0, t1, t2, t3⟩ := N1.2
  have hw1 := b1.size
  have S := Now2.steady w w1.heap.size u d
  clear CD HR b1 b2
  cases hn : nullB u d
  · cases ha : addrB u d
    · have iP := implPut_st (putB_no hn ha) (by omega) (by omega) S
      have sP := specPut_st (putB_no hn ha) (by omega) (by omega) S
      have iO := implAOk_st ha (by omega) (by omega) S
      have sO := specAOk_st ha (by omega) (by omega) S
      rcases nullB_false hn with hu | ⟨hu, hd⟩
      · clear hn ha
        go_wp2_with fail
        refine (iP.out _ (by assumption)).mono ?_
        rintro e wk0 ⟨rfl, Nk0⟩
        clear N1 t0 t1 t2 t3
        go_wp2_with fail
        go_region_held3 (fun W => W.cell? ⟨w1.heap.size, 0, none⟩ = some (.string u) ∧ W.cell? ⟨w1.heap.size, 1, none⟩ = some (.string d) ∧ Now2 w w1.heap.size u d W) (first | exact Now2.held (Now2.drew (by assumption)) | exact Now2.held (by assumption) | (go_split_ands; exact Now2.held (by assumption)) | (go_split_ands; exact Now2.held (Now2.drew (by assumption)))) (first | (go_split_ands; go_at_call 36; refine (sP.out _ (by assumption)).mono ?_; rintro e wk ⟨rfl, hk⟩) | (go_split_ands; go_at_call 37; refine (iO.out _ (by assumption)).mono ?_; rintro e wk ⟨rfl, hk⟩) | (go_split_ands; go_at_call 38; refine (sO.out _ (by assumption)).mono ?_; rintro e wk ⟨rfl, hk⟩))
        go_split_ands
        go_wp2_with fail
        go_region_held3 (fun W => W.cell? ⟨w1.heap.size, 0, none⟩ = some (.string u) ∧ W.cell? ⟨w1.heap.size, 1, none⟩ = some (.string d) ∧ Now2 w w1.heap.size u d W) (first | exact Now2.held (Now2.drew (by assumption)) | exact Now2.held (by assumption) | (go_split_ands; exact Now2.held (by assumption)) | (go_split_ands; exact Now2.held (Now2.drew (by assumption)))) (first | (go_split_ands; go_at_call 36; refine (sP.out _ (by assumption)).mono ?_; rintro e wk ⟨rfl, hk⟩) | (go_split_ands; go_at_call 37; refine (iO.out _ (by assumption)).mono ?_; rintro e wk ⟨rfl, hk⟩) | (go_split_ands; go_at_call 38; refine (sO.out _ (by assumption)).mono ?_; rintro e wk ⟨rfl, hk⟩))
        go_split_ands
        go_wp2
        go_ret
        exact ⟨rfl, And.right (And.left (by assumption : Now2 w w1.heap.size _ _ _))⟩
      · clear hn ha
        go_wp2_with fail
        refine (iP.out _ (by assumption)).mono ?_
        rintro e wk0 ⟨rfl, Nk0⟩
        clear N1 t0 t1 t2 t3
        go_wp2_with fail
        go_region_held3 (fun W => W.cell? ⟨w1.heap.size, 0, none⟩ = some (.string u) ∧ W.cell? ⟨w1.heap.size, 1, none⟩ = some (.string d) ∧ Now2 w w1.heap.size u d W) (first | exact Now2.held (Now2.drew (by assumption)) | exact Now2.held (by assumption) | (go_split_ands; exact Now2.held (by assumption)) | (go_split_ands; exact Now2.held (Now2.drew (by assumption)))) (first | (go_split_ands; go_at_call 36; refine (sP.out _ (by assumption)).mono ?_; rintro e wk ⟨rfl, hk⟩) | (go_split_ands; go_at_call 37; refine (iO.out _ (by assumption)).mono ?_; rintro e wk ⟨rfl, hk⟩) | (go_split_ands; go_at_call 38; refine (sO.out _ (by assumption)).mono ?_; rintro e wk ⟨rfl, hk⟩))
        go_split_ands
        go_wp2_with fail
        go_region_held3 (fun W => W.cell? ⟨w1.heap.size, 0, none⟩ = some (.string u) ∧ W.cell? ⟨w1.heap.size, 1, none⟩ = some (.string d) ∧ Now2 w w1.heap.size u d W) (first | exact Now2.held (Now2.drew (by assumption)) | exact Now2.held (by assumption) | (go_split_ands; exact Now2.held (by assumption)) | (go_split_ands; exact Now2.held (Now2.drew (by assumption)))) (first | (go_split_ands; go_at_call 36; refine (sP.out _ (by assumption)).mono ?_; rintro e wk ⟨rfl, hk⟩) | (go_split_ands; go_at_call 37; refine (iO.out _ (by assumption)).mono ?_; rintro e wk ⟨rfl, hk⟩) | (go_split_ands; go_at_call 38; refine (sO.out _ (by assumption)).mono ?_; rintro e wk ⟨rfl, hk⟩))
        go_split_ands
        go_wp2
        go_ret
        exact ⟨rfl, And.right (And.left (by assumption : Now2 w w1.heap.size _ _ _))⟩
    · obtain ⟨X, hX⟩ : ∃ X, X = wireB u d := ⟨_, rfl⟩
      have hz := wire_size u d
      have hr := getR_wire ha
      have hp := putB_addr ha
      rw [← hX] at hz hr hp
      have iP := implPut_st hp (by omega) (by omega) S
      have sP := specPut_st hp (by omega) (by omega) S
      have iG := implGet_st hr (by omega) S
      have iO := implAOk_st ha (by omega) (by omega) S
      have sO := specAOk_st ha (by omega) (by omega) S
      have hx1 : ¬ X.toList = [] := by rw [Lib.toList_data]; intro e; rw [Lib.size_eq, e] at hz; simp at hz
      have hx2 : X.toList.isEmpty = false := by simpa [List.isEmpty_iff] using hx1
      have hx3 : (!X.toList.isEmpty) = true := by rw [hx2]; rfl
      clear hn ha hX hz hr hp
      go_wp2_with fail
      refine (iP.out _ (by assumption)).mono ?_
      rintro e wk0 ⟨rfl, Nk0⟩
      clear N1 t0 t1 t2 t3
      go_wp2_with fail
      have Nd := Now2.drew Nk0
      obtain ⟨c0, c1, c2, c3⟩ := Nd.2
      first | (go_region_with (first | (go_at_call 36; refine (sP.out _ (by assumption)).mono ?_; rintro e wk ⟨rfl, hk⟩; obtain ⟨c0, c1, c2, c3⟩ := hk.2) | (go_at_call 37; refine (iO.out _ (by assumption)).mono ?_; rintro e wk ⟨rfl, hk⟩; obtain ⟨c0, c1, c2, c3⟩ := hk.2) | (go_at_call 38; refine (sO.out _ (by assumption)).mono ?_; rintro e wk ⟨rfl, hk⟩; obtain ⟨c0, c1, c2, c3⟩ := hk.2))) | fail
      all_goals
        clear Nd Nk0 iP sP iO sO hx1 hx3 zu zd
        simp only [Act.put, List.getElem_toArray, List.getElem_cons_succ, List.getElem_cons_zero, List.setIfInBounds_toArray, List.set_cons_zero, List.set_cons_succ]
        go_wp2_with fail
        refine (iG.out _ (by assumption)).mono ?_
        rintro e wk1 ⟨rfl, Nk1⟩
        have Nk2 := Now2.new Nk1 (.cells #[.string u, .string d] 25)
        obtain ⟨s0, s1, s2, s3⟩ := Nk2.2
        obtain ⟨x0, x1, x2, x3⟩ := TwoAt.new wk1 (.string u) (.string d) 25
        go_wp2_with fail
        go_ret
        exact ⟨rfl, Nk2.1.2⟩
  · obtain ⟨hu, hd⟩ := nullB_true hn
    obtain rfl := emptyB hu
    obtain rfl := emptyB hd
    have ha : addrB { data := #[] } { data := #[] } = false := by decide +kernel
    have iP := implPut_st (putB_null hn) (by omega) (by omega) S
    have sP := specPut_st (putB_null hn) (by omega) (by omega) S
    have iG := implGet_st (s := { data := #[60, 62] }) (getR_null (by rw [Lib.toList_data]; rfl)) (by decide) S
    have iO := implAOk_st ha (by omega) (by omega) S
    have sO := specAOk_st ha (by omega) (by omega) S
    clear hn ha hu hd
    go_wp2_with fail
    refine (iP.out _ (by assumption)).mono ?_
    rintro e wk0 ⟨rfl, Nk0⟩
    clear N1 t0 t1 t2 t3
    go_wp2_with fail
    go_region_held3 (fun W => W.cell? ⟨w1.heap.size, 0, none⟩ = some (.string { data := #[] }) ∧ W.cell? ⟨w1.heap.size, 1, none⟩ = some (.string { data := #[] }) ∧ Now2 w w1.heap.size { data := #[] } { data := #[] } W) (first | exact Now2.held (Now2.drew (by assumption)) | exact Now2.held (by assumption) | (go_split_ands; exact Now2.held (by assumption)) | (go_split_ands; exact Now2.held (Now2.drew (by assumption)))) (first | (go_split_ands; go_at_call 36; refine (sP.out _ (by assumption)).mono ?_; rintro e wk ⟨rfl, hk⟩) | (go_split_ands; go_at_call 37; refine (iO.out _ (by assumption)).mono ?_; rintro e wk ⟨rfl, hk⟩) | (go_split_ands; go_at_call 38; refine (sO.out _ (by assumption)).mono ?_; rintro e wk ⟨rfl, hk⟩))
    go_split_ands
    go_wp2_with fail
    refine (iG.out _ (by assumption)).mono ?_
    rintro e wk1 ⟨rfl, Nk1⟩
    obtain ⟨t0, t1, t2, t3⟩ := Nk1.2
    have Nk2 := Now2.new Nk1 (.cells #[.string { data := #[] }, .string { data := #[] }] 25)
    obtain ⟨s0, s1, s2, s3⟩ := Nk2.2
    obtain ⟨x0, x1, x2, x3⟩ := TwoAt.new wk1 (.string { data := #[] }) (.string { data := #[] }) 25
    go_wp2_with fail
    go_ret
    exact ⟨rfl, Nk2.1.2⟩
end Go.Proofs.YtaobhhjdkdoceaaDoor
