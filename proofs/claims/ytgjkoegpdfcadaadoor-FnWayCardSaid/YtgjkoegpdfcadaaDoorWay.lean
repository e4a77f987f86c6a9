/- Contracts: where a domain's mail goes, of the model and of the program. -/
import Derived.Test.YtgjkoegpdfcadaaDoorConfOkI
import Derived.Test.YtgjkoegpdfcadaaDoorAddrs
namespace Go.Proofs.YtgjkoegpdfcadaaDoor
open Go Go.RowKit

theorem hasB_iff {xs : List ByteArray} {x : ByteArray} : hasB xs x = true ↔ x ∈ xs := by
  unfold hasB
  rw [List.any_eq_true]
  constructor
  · rintro ⟨y, hy, h⟩
    rw [beq_iff_eq] at h
    rw [← ba_ext h]; exact hy
  · intro h
    exact ⟨x, h, by simp⟩

set_option maxHeartbeats 800000 in
set_option maxRecDepth 100000 in
theorem l3Own_any (c : ConfD) (a1 : Option Addr) (c1 : Nat) (a2 : Option Addr) (c2 : Nat) (u d : ByteArray) (w : World) (hat : ConfAt w c a1 a2) (hl : c.own.length ≤ 1048576) :
    Calls Tryd.prog 77 #[.agg (confV c a1 c1 a2 c2), .agg #[.string u, .string d]] w fun e w' => e = .returned (.bool (hasB c.own d)) ∧ Below w.heap.size w w' := by
  have b0 : Below w.heap.size w ((w.alloc (.cells (confV c a1 c1 a2 c2) 26)).alloc (.cells #[.string u, .string d] 37)) := ((Below.refl _ _).alloc (Nat.le_refl _) _).alloc (by simp) _
  have HO := Lib.hid hat.own
  clear hat
  go_enter Tryd.func77, Tryd.ntmps77
  go_wp2
  go_loopw [5] (fun i wr => ∃ k : Nat, k ≤ c.own.length ∧ i = .int .i64 k ∧ Hid (d ∉ c.own.take k) ∧ Below w.heap.size w wr ∧ wr.cell? ⟨w.heap.size, 1, none⟩ = some (.slice a1 c.own.length c1) ∧ wr.cell? ⟨w.heap.size + 1, 1, none⟩ = some (.string d)) (fun i _ => c.own.length - (intOf i).toNat)
  case atStart => exact ⟨0, Nat.zero_le _, rfl, Lib.hid (by simp), b0, by simp [go_sem], by simp [go_sem]⟩
  case round =>
    obtain ⟨k, hk, rfl, HN, hb, g1, g2⟩ := hrel
    by_cases hlt : k < c.own.length
    · obtain ⟨x, hx⟩ : ∃ x, c.own[k]? = some x := ⟨_, List.getElem?_eq_getElem hlt⟩
      obtain ⟨b, off, rfl, hc1⟩ := (HO.out.below hb (Nat.le_refl _)) k x hx
      have HX := Lib.hid hx
      clear hx b0
      by_cases hxd : x = d
      · subst hxd
        have hq : Hid (hasB c.own x = true) := Lib.hid (hasB_iff.2 (List.mem_of_getElem? HX.out))
        clear HN
        go_wp2_with fail
        go_quiet (fail)
        go_wp2
        go_ret
        exact ⟨ret_b hq.out.symm, drewN_below hb _⟩
      · have HN2 := Lib.hid (not_mem_take HX.out HN.out hxd)
        have hne : ¬ x.toList = d.toList := fun e => hxd (ba_ext e)
        have hne2 : (x.toList == d.toList) = false := by rw [beq_eq_false_iff_ne]; exact hne
        clear HN hxd
        go_wp2_with fail
        go_quiet (fail)
        go_wp2
        exact ⟨⟨k + 1, by omega, by go_num, HN2, drewN_below hb _, by simpa using g1, by simpa using g2⟩, by simp [intOf]; omega⟩
    · obtain rfl : k = c.own.length := by omega
      have hq : Hid (hasB c.own d = false) := Lib.hid (by
        rw [← Bool.not_eq_true, hasB_iff]
        have := HN.out
        rwa [List.take_length] at this)
      clear HN
      go_wp2
      go_ret
      exact ⟨ret_b hq.out.symm, hb⟩

theorem bestB_size {dom : ByteArray} {ps : List Pair} (hs : ∀ p ∈ ps, p.1.size ≤ 1048576 ∧ p.2.size ≤ 1048576) : (bestB dom ps).1.size ≤ 1048576 ∧ (bestB dom ps).2.size ≤ 1048576 := by
  unfold bestB
  suffices h : ∀ (ps : List Pair) (b : Pair), (∀ p ∈ ps, p.1.size ≤ 1048576 ∧ p.2.size ≤ 1048576) → (b.1.size ≤ 1048576 ∧ b.2.size ≤ 1048576) → (ps.foldl (betterB dom) b).1.size ≤ 1048576 ∧ (ps.foldl (betterB dom) b).2.size ≤ 1048576 from
    h ps _ hs ⟨Nat.zero_le _, Nat.zero_le _⟩
  intro ps
  induction ps with
  | nil => intro b _ hb; exact hb
  | cons p ps ih =>
    intro b hp hb
    rw [List.foldl_cons]
    refine ih _ (fun q hq => hp q (List.mem_cons_of_mem _ hq)) ?_
    unfold betterB
    split
    · exact hp p (List.mem_cons_self ..)
    · exact hb
theorem bestB_take {dom : ByteArray} {ps : List Pair} (hs : ∀ p ∈ ps, p.1.size ≤ 1048576 ∧ p.2.size ≤ 1048576) (k : Nat) : (bestB dom (ps.take k)).1.size ≤ 1048576 ∧ (bestB dom (ps.take k)).2.size ≤ 1048576 :=
  bestB_size fun p hp => hs p (List.mem_of_mem_take hp)

set_option maxHeartbeats 800000 in
set_option maxRecDepth 100000 in
theorem l3Way_any (c : ConfD) (a1 : Option Addr) (c1 : Nat) (a2 : Option Addr) (c2 : Nat) (d : ByteArray) (w : World) (hat : ConfAt w c a1 a2) (hsz : ConfSz 1048576 c) (hd : d.size ≤ 1048576) :
    Calls Tryd.prog 78 #[.agg (confV c a1 c1 a2 c2), .string d] w fun e w' => e = .returned (.string (bestB d c.ways).2) ∧ Below w.heap.size w w' := by
  have b0 : Below w.heap.size w (w.alloc (.cells (confV c a1 c1 a2 c2) 26)) := (Below.refl _ _).alloc (Nat.le_refl _) _
  have HW := Lib.hid hat.ways
  have HS := Lib.hid hsz.was
  have z2 := hsz.wal
  clear hat hsz
  go_enter Tryd.func78, Tryd.ntmps78
  go_wp2
  go_loopw [5, 6, 7] (fun be tt i wr => ∃ (k : Nat) (e f : ByteArray), k ≤ c.ways.length ∧ i = .int .i64 k ∧ be = .string e ∧ tt = .string f ∧ e.size ≤ 1048576 ∧ Hid ((e, f) = bestB d (c.ways.take k)) ∧ Below w.heap.size w wr ∧ wr.cell? ⟨w.heap.size, 2, none⟩ = some (.slice a2 c.ways.length c2)) (fun _ _ i _ => c.ways.length - (intOf i).toNat)
  case atStart => exact ⟨0, ByteArray.empty, ByteArray.empty, Nat.zero_le _, rfl, rfl, rfl, Nat.zero_le _, Lib.hid rfl, b0, by simp [go_sem]⟩
  case round =>
    obtain ⟨k, e, f, hk, rfl, rfl, rfl, he, HB, hb, g2⟩ := hrel
    have hz := hb.size
    by_cases hlt : k < c.ways.length
    · obtain ⟨p, hp⟩ : ∃ p, c.ways[k]? = some p := ⟨_, List.getElem?_eq_getElem hlt⟩
      obtain ⟨b, off, rfl, hc1, hc2⟩ := (HW.out.below hb (Nat.le_refl _)) k p hp
      obtain ⟨s1, s2⟩ := HS.out p (List.mem_of_getElem? hp)
      have HP := Lib.hid hp
      have HSN : Hid (bestB d (c.ways.take (k + 1)) = betterB d (e, f) p) := Lib.hid (by rw [bestB_snoc hp, HB.out])
      clear hp b0
      have bw : Below w.heap.size w (World.alloc _ (.cells #[.string p.1, .string p.2] 34)) := hb.alloc hz (.cells #[.string p.1, .string p.2] 34)
      have hn : w.heap.size < wr.heap.size := World.block_lt_of_cell? wr _ g2
      cases hend : endB d p.1
      · have HR : Hid ((e, f) = bestB d (c.ways.take (k + 1))) := Lib.hid (by rw [HSN.out, betterB_no (.inl hend)])
        have HE := Lib.hid hend
        clear hend HB
        go_wp2_with fail
        refine (l1Ends_any d p.1 _ (by omega) (by omega)).mono ?_
        rintro e' w2 ⟨rfl, rfl⟩
        rw [HE.out]
        go_wp2
        go_roundw
        case rel => exact ⟨k + 1, e, f, by omega, by go_num, rfl, rfl, he, HR, bw, (World.cell?_alloc_past _ _ _ hn).trans g2⟩
        case measure => simp [intOf]; omega
      · have HE := Lib.hid hend
        by_cases hlen : e.size < p.1.size
        · have HR : Hid (p = bestB d (c.ways.take (k + 1))) := Lib.hid (by rw [HSN.out, betterB_yes hend hlen])
          clear hend HB
          go_wp2_with fail
          refine (l1Ends_any d p.1 _ (by omega) (by omega)).mono ?_
          rintro e' w2 ⟨rfl, rfl⟩
          rw [HE.out]
          go_wp2
          go_roundw
          case rel => exact ⟨k + 1, p.1, p.2, by omega, by go_num, rfl, rfl, s1, Lib.hid HR.out, bw, (World.cell?_alloc_past _ _ _ hn).trans g2⟩
          case measure => simp [intOf]; omega
        · have HR : Hid ((e, f) = bestB d (c.ways.take (k + 1))) := Lib.hid (by rw [HSN.out, betterB_no (.inr (by simp; omega))])
          clear hend HB
          go_wp2_with fail
          refine (l1Ends_any d p.1 _ (by omega) (by omega)).mono ?_
          rintro e' w2 ⟨rfl, rfl⟩
          rw [HE.out]
          go_wp2
          go_roundw
          case rel => exact ⟨k + 1, e, f, by omega, by go_num, rfl, rfl, he, HR, bw, (World.cell?_alloc_past _ _ _ hn).trans g2⟩
          case measure => simp [intOf]; omega
    · obtain rfl : k = c.ways.length := by omega
      have hq : Hid (f = (bestB d c.ways).2) := Lib.hid (by have := HB.out; rw [List.take_length] at this; rw [← this])
      go_wp2
      go_ret
      exact ⟨ret_s hq.out, hb⟩
end Go.Proofs.YtgjkoegpdfcadaaDoor
