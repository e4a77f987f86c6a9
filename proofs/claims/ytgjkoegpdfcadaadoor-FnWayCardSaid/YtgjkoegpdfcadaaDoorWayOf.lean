/- Contracts: WayOf and ConfTakes, of the model and of the program. -/
import Derived.Test.YtgjkoegpdfcadaaDoorWay
import Derived.Test.YtgjkoegpdfcadaaDoorConfFns
namespace Go.Proofs.YtgjkoegpdfcadaaDoor
open Go Go.RowKit

theorem wayB_no {c : ConfD} {d : ByteArray} (h : confB c = false ∨ domB d = false ∨ hasB c.own d = true) : wayB c d = { data := #[] } := by
  unfold wayB
  rcases h with h | h | h
  · rw [h]; rfl
  · rw [h, Bool.and_false]; rfl
  · rw [h]; simp; rfl
theorem wayB_yes {c : ConfD} {d : ByteArray} (h1 : confB c = true) (h2 : domB d = true) (h3 : hasB c.own d = false) : wayB c d = (bestB d c.ways).2 := by
  unfold wayB; rw [h1, h2, h3]; rfl

set_option maxHeartbeats 800000 in
set_option maxRecDepth 100000 in
theorem specWayOf_any (c : ConfD) (a1 : Option Addr) (c1 : Nat) (a2 : Option Addr) (c2 : Nat) (d : ByteArray) (w : World) (hat : ConfAt w c a1 a2) (hsz : ConfSz 1048576 c) (hd : d.size ≤ 1048576) :
    Calls Tryd.prog 17 #[.agg (confV c a1 c1 a2 c2), .string d] w fun e w' => e = .returned (.string (wayB c d)) ∧ Below w.heap.size w w' := by
  have b0 : Below w.heap.size w (w.alloc (.cells (confV c a1 c1 a2 c2) 26)) := (Below.refl _ _).alloc (Nat.le_refl _) _
  have HA := Lib.hid hat
  have HS := Lib.hid hsz
  have HF := Lib.hid (ThreeAt.new w (.string c.name) (.slice a1 c.own.length c1) (.slice a2 c.ways.length c2) 26)
  have z1 := hsz.owl
  clear hat hsz
  cases hc : confB c
  · have hq := Lib.hid (wayB_no (d := d) (.inl hc))
    have HC := Lib.hid hc
    clear hc
    go_enter Tryd.func17, Tryd.ntmps17
    go_wp2_with fail
    refine (l3ConfOk_any c a1 c1 a2 c2 _ (HA.out.below b0 (Nat.le_refl _)) HS.out).mono ?_
    rintro e w1 ⟨rfl, hb1⟩
    rw [HC.out]
    have B1 := b0.trans (hb1.mono b0.size)
    go_wp2
    go_ret
    exact ⟨ret_s hq.out.symm, B1⟩
  have HC := Lib.hid hc
  cases hdm : domB d
  · have hq := Lib.hid (wayB_no (c := c) (.inr (.inl hdm)))
    have HD := Lib.hid hdm
    clear hc hdm
    go_enter Tryd.func17, Tryd.ntmps17
    go_wp2_with fail
    refine (l3ConfOk_any c a1 c1 a2 c2 _ (HA.out.below b0 (Nat.le_refl _)) HS.out).mono ?_
    rintro e w1 ⟨rfl, hb1⟩
    rw [HC.out]
    have B1 := b0.trans (hb1.mono b0.size)
    go_wp2_with fail
    refine (l1Domain_any d _ (by omega)).mono ?_
    rintro e w2 ⟨rfl, hb2⟩
    rw [HD.out]
    have B2 := B1.trans (hb2.mono B1.size)
    go_wp2
    go_ret
    exact ⟨ret_s hq.out.symm, B2⟩
  have HD := Lib.hid hdm
  cases hh : hasB c.own d
  · have hq := Lib.hid (wayB_yes hc hdm hh)
    have HH := Lib.hid hh
    clear hc hdm hh
    go_enter Tryd.func17, Tryd.ntmps17
    go_wp2_with fail
    refine (l3ConfOk_any c a1 c1 a2 c2 _ (HA.out.below b0 (Nat.le_refl _)) HS.out).mono ?_
    rintro e w1 ⟨rfl, hb1⟩
    rw [HC.out]
    have B1 := b0.trans (hb1.mono b0.size)
    have F1 := Lib.hid (HF.out.later hb1)
    go_wp2_with fail
    refine (l1Domain_any d _ (by omega)).mono ?_
    rintro e w2 ⟨rfl, hb2⟩
    rw [HD.out]
    have B2 := B1.trans (hb2.mono B1.size)
    have F2 := Lib.hid (F1.out.later hb2)
    clear hb1 hb2
    obtain ⟨g0, g1, g2⟩ := F2.out.cells
    go_wp2_with fail
    refine (l3Own_any c a1 c1 a2 c2 _ d _ (HA.out.below B2 (Nat.le_refl _)) z1).mono ?_
    rintro e w3 ⟨rfl, hb3⟩
    rw [HH.out]
    have B3 := B2.trans (hb3.mono B2.size)
    have F3 := Lib.hid (F2.out.later hb3)
    clear hb3 g0 g1 g2
    obtain ⟨g0, g1, g2⟩ := F3.out.cells
    go_wp2_with fail
    refine (l3Way_any c a1 c1 a2 c2 d _ (HA.out.below B3 (Nat.le_refl _)) HS.out hd).mono ?_
    rintro e w4 ⟨rfl, hb4⟩
    have B4 := B3.trans (hb4.mono B3.size)
    go_wp2
    go_ret
    exact ⟨ret_s hq.out.symm, B4⟩
  · have hq := Lib.hid (wayB_no (c := c) (d := d) (.inr (.inr hh)))
    have HH := Lib.hid hh
    clear hc hdm hh
    go_enter Tryd.func17, Tryd.ntmps17
    go_wp2_with fail
    refine (l3ConfOk_any c a1 c1 a2 c2 _ (HA.out.below b0 (Nat.le_refl _)) HS.out).mono ?_
    rintro e w1 ⟨rfl, hb1⟩
    rw [HC.out]
    have B1 := b0.trans (hb1.mono b0.size)
    have F1 := Lib.hid (HF.out.later hb1)
    go_wp2_with fail
    refine (l1Domain_any d _ (by omega)).mono ?_
    rintro e w2 ⟨rfl, hb2⟩
    rw [HD.out]
    have B2 := B1.trans (hb2.mono B1.size)
    have F2 := Lib.hid (F1.out.later hb2)
    clear hb1 hb2
    obtain ⟨g0, g1, g2⟩ := F2.out.cells
    go_wp2_with fail
    refine (l3Own_any c a1 c1 a2 c2 _ d _ (HA.out.below B2 (Nat.le_refl _)) z1).mono ?_
    rintro e w3 ⟨rfl, hb3⟩
    rw [HH.out]
    have B3 := B2.trans (hb3.mono B2.size)
    go_wp2
    go_ret
    exact ⟨ret_s hq.out.symm, B3⟩

def StrIndexPost (xs : List ByteArray) (x : ByteArray) (w : World) (e : Ending) (w' : World) : Prop := ∃ n : Int, e = .returned (.int .i64 n) ∧ ((0 ≤ n ∧ x ∈ xs) ∨ (n = -1 ∧ x ∉ xs)) ∧ w = w'
set_option maxHeartbeats 800000 in
set_option maxRecDepth 100000 in
theorem indexS_any (ao : Option Addr) (cap : Nat) (xs : List ByteArray) (x : ByteArray) (w : World) (hr : StrRow w ao xs) (hl : xs.length ≤ 1048576) :
    Calls Tryd.prog 223 #[.slice ao xs.length cap, .string x] w (StrIndexPost xs x w) := by
  have HR := Lib.hid hr
  clear hr
  go_enter Tryd.func223, Tryd.ntmps223
  go_wp2
  go_loop [8] (fun i => ∃ k : Nat, k ≤ xs.length ∧ i = .int .i64 k ∧ Hid (x ∉ xs.take k)) (fun i => xs.length - (intOf i).toNat)
  case atStart => exact ⟨0, Nat.zero_le _, rfl, Lib.hid (by simp)⟩
  case round =>
    obtain ⟨k, hk, rfl, HN⟩ := hrel
    by_cases hlt : k < xs.length
    · obtain ⟨y, hy⟩ : ∃ y, xs[k]? = some y := ⟨_, List.getElem?_eq_getElem hlt⟩
      obtain ⟨b, off, rfl, hc⟩ := HR.out k y hy
      have HY := Lib.hid hy
      clear hy
      by_cases hxy : x = y
      · subst hxy
        have hmem := Lib.hid (List.mem_of_getElem? HY.out)
        clear HN
        go_wp2
        go_ret
        exact ⟨_, rfl, .inl ⟨by omega, hmem.out⟩, rfl⟩
      · have HN2 := Lib.hid (not_mem_take HY.out HN.out (Ne.symm hxy))
        have hne : (x.toList == y.toList) = false := by rw [beq_eq_false_iff_ne]; exact fun e => hxy (ba_ext e)
        clear HN hxy
        go_wp2
        go_round
        case rel => exact ⟨k + 1, by omega, by go_num, HN2⟩
        case measure => simp [intOf]; omega
    · obtain rfl : k = xs.length := by omega
      have HM := Lib.hid (show x ∉ xs by have := HN.out; rwa [List.take_length] at this)
      clear HN
      go_wp2
      go_ret
      exact ⟨-1, rfl, .inr ⟨rfl, HM.out⟩, rfl⟩

theorem containsS_any (ao : Option Addr) (cap : Nat) (xs : List ByteArray) (x : ByteArray) (w : World) (hr : StrRow w ao xs) (hl : xs.length ≤ 1048576) :
    Calls Tryd.prog 154 #[.slice ao xs.length cap, .string x] w fun e w' => e = .returned (.bool (hasB xs x)) ∧ w = w' := by
  have HR := Lib.hid hr
  clear hr
  go_enter Tryd.func154, Tryd.ntmps154
  go_wp2_with fail
  refine (indexS_any ao cap xs x _ HR.out hl).mono ?_
  rintro e w1 ⟨n, rfl, hn, rfl⟩
  rcases hn with ⟨h0, hm⟩ | ⟨rfl, hm⟩
  · have hv : Hid (hasB xs x = true) := Lib.hid (hasB_iff.2 hm)
    clear hm
    go_wp2
    go_ret
    exact ⟨ret_b hv.out.symm, rfl⟩
  · have hv : Hid (hasB xs x = false) := Lib.hid (by rw [← Bool.not_eq_true, hasB_iff]; exact hm)
    clear hm
    go_wp2
    go_ret
    exact ⟨ret_b hv.out.symm, rfl⟩

set_option maxRecDepth 100000 in
theorem isLocal_any (c : ConfD) (a1 : Option Addr) (c1 : Nat) (a2 : Option Addr) (c2 : Nat) (d : ByteArray) (w : World) (hat : ConfAt w c a1 a2) (hl : c.own.length ≤ 1048576) :
    Calls Tryd.prog 74 #[.agg (confV c a1 c1 a2 c2), .string d] w fun e w' => e = .returned (.bool (hasB c.own d)) ∧ Below w.heap.size w w' := by
  have b0 : Below w.heap.size w (w.alloc (.cells (confV c a1 c1 a2 c2) 26)) := (Below.refl _ _).alloc (Nat.le_refl _) _
  have HA := Lib.hid (hat.own.below b0 (Nat.le_refl _))
  clear hat
  go_enter Tryd.func74, Tryd.ntmps74
  go_wp2_with fail
  refine (containsS_any a1 c1 c.own d _ HA.out hl).mono ?_
  rintro e w1 ⟨rfl, rfl⟩
  go_wp2
  go_ret
  exact ⟨rfl, b0⟩

/-- The best way so far, as the program looks for it. -/
theorem wayStep {d : ByteArray} {b p : Pair} (h2 : domB d = true) (hp : domB p.1 = true) : betterB d b p = if inDomB d p.1 && decide (b.1.size < p.1.size) then p else b := by
  unfold betterB inDomB; rw [h2, hp]; rfl
/-- Where the domain is none, no way is better. -/
def bestI (d : ByteArray) (ps : List Pair) : Pair := if domB d then bestB d ps else (ByteArray.empty, ByteArray.empty)
theorem bestI_snoc {d : ByteArray} {ps : List Pair} {k : Nat} {p : Pair} (hp : ps[k]? = some p) (hd : domB p.1 = true) : bestI d (ps.take (k + 1)) = if decide ((bestI d (ps.take k)).1.size < p.1.size) && inDomB d p.1 then p else bestI d (ps.take k) := by
  unfold bestI
  cases h : domB d
  · simp [inDomB, h]
  · simp only [if_true]
    rw [bestB_snoc hp]
    unfold betterB inDomB
    rw [h, hd, Bool.and_comm]; rfl
theorem bestI_size {d : ByteArray} {ps : List Pair} (hs : ∀ p ∈ ps, p.1.size ≤ 1048576 ∧ p.2.size ≤ 1048576) (k : Nat) : (bestI d (ps.take k)).1.size ≤ 1048576 := by
  unfold bestI
  split
  · exact (bestB_take hs k).1
  · exact Nat.zero_le _
theorem wayB_impl {c : ConfD} {d : ByteArray} (h1 : confB c = true) (h3 : hasB c.own d = false) : wayB c d = (bestI d c.ways).2 := by
  unfold wayB bestI
  rw [h1, h3]
  cases h : domB d <;> rfl

theorem frozen_past {w : World} {n i : Nat} (o : Obj) (hn : n < w.heap.size) : (w.alloc o).frozen? ⟨n, i, none⟩ = w.frozen? ⟨n, i, none⟩ :=
  ((Below.refl w.heap.size w).alloc (Nat.le_refl _) o).frozen (p := ⟨n, i, none⟩) hn
set_option maxHeartbeats 1600000 in
set_option maxRecDepth 100000 in
theorem implWayOf_any (c : ConfD) (a1 : Option Addr) (c1 : Nat) (a2 : Option Addr) (c2 : Nat) (d : ByteArray) (w : World) (hm : HasMax w) (hat : ConfAt w c a1 a2) (hsz : ConfSz 1048576 c) (hd : d.size ≤ 1048576) :
    Calls Tryd.prog 16 #[.agg (confV c a1 c1 a2 c2), .string d] w fun e w' => e = .returned (.string (wayB c d)) ∧ Below w.heap.size w w' := by
  have b0 : Below w.heap.size w (w.alloc (.cells (confV c a1 c1 a2 c2) 26)) := (Below.refl _ _).alloc (Nat.le_refl _) _
  have HM := Lib.hid hm
  have HM0 := Lib.hid (hm.below b0 (Nat.le_refl _))
  have HA := Lib.hid hat
  have HS := Lib.hid hsz
  have HF := Lib.hid (ThreeAt.new w (.string c.name) (.slice a1 c.own.length c1) (.slice a2 c.ways.length c2) 26)
  have z1 := hsz.owl
  have z2 := hsz.wal
  clear hat hsz hm
  cases hc : confB c
  · have hq := Lib.hid (wayB_no (d := d) (.inl hc))
    have HC := Lib.hid hc
    clear hc
    go_enter Tryd.func16, Tryd.ntmps16
    go_wp2_with fail
    refine (implConfOk_any c a1 c1 a2 c2 _ HM0.out (HA.out.below b0 (Nat.le_refl _)) HS.out).mono ?_
    rintro e w1 ⟨rfl, hb1⟩
    rw [HC.out]
    have B1 := b0.trans (hb1.mono b0.size)
    go_wp2
    go_ret
    exact ⟨ret_s hq.out.symm, B1⟩
  have HC := Lib.hid hc
  cases hh : hasB c.own d
  · have hq := Lib.hid (wayB_impl hc hh)
    have HH := Lib.hid hh
    have HWD := Lib.hid (fun p hp => ((confB_true hc).2.2.2.1 p hp).1)
    clear hc hh
    go_enter Tryd.func16, Tryd.ntmps16
    go_wp2_with fail
    refine (implConfOk_any c a1 c1 a2 c2 _ HM0.out (HA.out.below b0 (Nat.le_refl _)) HS.out).mono ?_
    rintro e w1 ⟨rfl, hb1⟩
    rw [HC.out]
    have B1 := b0.trans (hb1.mono b0.size)
    have F1 := Lib.hid (HF.out.later hb1)
    clear hb1
    obtain ⟨g0, g1, g2⟩ := F1.out.cells
    go_wp2_with fail
    refine (isLocal_any c a1 c1 a2 c2 d _ (HA.out.below B1 (Nat.le_refl _)) z1).mono ?_
    rintro e w2 ⟨rfl, hb2⟩
    rw [HH.out]
    have B2 := B1.trans (hb2.mono B1.size)
    have F2 := F1.out.later hb2
    have hlt2 := World.block_lt_of_cell? w2 _ F2.c0
    clear hb2 g0 g1 g2
    obtain ⟨g0, g1, g2⟩ := F2.cells
    have b2 : Below w.heap.size w (w2.alloc (.cells #[.string ByteArray.empty, .string ByteArray.empty] 34)) := B2.alloc B2.size _
    go_wp2
    go_loopw [19] (fun i wr => ∃ (k : Nat) (e f : ByteArray), k ≤ c.ways.length ∧ i = .int .i64 k ∧ e.size ≤ 1048576 ∧ Hid ((e, f) = bestI d (c.ways.take k)) ∧ Below w.heap.size w wr ∧ (wr.cell? ⟨w2.heap.size, 0, none⟩ = some (.string e) ∧ wr.cell? ⟨w2.heap.size, 1, none⟩ = some (.string f) ∧ wr.frozen? ⟨w2.heap.size, 0, none⟩ = false ∧ wr.frozen? ⟨w2.heap.size, 1, none⟩ = false)) (fun i _ => c.ways.length - (intOf i).toNat)
    case atStart => exact ⟨0, ByteArray.empty, ByteArray.empty, Nat.zero_le _, rfl, Nat.zero_le _, Lib.hid (by unfold bestI; split <;> rfl), b2, World.cell?_alloc_at _ _ _ 0 rfl, World.cell?_alloc_at _ _ _ 1 rfl, by simp [go_sem], by simp [go_sem]⟩
    case round =>
      clear g0 g1 g2 b2
      obtain ⟨k, e, f, hk, rfl, he, HB, hb, k0, k1, q0, q1⟩ := hrel
      have hz := hb.size
      have hn : w2.heap.size < wr.heap.size := World.block_lt_of_cell? wr _ k0
      have s2 := B2.size
      by_cases hlt : k < c.ways.length
      · obtain ⟨p, hp⟩ : ∃ p, c.ways[k]? = some p := ⟨_, List.getElem?_eq_getElem hlt⟩
        obtain ⟨b, off, rfl, hc1, hc2⟩ := (HA.out.ways.below hb (Nat.le_refl _)) k p hp
        obtain ⟨s1, s2'⟩ := HS.out.was p (List.mem_of_getElem? hp)
        have HSN : Hid (bestI d (c.ways.take (k + 1)) = if decide (e.size < p.1.size) && inDomB d p.1 then p else (e, f)) := Lib.hid (by rw [bestI_snoc hp (HWD.out p (List.mem_of_getElem? hp)), ← HB.out])
        clear hp
        have bw : Below w.heap.size w (wr.alloc (.cells #[.string p.1, .string p.2] 34)) := hb.alloc hz _
        by_cases hlen : e.size < p.1.size
        · have HMw := Lib.hid (HM.out.below bw (Nat.le_refl _))
          have hne : wr.heap.size ≠ w2.heap.size := by omega
          have hne2 : w2.heap.size ≠ wr.heap.size := by omega
          cases hin : inDomB d p.1
          · have HR : Hid ((e, f) = bestI d (c.ways.take (k + 1))) := Lib.hid (by rw [HSN.out, hin, Bool.and_false]; rfl)
            have HI := Lib.hid hin
            clear hin HB
            go_wp2_with fail
            refine (implDomainIn_any d p.1 _ HMw.out (by omega) (by omega)).mono ?_
            rintro e' w3 ⟨rfl, hb3⟩
            rw [HI.out]
            have B3 := bw.trans (hb3.mono bw.size)
            have l0 := (hb3.cell (p := ⟨w2.heap.size, 0, none⟩) (by simp; omega)).trans ((World.cell?_alloc_past _ _ _ hn).trans k0)
            have l1 := (hb3.cell (p := ⟨w2.heap.size, 1, none⟩) (by simp; omega)).trans ((World.cell?_alloc_past _ _ _ hn).trans k1)
            have m0 := (hb3.frozen (p := ⟨w2.heap.size, 0, none⟩) (by simp; omega)).trans ((frozen_past _ hn).trans q0)
            have m1 := (hb3.frozen (p := ⟨w2.heap.size, 1, none⟩) (by simp; omega)).trans ((frozen_past _ hn).trans q1)
            clear hb3 k0 k1 q0 q1
            go_wp2
            go_roundw
            case rel => exact ⟨k + 1, e, f, by omega, by go_num, he, HR, B3, l0, l1, m0, m1⟩
            case measure => simp [intOf]; omega
          · have HR : Hid (p = bestI d (c.ways.take (k + 1))) := Lib.hid (by rw [HSN.out, hin, decide_eq_true hlen]; rfl)
            have HI := Lib.hid hin
            clear hin HB
            go_wp2_with fail
            refine (implDomainIn_any d p.1 _ HMw.out (by omega) (by omega)).mono ?_
            rintro e' w3 ⟨rfl, hb3⟩
            rw [HI.out]
            have B3 := bw.trans (hb3.mono bw.size)
            have n0 := (hb3.cell (p := ⟨wr.heap.size, 0, none⟩) (by simp)).trans (World.cell?_alloc_at _ _ _ 0 rfl)
            have n1 := (hb3.cell (p := ⟨wr.heap.size, 1, none⟩) (by simp)).trans (World.cell?_alloc_at _ _ _ 1 rfl)
            have l0 := (hb3.cell (p := ⟨w2.heap.size, 0, none⟩) (by simp; omega)).trans ((World.cell?_alloc_past _ _ _ hn).trans k0)
            have l1 := (hb3.cell (p := ⟨w2.heap.size, 1, none⟩) (by simp; omega)).trans ((World.cell?_alloc_past _ _ _ hn).trans k1)
            have m0 := (hb3.frozen (p := ⟨w2.heap.size, 0, none⟩) (by simp; omega)).trans ((frozen_past _ hn).trans q0)
            have m1 := (hb3.frozen (p := ⟨w2.heap.size, 1, none⟩) (by simp; omega)).trans ((frozen_past _ hn).trans q1)
            have B4 := (B3.setCell (p := ⟨w2.heap.size, 0, none⟩) s2 (.string p.1)).setCell (p := ⟨w2.heap.size, 1, none⟩) s2 (.string p.2)
            clear hb3 k0 k1 q0 q1 B3
            go_wp2
            go_roundw
            case rel => exact ⟨k + 1, p.1, p.2, by omega, by go_num, s1, Lib.hid HR.out, B4, (World.cell?_setCell_other _ _ _ _ (by simp)).trans (World.cell?_setCell_same _ _ _ l0), World.cell?_setCell_same _ _ _ ((World.cell?_setCell_other _ _ _ _ (by simp)).trans l1), by simpa using m0, by simpa using m1⟩
            case measure => simp [intOf]; omega
        · have HR : Hid ((e, f) = bestI d (c.ways.take (k + 1))) := Lib.hid (by rw [HSN.out, decide_eq_false hlen]; rfl)
          clear HB
          go_wp2
          go_roundw
          case rel => exact ⟨k + 1, e, f, by omega, by go_num, he, HR, bw, (World.cell?_alloc_past _ _ _ hn).trans k0, (World.cell?_alloc_past _ _ _ hn).trans k1, (frozen_past _ hn).trans q0, (frozen_past _ hn).trans q1⟩
          case measure => simp [intOf]; omega
      · obtain rfl : k = c.ways.length := by omega
        have hq2 : Hid (wayB c d = f) := Lib.hid (by rw [hq.out]; have := HB.out; rw [List.take_length] at this; rw [← this])
        go_wp2
        go_ret
        exact ⟨ret_s hq2.out.symm, hb⟩
  · have hq := Lib.hid (wayB_no (c := c) (d := d) (.inr (.inr hh)))
    have HH := Lib.hid hh
    clear hc hh
    go_enter Tryd.func16, Tryd.ntmps16
    go_wp2_with fail
    refine (implConfOk_any c a1 c1 a2 c2 _ HM0.out (HA.out.below b0 (Nat.le_refl _)) HS.out).mono ?_
    rintro e w1 ⟨rfl, hb1⟩
    rw [HC.out]
    have B1 := b0.trans (hb1.mono b0.size)
    have F1 := Lib.hid (HF.out.later hb1)
    clear hb1
    obtain ⟨g0, g1, g2⟩ := F1.out.cells
    go_wp2_with fail
    refine (isLocal_any c a1 c1 a2 c2 d _ (HA.out.below B1 (Nat.le_refl _)) z1).mono ?_
    rintro e w2 ⟨rfl, hb2⟩
    rw [HH.out]
    have B2 := B1.trans (hb2.mono B1.size)
    go_wp2
    go_ret
    exact ⟨ret_s hq.out.symm, B2⟩

theorem takesB_no {c : ConfD} {u d : ByteArray} (h : confB c = false ∨ addrB u d = false) : takesB c u d = false := by
  unfold takesB
  rcases h with h | h
  · rw [h]; rfl
  · rw [h, Bool.and_false]; rfl
theorem takesB_yes {c : ConfD} {u d : ByteArray} (h1 : confB c = true) (h2 : addrB u d = true) : takesB c u d = (hasB c.own d || !(bestB d c.ways).2.toList.isEmpty) := by
  unfold takesB; rw [h1, h2]; rfl
theorem addrB_dom {u d : ByteArray} (h : addrB u d = true) : domB d = true := by
  unfold addrB at h; rw [Bool.and_eq_true] at h; exact h.2

set_option maxHeartbeats 1600000 in
set_option maxRecDepth 100000 in
theorem implConfTakes_any (c : ConfD) (a1 : Option Addr) (c1 : Nat) (a2 : Option Addr) (c2 : Nat) (u d : ByteArray) (w : World) (hm : HasMax w) (hat : ConfAt w c a1 a2) (hsz : ConfSz 1048576 c) (hu : u.size ≤ 1048576) (hd : d.size ≤ 1048576) :
    Calls Tryd.prog 22 #[.agg (confV c a1 c1 a2 c2), .agg #[.string u, .string d]] w fun e w' => e = .returned (.bool (takesB c u d)) ∧ Below w.heap.size w w' := by
  have b0 : Below w.heap.size w ((w.alloc (.cells (confV c a1 c1 a2 c2) 26)).alloc (.cells #[.string u, .string d] 37)) := ((Below.refl _ _).alloc (Nat.le_refl _) _).alloc (by simp) _
  have HM := Lib.hid hm
  have HM0 := Lib.hid (hm.below b0 (Nat.le_refl _))
  have HA := Lib.hid hat
  have HS := Lib.hid hsz
  have HF := Lib.hid ((ThreeAt.new w (.string c.name) (.slice a1 c.own.length c1) (.slice a2 c.ways.length c2) 26).later ((Below.refl _ _).alloc (Nat.le_refl _) (.cells #[.string u, .string d] 37)))
  have z1 := hsz.owl
  clear hat hsz hm
  cases hc : confB c
  · have hq := Lib.hid (takesB_no (u := u) (d := d) (.inl hc))
    have HC := Lib.hid hc
    clear hc
    go_enter Tryd.func22, Tryd.ntmps22
    go_wp2_with fail
    refine (implConfOk_any c a1 c1 a2 c2 _ HM0.out (HA.out.below b0 (Nat.le_refl _)) HS.out).mono ?_
    rintro e w1 ⟨rfl, hb1⟩
    rw [HC.out]
    have B1 := b0.trans (hb1.mono b0.size)
    go_wp2
    go_ret
    exact ⟨ret_b hq.out.symm, B1⟩
  have HC := Lib.hid hc
  cases ha : addrB u d
  · have hq := Lib.hid (takesB_no (c := c) (.inr ha))
    have HAD := Lib.hid ha
    clear hc ha
    go_enter Tryd.func22, Tryd.ntmps22
    go_wp2_with fail
    refine (implConfOk_any c a1 c1 a2 c2 _ HM0.out (HA.out.below b0 (Nat.le_refl _)) HS.out).mono ?_
    rintro e w1 ⟨rfl, hb1⟩
    rw [HC.out]
    have B1 := b0.trans (hb1.mono b0.size)
    have HM1 := Lib.hid (HM.out.below B1 (Nat.le_refl _))
    have d0 := hb1.cell (p := ⟨w.heap.size + 1, 0, none⟩) (by simp)
    have d1 := hb1.cell (p := ⟨w.heap.size + 1, 1, none⟩) (by simp)
    go_wp2_with fail
    refine (implAddrOk_any u d _ HM1.out (by omega) (by omega)).mono ?_
    rintro e w2 ⟨rfl, hb2⟩
    rw [HAD.out]
    have B2 := B1.trans (hb2.mono B1.size)
    go_wp2
    go_ret
    exact ⟨ret_b hq.out.symm, B2⟩
  have hq := Lib.hid (takesB_yes hc ha)
  have HAD := Lib.hid ha
  have hdom := addrB_dom ha
  cases hh : hasB c.own d
  · have HH := Lib.hid hh
    obtain ⟨v, hv⟩ : ∃ v, wayB c d = v := ⟨_, rfl⟩
    have HV := Lib.hid hv
    have HW : Hid ((bestB d c.ways).2 = v) := Lib.hid ((wayB_yes hc hdom hh).symm.trans hv)
    clear hc ha hh hv hdom
    go_enter Tryd.func22, Tryd.ntmps22
    go_wp2_with fail
    refine (implConfOk_any c a1 c1 a2 c2 _ HM0.out (HA.out.below b0 (Nat.le_refl _)) HS.out).mono ?_
    rintro e w1 ⟨rfl, hb1⟩
    rw [HC.out]
    have B1 := b0.trans (hb1.mono b0.size)
    have HM1 := Lib.hid (HM.out.below B1 (Nat.le_refl _))
    have F1 := Lib.hid (HF.out.later hb1)
    have d0 := (hb1.cell (p := ⟨w.heap.size + 1, 0, none⟩) (by simp)).trans (World.cell?_alloc_at _ _ _ 0 (by simp))
    have d1 := (hb1.cell (p := ⟨w.heap.size + 1, 1, none⟩) (by simp)).trans (World.cell?_alloc_at _ _ _ 1 (by simp))
    have hl1 : w.heap.size + 1 < w1.heap.size := World.block_lt_of_cell? w1 _ d0
    clear hb1
    go_wp2_with fail
    refine (implAddrOk_any u d _ HM1.out (by omega) (by omega)).mono ?_
    rintro e w2 ⟨rfl, hb2⟩
    rw [HAD.out]
    have B2 := B1.trans (hb2.mono B1.size)
    have e0 := (hb2.cell (p := ⟨w.heap.size + 1, 0, none⟩) hl1).trans d0
    have e1 := (hb2.cell (p := ⟨w.heap.size + 1, 1, none⟩) hl1).trans d1
    have F2 := Lib.hid (F1.out.later hb2)
    have hl2 : w.heap.size + 1 < w2.heap.size := World.block_lt_of_cell? w2 _ e0
    clear hb2 d0 d1
    obtain ⟨g0, g1, g2⟩ := F2.out.cells
    go_wp2_with fail
    refine (isLocal_any c a1 c1 a2 c2 d _ (HA.out.below B2 (Nat.le_refl _)) z1).mono ?_
    rintro e w3 ⟨rfl, hb3⟩
    rw [HH.out]
    have B3 := B2.trans (hb3.mono B2.size)
    have f1 := (hb3.cell (p := ⟨w.heap.size + 1, 1, none⟩) hl2).trans e1
    have F3 := Lib.hid (F2.out.later hb3)
    have HM3 := Lib.hid (HM.out.below B3 (Nat.le_refl _))
    clear hb3 e0 e1 g0 g1 g2
    obtain ⟨g0, g1, g2⟩ := F3.out.cells
    go_wp2_with fail
    refine (implWayOf_any c a1 c1 a2 c2 d _ HM3.out (HA.out.below B3 (Nat.le_refl _)) HS.out hd).mono ?_
    rintro e w4 ⟨rfl, hb4⟩
    rw [HV.out]
    have B4 := B3.trans (hb4.mono B3.size)
    clear hb4 g0 g1 g2 f1
    go_wp2
    go_ret
    exact ⟨ret_b (by rw [hq.out, HH.out, HW.out]; simp), B4⟩
  · have HH := Lib.hid hh
    clear hc ha hh hdom
    go_enter Tryd.func22, Tryd.ntmps22
    go_wp2_with fail
    refine (implConfOk_any c a1 c1 a2 c2 _ HM0.out (HA.out.below b0 (Nat.le_refl _)) HS.out).mono ?_
    rintro e w1 ⟨rfl, hb1⟩
    rw [HC.out]
    have B1 := b0.trans (hb1.mono b0.size)
    have HM1 := Lib.hid (HM.out.below B1 (Nat.le_refl _))
    have F1 := Lib.hid (HF.out.later hb1)
    have d0 := (hb1.cell (p := ⟨w.heap.size + 1, 0, none⟩) (by simp)).trans (World.cell?_alloc_at _ _ _ 0 (by simp))
    have d1 := (hb1.cell (p := ⟨w.heap.size + 1, 1, none⟩) (by simp)).trans (World.cell?_alloc_at _ _ _ 1 (by simp))
    have hl1 : w.heap.size + 1 < w1.heap.size := World.block_lt_of_cell? w1 _ d0
    clear hb1
    go_wp2_with fail
    refine (implAddrOk_any u d _ HM1.out (by omega) (by omega)).mono ?_
    rintro e w2 ⟨rfl, hb2⟩
    rw [HAD.out]
    have B2 := B1.trans (hb2.mono B1.size)
    have e0 := (hb2.cell (p := ⟨w.heap.size + 1, 0, none⟩) hl1).trans d0
    have e1 := (hb2.cell (p := ⟨w.heap.size + 1, 1, none⟩) hl1).trans d1
    have F2 := Lib.hid (F1.out.later hb2)
    clear hb2 d0 d1
    obtain ⟨g0, g1, g2⟩ := F2.out.cells
    go_wp2_with fail
    refine (isLocal_any c a1 c1 a2 c2 d _ (HA.out.below B2 (Nat.le_refl _)) z1).mono ?_
    rintro e w3 ⟨rfl, hb3⟩
    rw [HH.out]
    have B3 := B2.trans (hb3.mono B2.size)
    clear hb3
    go_wp2
    go_ret
    exact ⟨ret_b (by rw [hq.out, HH.out]; simp), B3⟩
end Go.Proofs.YtgjkoegpdfcadaaDoor
