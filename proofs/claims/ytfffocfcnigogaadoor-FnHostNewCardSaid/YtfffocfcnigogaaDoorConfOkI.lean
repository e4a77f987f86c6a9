/- Contracts: whether a host's configuration is ok, of the program. -/
import Derived.Test.YtfffocfcnigogaaDoorConfOk
namespace Go.Proofs.YtfffocfcnigogaaDoor
open Go Go.RowKit

set_option maxRecDepth 100000 in
theorem wayValid_any (p : Pair) (w : World) (hm : HasMax w) (h1 : p.1.size ≤ 1048576) (h2 : p.2.size ≤ 1048576) :
    Calls Tryd.prog 64 #[.agg #[.string p.1, .string p.2]] w fun e w' => e = .returned (.bool (wayOkB p)) ∧ Below w.heap.size w w' := by
  have hb0 : Below w.heap.size w (w.alloc (.cells #[.string p.1, .string p.2] 114)) := (Below.refl _ _).alloc (Nat.le_refl _) _
  have HM := Lib.hid (hm.below hb0 (Nat.le_refl _))
  clear hm
  cases hd : domB p.1
  · have hq : Hid (wayOkB p = false) := Lib.hid (by rw [wayOkB_eq hd]; rfl)
    have HD := Lib.hid hd
    clear hd
    go_enter Tryd.func64, Tryd.ntmps64
    go_wp2_with fail
    refine (implDomainOk_max p.1 _ HM.out (by omega)).mono ?_
    rintro e w1 ⟨rfl, hb1⟩
    rw [HD.out]
    have B1 := hb0.trans (hb1.mono (by simp))
    go_wp2
    go_ret
    exact ⟨ret_b hq.out.symm, B1⟩
  · have hq : Hid (wayOkB p = domB p.2) := Lib.hid (by rw [wayOkB_eq hd]; rfl)
    have HD := Lib.hid hd
    clear hd
    go_enter Tryd.func64, Tryd.ntmps64
    go_wp2_with fail
    refine (implDomainOk_max p.1 _ HM.out (by omega)).mono ?_
    rintro e w1 ⟨rfl, hb1⟩
    rw [HD.out]
    have c1 := hb1.cell (p := ⟨w.heap.size, 1, none⟩) (by simp)
    have B1 := hb0.trans (hb1.mono (by simp))
    have HM1 := Lib.hid (HM.out.below hb1 (Nat.le_refl _))
    clear hb1
    go_wp2_with fail
    refine (implDomainOk_max p.2 _ HM1.out (by omega)).mono ?_
    rintro e w2 ⟨rfl, hb2⟩
    have B2 := B1.trans (hb2.mono B1.size)
    go_wp2
    go_ret
    exact ⟨ret_b hq.out.symm, B2⟩

theorem confB_name {c : ConfD} (h : domB c.name = false) : confB c = false := by unfold confB; rw [h]; rfl
theorem confB_own3 {c : ConfD} (h : 3 < c.own.length) : confB c = false := by unfold confB; rw [decide_eq_false (p := c.own.length ≤ 3) (by omega)]; simp
theorem confB_ways4 {c : ConfD} (h : 4 < c.ways.length) : confB c = false := by unfold confB; rw [decide_eq_false (p := c.ways.length ≤ 4) (by omega)]; simp

set_option maxHeartbeats 2000000 in
set_option maxRecDepth 100000 in
theorem implConfOk_any (c : ConfD) (a1 : Option Addr) (c1 : Nat) (a2 : Option Addr) (c2 : Nat) (w : World) (hm : HasMax w) (hat : ConfAt w c a1 a2) (hsz : ConfSz 1048576 c) :
    Calls Tryd.prog 26 #[.agg (confV c a1 c1 a2 c2)] w fun e w' => e = .returned (.bool (confB c)) ∧ Below w.heap.size w w' := by
  have hb0 : Below w.heap.size w (w.alloc (.cells (confV c a1 c1 a2 c2) 53)) := (Below.refl _ _).alloc (Nat.le_refl _) _
  have HM := Lib.hid hm
  have HM0 := Lib.hid (hm.below hb0 (Nat.le_refl _))
  have HO := Lib.hid hat.own
  have HW := Lib.hid hat.ways
  have HS := Lib.hid hsz
  have HF := Lib.hid (ThreeAt.new w (.string c.name) (.slice a1 c.own.length c1) (.slice a2 c.ways.length c2) 53)
  have z0 := hsz.nm
  have z1 := hsz.owl
  have z2 := hsz.wal
  clear hat hsz hm
  cases hd : domB c.name
  · have hq := Lib.hid (confB_name hd)
    have HD := Lib.hid hd
    clear hd
    go_enter Tryd.func26, Tryd.ntmps26
    go_wp2_with fail
    refine (implDomainOk_max c.name _ HM0.out (by omega)).mono ?_
    rintro e w1 ⟨rfl, hb1⟩
    rw [HD.out]
    have B1 := hb0.trans (hb1.mono (by simp))
    go_wp2
    go_ret
    exact ⟨ret_b hq.out.symm, B1⟩
  have HD := Lib.hid hd
  clear hd
  by_cases h3 : 3 < c.own.length
  · have hq := Lib.hid (confB_own3 h3)
    go_enter Tryd.func26, Tryd.ntmps26
    go_wp2_with fail
    refine (implDomainOk_max c.name _ HM0.out (by omega)).mono ?_
    rintro e w1 ⟨rfl, hb1⟩
    rw [HD.out]
    have B1 := hb0.trans (hb1.mono (by simp))
    obtain ⟨g0, g1, g2⟩ := (HF.out.later hb1).cells
    go_wp2
    go_ret
    exact ⟨ret_b hq.out.symm, B1⟩
  by_cases h4 : 4 < c.ways.length
  · have hq := Lib.hid (confB_ways4 h4)
    go_enter Tryd.func26, Tryd.ntmps26
    go_wp2_with fail
    refine (implDomainOk_max c.name _ HM0.out (by omega)).mono ?_
    rintro e w1 ⟨rfl, hb1⟩
    rw [HD.out]
    have B1 := hb0.trans (hb1.mono (by simp))
    obtain ⟨g0, g1, g2⟩ := (HF.out.later hb1).cells
    go_wp2
    go_ret
    exact ⟨ret_b hq.out.symm, B1⟩
  go_enter Tryd.func26, Tryd.ntmps26
  go_wp2_with fail
  refine (implDomainOk_max c.name _ HM0.out (by omega)).mono ?_
  rintro e w1 ⟨rfl, hb1⟩
  rw [HD.out]
  have B1 := hb0.trans (hb1.mono (by simp))
  have F1 := HF.out.later hb1
  obtain ⟨g0, g1, g2⟩ := F1.cells
  clear hb1
  go_wp2
  go_loopw [26] (fun i wr => ∃ k : Nat, k ≤ c.own.length ∧ i = .int .i64 k ∧ Hid ((c.own.take k).all domB = true) ∧ Below w.heap.size w wr ∧ ThreeAt wr w.heap.size (.string c.name) (.slice a1 c.own.length c1) (.slice a2 c.ways.length c2)) (fun i _ => c.own.length - (intOf i).toNat)
  case atStart => exact ⟨0, Nat.zero_le _, rfl, Lib.hid (by simp), B1, F1⟩
  case round =>
    clear g0 g1 g2 B1 F1
    obtain ⟨k, hk, rfl, HA, hb, hf⟩ := hrel
    have hz := hb.size
    have HM1 := Lib.hid (HM.out.below hb (Nat.le_refl _))
    obtain ⟨g0, g1, g2⟩ := hf.cells
    by_cases hlt : k < c.own.length
    · obtain ⟨x, hx⟩ : ∃ x, c.own[k]? = some x := ⟨_, List.getElem?_eq_getElem hlt⟩
      obtain ⟨b, off, rfl, hc1⟩ := (HO.out.below hb (Nat.le_refl _)) k x hx
      have s1 := HS.out.ows x (List.mem_of_getElem? hx)
      have HX := Lib.hid hx
      clear hx
      cases hdx : domB x
      · have hm : Hid (confB c = false) := Lib.hid (confB_own HX.out hdx)
        have HDX := Lib.hid hdx
        clear hdx
        go_wp2_with fail
        refine (implDomainOk_max x _ HM1.out (by omega)).mono ?_
        rintro e w2 ⟨rfl, hb2⟩
        rw [HDX.out]
        have B2 := hb.trans (hb2.mono hz)
        go_wp2
        go_ret
        exact ⟨ret_b hm.out.symm, B2⟩
      · have HDX := Lib.hid hdx
        clear hdx
        go_wp2_with fail
        refine (implDomainOk_max x _ HM1.out (by omega)).mono ?_
        rintro e w2 ⟨rfl, hb2⟩
        rw [HDX.out]
        have B2 := hb.trans (hb2.mono hz)
        have F2 := hf.later hb2
        clear g0 g1 g2 hc1 hf hb
        go_wp2
        go_roundw
        case rel => exact ⟨k + 1, by omega, by go_num, Lib.hid (list_all_succ HX.out HA.out HDX.out), B2, F2⟩
        case measure => simp [intOf]; omega
    · obtain rfl : k = c.own.length := by omega
      have HOA : Hid (c.own.all domB = true) := Lib.hid (list_all_end (Nat.le_refl _) HA.out)
      clear HA HM1
      go_wp2
      go_loopw [37] (fun i wx => ∃ k : Nat, k ≤ c.ways.length ∧ i = .int .i64 k ∧ Hid ((c.ways.take k).all wayOkB = true) ∧ Below w.heap.size w wx) (fun i _ => c.ways.length - (intOf i).toNat)
      case atStart => exact ⟨0, Nat.zero_le _, rfl, Lib.hid (by simp), hb⟩
      case round =>
        clear hb hf g0 g1 g2 hz
        obtain ⟨k, hk, rfl, HA, hb⟩ := hrel
        have hz := hb.size
        by_cases hlt : k < c.ways.length
        · obtain ⟨p, hp⟩ : ∃ p, c.ways[k]? = some p := ⟨_, List.getElem?_eq_getElem hlt⟩
          obtain ⟨b, off, rfl, hc1, hc2⟩ := (HW.out.below hb (Nat.le_refl _)) k p hp
          obtain ⟨s1, s2⟩ := HS.out.was p (List.mem_of_getElem? hp)
          have HP := Lib.hid hp
          clear hp
          go_wp2_with fail
          have hb2 : Below w.heap.size w (World.alloc _ (.cells #[.string p.1, .string p.2] 114)) := hb.alloc hz (.cells #[.string p.1, .string p.2] 114)
          have HM2 := Lib.hid (HM.out.below hb2 (Nat.le_refl _))
          cases hwk : wayOkB p
          · have hm : Hid (confB c = false) := Lib.hid (confB_ways HP.out hwk)
            have HK := Lib.hid hwk
            clear hwk
            refine (wayValid_any p _ HM2.out s1 s2).mono ?_
            rintro e w3 ⟨rfl, hb3⟩
            rw [HK.out]
            have B3 := hb2.trans (hb3.mono hb2.size)
            go_wp2
            go_ret
            exact ⟨ret_b hm.out.symm, B3⟩
          · have HK := Lib.hid hwk
            clear hwk
            refine (wayValid_any p _ HM2.out s1 s2).mono ?_
            rintro e w3 ⟨rfl, hb3⟩
            rw [HK.out]
            have B3 := hb2.trans (hb3.mono hb2.size)
            clear hb3 hc1 hc2 hb
            go_wp2
            go_roundw
            case rel => exact ⟨k + 1, by omega, by go_num, Lib.hid (list_all_succ HP.out HA.out HK.out), B3⟩
            case measure => simp [intOf]; omega
        · obtain rfl : k = c.ways.length := by omega
          have HWA : Hid (c.ways.all wayOkB = true) := Lib.hid (list_all_end (Nat.le_refl _) HA.out)
          have hm : Hid (confB c = true) := Lib.hid (by rw [confB_end HOA.out HWA.out, HD.out, decide_eq_true (p := c.own.length ≤ 3) (by omega), decide_eq_true (p := c.ways.length ≤ 4) (by omega)]; rfl)
          go_wp2
          go_ret
          exact ⟨ret_b hm.out.symm, hb⟩
end Go.Proofs.YtfffocfcnigogaaDoor
