/- Contracts: whether a host's configuration is ok, of the model and of the program. -/
import Derived.Test.YtfffocfcnigogaaDoorMails
import Derived.Test.YtfffocfcnigogaaDoorPairFnsWay
import Derived.Test.YtfffocfcnigogaaDoorPlains
namespace Go.Proofs.YtfffocfcnigogaaDoor
open Go Go.RowKit

abbrev confV (c : ConfD) (a1 : Option Addr) (c1 : Nat) (a2 : Option Addr) (c2 : Nat) : Array Value := #[.string c.name, .slice a1 c.own.length c1, .slice a2 c.ways.length c2]
structure ConfAt (w : World) (c : ConfD) (a1 a2 : Option Addr) : Prop where
  own : StrRow w a1 c.own
  ways : PairRow w a2 c.ways
structure ConfSz (N : Nat) (c : ConfD) : Prop where
  nm : c.name.size ≤ N
  owl : c.own.length ≤ N
  ows : ∀ x ∈ c.own, x.size ≤ N
  wal : c.ways.length ≤ N
  was : ∀ p ∈ c.ways, p.1.size ≤ N ∧ p.2.size ≤ N
theorem ConfAt.below {B : Nat} {w w' : World} {c : ConfD} {a1 a2 : Option Addr} (h : ConfAt w c a1 a2) (hb : Below B w w') (hB : w.heap.size ≤ B) : ConfAt w' c a1 a2 := ⟨h.own.below hb hB, h.ways.below hb hB⟩
theorem ConfAt.later {w w' : World} {c : ConfD} {a1 a2 : Option Addr} (h : ConfAt w c a1 a2) (hb : Below w.heap.size w w') : ConfAt w' c a1 a2 := h.below hb (Nat.le_refl _)

/-- The three cells of a local configuration, in block k. -/
structure ThreeAt (w : World) (k : Nat) (x0 x1 x2 : Value) : Prop where
  c0 : w.cell? ⟨k, 0, none⟩ = some x0
  c1 : w.cell? ⟨k, 1, none⟩ = some x1
  c2 : w.cell? ⟨k, 2, none⟩ = some x2
theorem ThreeAt.new (w : World) (x0 x1 x2 : Value) (t : TypeId) : ThreeAt (w.alloc (.cells #[x0, x1, x2] t)) w.heap.size x0 x1 x2 :=
  ⟨by rw [World.cell?_alloc_new]; rfl, by rw [World.cell?_alloc_new]; rfl, by rw [World.cell?_alloc_new]; rfl⟩
theorem ThreeAt.cells {w : World} {k : Nat} {x0 x1 x2 : Value} (h : ThreeAt w k x0 x1 x2) : w.cell? ⟨k, 0, none⟩ = some x0 ∧ w.cell? ⟨k, 1, none⟩ = some x1 ∧ w.cell? ⟨k, 2, none⟩ = some x2 := ⟨h.c0, h.c1, h.c2⟩
theorem ThreeAt.later {w w' : World} {k : Nat} {x0 x1 x2 : Value} (h : ThreeAt w k x0 x1 x2) (hb : Below w.heap.size w w') : ThreeAt w' k x0 x1 x2 :=
  have hlt := World.block_lt_of_cell? w _ h.c0
  ⟨(hb.cell (p := ⟨k, 0, none⟩) hlt).trans h.c0, (hb.cell (p := ⟨k, 1, none⟩) hlt).trans h.c1, (hb.cell (p := ⟨k, 2, none⟩) hlt).trans h.c2⟩
theorem ThreeAt.far {w : World} {k k' j : Nat} {x0 x1 x2 : Value} (h : ThreeAt w k x0 x1 x2) (v : Value) (hne : k' ≠ k) : ThreeAt (w.setCell ⟨k', j, none⟩ v) k x0 x1 x2 := by
  obtain ⟨c0, c1, c2⟩ := h
  refine ⟨?_, ?_, ?_⟩
  all_goals exact (World.cell?_setCell_other _ _ _ _ (fun e => hne (congrArg Addr.block e))).trans (by assumption)

theorem wayOkB_eq {p : Pair} {v : Bool} (h1 : domB p.1 = v) : wayOkB p = (v && domB p.2) := by unfold wayOkB; rw [h1]

set_option maxHeartbeats 2000000 in
set_option maxRecDepth 100000 in
theorem l3ConfOk_any (c : ConfD) (a1 : Option Addr) (c1 : Nat) (a2 : Option Addr) (c2 : Nat) (w : World) (hat : ConfAt w c a1 a2) (hsz : ConfSz 1048576 c) :
    Calls Tryd.prog 61 #[.agg (confV c a1 c1 a2 c2)] w fun e w' => e = .returned (.bool (confB c)) ∧ Below w.heap.size w w' := by
  have HO := Lib.hid hat.own
  have HW := Lib.hid hat.ways
  have HS := Lib.hid hsz
  have z0 := hsz.nm
  have z1 := hsz.owl
  have z2 := hsz.wal
  clear hat hsz
  go_enter Tryd.func61, Tryd.ntmps61
  go_wp2
  go_loopw [3] (fun i wr => ∃ k : Nat, k ≤ c.own.length ∧ i = .int .i64 k ∧ Hid ((c.own.take k).all domB = true) ∧ Below w.heap.size w wr ∧ ThreeAt wr w.heap.size (.string c.name) (.slice a1 c.own.length c1) (.slice a2 c.ways.length c2)) (fun i _ => c.own.length - (intOf i).toNat)
  case atStart => exact ⟨0, Nat.zero_le _, rfl, Lib.hid (by simp), (Below.refl _ _).alloc (Nat.le_refl _) _, ThreeAt.new _ _ _ _ _⟩
  case round =>
    obtain ⟨k, hk, rfl, HA, hb, hf⟩ := hrel
    have hz := hb.size
    obtain ⟨g0, g1, g2⟩ := hf.cells
    by_cases hlt : k < c.own.length
    · obtain ⟨x, hx⟩ : ∃ x, c.own[k]? = some x := ⟨_, List.getElem?_eq_getElem hlt⟩
      obtain ⟨b, off, rfl, hc1⟩ := (HO.out.below hb (Nat.le_refl _)) k x hx
      have s1 := HS.out.ows x (List.mem_of_getElem? hx)
      have HX := Lib.hid hx
      clear hx
      cases hd : domB x
      · have hm : Hid (confB c = false) := Lib.hid (confB_own HX.out hd)
        have HD := Lib.hid hd
        clear hd
        go_wp2_with fail
        refine (l1Domain_any x _ (by omega)).mono ?_
        rintro e w1 ⟨rfl, hb1⟩
        rw [HD.out]
        have B1 := hb.trans (hb1.mono hz)
        go_wp2
        go_ret
        exact ⟨ret_b hm.out.symm, B1⟩
      · have HD := Lib.hid hd
        clear hd
        go_wp2_with fail
        refine (l1Domain_any x _ (by omega)).mono ?_
        rintro e w1 ⟨rfl, hb1⟩
        rw [HD.out]
        have B1 := hb.trans (hb1.mono hz)
        have F1 := hf.later hb1
        clear g0 g1 g2 hc1 hf hb
        go_wp2
        go_roundw
        case rel => exact ⟨k + 1, by omega, by go_num, Lib.hid (list_all_succ HX.out HA.out HD.out), B1, F1⟩
        case measure => simp [intOf]; omega
    · obtain rfl : k = c.own.length := by omega
      have HOA : Hid (c.own.all domB = true) := Lib.hid (list_all_end (Nat.le_refl _) HA.out)
      clear HA
      go_wp2
      go_loopw [4] (fun i wx => ∃ k : Nat, k ≤ c.ways.length ∧ i = .int .i64 k ∧ Hid ((c.ways.take k).all wayOkB = true) ∧ Below w.heap.size w wx ∧ ThreeAt wx w.heap.size (.string c.name) (.slice a1 c.own.length c1) (.slice a2 c.ways.length c2)) (fun i _ => c.ways.length - (intOf i).toNat)
      case atStart => exact ⟨0, Nat.zero_le _, rfl, Lib.hid (by simp), hb, hf⟩
      case round =>
        clear hb hf g0 g1 g2 hz
        obtain ⟨k, hk, rfl, HA, hb, hf⟩ := hrel
        have hz := hb.size
        obtain ⟨g0, g1, g2⟩ := hf.cells
        by_cases hlt : k < c.ways.length
        · obtain ⟨p, hp⟩ : ∃ p, c.ways[k]? = some p := ⟨_, List.getElem?_eq_getElem hlt⟩
          obtain ⟨b, off, rfl, hc1, hc2⟩ := (HW.out.below hb (Nat.le_refl _)) k p hp
          obtain ⟨s1, s2⟩ := HS.out.was p (List.mem_of_getElem? hp)
          have HP := Lib.hid hp
          clear hp
          cases hd : domB p.1
          · have hm : Hid (confB c = false) := Lib.hid (confB_ways HP.out (by rw [wayOkB_eq hd]; rfl))
            have HD := Lib.hid hd
            clear hd
            go_wp2_with fail
            refine (l1Domain_any p.1 _ (by omega)).mono ?_
            rintro e w1 ⟨rfl, hb1⟩
            rw [HD.out]
            have B1 := hb.trans (hb1.mono hz)
            go_wp2
            go_ret
            exact ⟨ret_b hm.out.symm, B1⟩
          · have HWK : Hid (wayOkB p = domB p.2) := Lib.hid (by rw [wayOkB_eq hd]; rfl)
            have HD := Lib.hid hd
            clear hd
            cases hd2 : domB p.2
            · have hm : Hid (confB c = false) := Lib.hid (confB_ways HP.out (by rw [HWK.out, hd2]))
              have HD2 := Lib.hid hd2
              clear hd2
              go_wp2_with fail
              refine (l1Domain_any p.1 _ (by omega)).mono ?_
              rintro e w1 ⟨rfl, hb1⟩
              rw [HD.out]
              have B1 := hb.trans (hb1.mono hz)
              have F1 := hf.later hb1
              clear g0 g1 g2 hc1 hc2 hf
              obtain ⟨g0, g1, g2⟩ := F1.cells
              obtain ⟨b', off', e', hc1, hc2⟩ := (HW.out.below B1 (Nat.le_refl _)) k p HP.out
              cases e'
              go_wp2_with fail
              refine (l1Domain_any p.2 _ (by omega)).mono ?_
              rintro e w2 ⟨rfl, hb2⟩
              rw [HD2.out]
              have B2 := B1.trans (hb2.mono B1.size)
              go_wp2
              go_ret
              exact ⟨ret_b hm.out.symm, B2⟩
            · have HWT : Hid (wayOkB p = true) := Lib.hid (by rw [HWK.out, hd2])
              have HD2 := Lib.hid hd2
              clear hd2
              go_wp2_with fail
              refine (l1Domain_any p.1 _ (by omega)).mono ?_
              rintro e w1 ⟨rfl, hb1⟩
              rw [HD.out]
              have B1 := hb.trans (hb1.mono hz)
              have F1 := hf.later hb1
              clear g0 g1 g2 hc1 hc2 hf
              obtain ⟨g0, g1, g2⟩ := F1.cells
              obtain ⟨b', off', e', hc1, hc2⟩ := (HW.out.below B1 (Nat.le_refl _)) k p HP.out
              cases e'
              go_wp2_with fail
              refine (l1Domain_any p.2 _ (by omega)).mono ?_
              rintro e w2 ⟨rfl, hb2⟩
              rw [HD2.out]
              have B2 := B1.trans (hb2.mono B1.size)
              have F2 := F1.later hb2
              clear g0 g1 g2 hc1 hc2 F1 hb B1
              go_wp2
              go_roundw
              case rel => exact ⟨k + 1, by omega, by go_num, Lib.hid (list_all_succ HP.out HA.out HWT.out), B2, F2⟩
              case measure => simp [intOf]; omega
        · obtain rfl : k = c.ways.length := by omega
          have HWA : Hid (c.ways.all wayOkB = true) := Lib.hid (list_all_end (Nat.le_refl _) HA.out)
          clear HA
          have HE := Lib.hid (confB_end HOA.out HWA.out)
          cases hd : domB c.name
          · have hm : Hid (confB c = false) := Lib.hid (by rw [HE.out, hd]; rfl)
            have HD := Lib.hid hd
            clear hd
            go_wp2_with fail
            refine (l1Domain_any c.name _ (by omega)).mono ?_
            rintro e w1 ⟨rfl, hb1⟩
            rw [HD.out]
            have B1 := hb.trans (hb1.mono hz)
            go_wp2
            go_ret
            exact ⟨ret_b hm.out.symm, B1⟩
          · have HD := Lib.hid hd
            have hm0 : confB c = (decide (c.own.length ≤ 3) && decide (c.ways.length ≤ 4)) := by rw [HE.out, hd]; rfl
            clear hd
            by_cases h3 : c.own.length ≤ 3
            · have hm : Hid (confB c = decide ((c.ways.length : Int) ≤ 4)) := Lib.hid (by rw [hm0, decide_eq_true h3, Bool.true_and, decide_eq_decide]; omega)
              clear hm0
              go_wp2_with fail
              refine (l1Domain_any c.name _ (by omega)).mono ?_
              rintro e w1 ⟨rfl, hb1⟩
              rw [HD.out]
              have B1 := hb.trans (hb1.mono hz)
              obtain ⟨g0, g1, g2⟩ := (hf.later hb1).cells
              go_wp2
              go_ret
              exact ⟨ret_b hm.out.symm, B1⟩
            · have hm : Hid (confB c = false) := Lib.hid (by rw [hm0, decide_eq_false h3]; rfl)
              clear hm0
              go_wp2_with fail
              refine (l1Domain_any c.name _ (by omega)).mono ?_
              rintro e w1 ⟨rfl, hb1⟩
              rw [HD.out]
              have B1 := hb.trans (hb1.mono hz)
              obtain ⟨g0, g1, g2⟩ := (hf.later hb1).cells
              go_wp2
              go_ret
              exact ⟨ret_b hm.out.symm, B1⟩

end Go.Proofs.YtfffocfcnigogaaDoor
