/- Contracts: whether a mail is ok, of the model and of the program. -/
import Derived.Test.YtfacdiimoncnnaaDoorPairs
import Derived.Test.YtfacdiimoncnnaaDoorPlains
import Derived.Outline
namespace Go.Proofs.YtfacdiimoncnnaaDoor
open Go Go.RowKit

abbrev mailV (m : MailD) (a1 : Option Addr) (c1 : Nat) (a2 : Option Addr) (c2 : Nat) : Array Value := #[.string m.fu, .string m.fd, .slice a1 m.rc.length c1, .slice a2 m.body.length c2]
structure MailAt (w : World) (m : MailD) (a1 a2 : Option Addr) : Prop where
  rc : PairRow w a1 m.rc
  body : StrRow w a2 m.body
structure MailSz (N : Nat) (m : MailD) : Prop where
  fu : m.fu.size ≤ N
  fd : m.fd.size ≤ N
  rcl : m.rc.length ≤ N
  rcs : ∀ p ∈ m.rc, p.1.size ≤ N ∧ p.2.size ≤ N
  bol : m.body.length ≤ N
  bos : ∀ x ∈ m.body, x.size ≤ N
theorem MailAt.below {B : Nat} {w w' : World} {m : MailD} {a1 a2 : Option Addr} (h : MailAt w m a1 a2) (hb : Below B w w') (hB : w.heap.size ≤ B) : MailAt w' m a1 a2 := ⟨h.rc.below hb hB, h.body.below hb hB⟩
theorem MailAt.later {w w' : World} {m : MailD} {a1 a2 : Option Addr} (h : MailAt w m a1 a2) (hb : Below w.heap.size w w') : MailAt w' m a1 a2 := h.below hb (Nat.le_refl _)
theorem MailSz.mono {N M : Nat} {m : MailD} (h : MailSz N m) (hN : N ≤ M) : MailSz M m :=
  ⟨Nat.le_trans h.fu hN, Nat.le_trans h.fd hN, Nat.le_trans h.rcl hN, fun p hp => ⟨Nat.le_trans (h.rcs p hp).1 hN, Nat.le_trans (h.rcs p hp).2 hN⟩, Nat.le_trans h.bol hN, fun x hx => Nat.le_trans (h.bos x hx) hN⟩

theorem bcell {W w1 : World} (hb : Below W.heap.size W w1) : (∀ b o, b < W.heap.size → w1.cell? ⟨b, o, none⟩ = W.cell? ⟨b, o, none⟩) ∧ (∀ b o, b < W.heap.size → w1.frozen? ⟨b, o, none⟩ = W.frozen? ⟨b, o, none⟩) :=
  ⟨fun b o h => hb.cell (p := ⟨b, o, none⟩) h, fun b o h => hb.frozen (p := ⟨b, o, none⟩) h⟩

/-- The four cells of a local mail, in block k. -/
structure FourAt (w : World) (k : Nat) (x0 x1 x2 x3 : Value) : Prop where
  c0 : w.cell? ⟨k, 0, none⟩ = some x0
  c1 : w.cell? ⟨k, 1, none⟩ = some x1
  c2 : w.cell? ⟨k, 2, none⟩ = some x2
  c3 : w.cell? ⟨k, 3, none⟩ = some x3
theorem FourAt.new (w : World) (x0 x1 x2 x3 : Value) (t : TypeId) : FourAt (w.alloc (.cells #[x0, x1, x2, x3] t)) w.heap.size x0 x1 x2 x3 :=
  ⟨by rw [World.cell?_alloc_new]; rfl, by rw [World.cell?_alloc_new]; rfl, by rw [World.cell?_alloc_new]; rfl, by rw [World.cell?_alloc_new]; rfl⟩
theorem FourAt.cells {w : World} {k : Nat} {x0 x1 x2 x3 : Value} (h : FourAt w k x0 x1 x2 x3) : w.cell? ⟨k, 0, none⟩ = some x0 ∧ w.cell? ⟨k, 1, none⟩ = some x1 ∧ w.cell? ⟨k, 2, none⟩ = some x2 ∧ w.cell? ⟨k, 3, none⟩ = some x3 := ⟨h.c0, h.c1, h.c2, h.c3⟩
theorem FourAt.later {w w' : World} {k : Nat} {x0 x1 x2 x3 : Value} (h : FourAt w k x0 x1 x2 x3) (hb : Below w.heap.size w w') : FourAt w' k x0 x1 x2 x3 :=
  have hlt := World.block_lt_of_cell? w _ h.c0
  ⟨(hb.cell (p := ⟨k, 0, none⟩) hlt).trans h.c0, (hb.cell (p := ⟨k, 1, none⟩) hlt).trans h.c1, (hb.cell (p := ⟨k, 2, none⟩) hlt).trans h.c2, (hb.cell (p := ⟨k, 3, none⟩) hlt).trans h.c3⟩

set_option maxHeartbeats 2000000 in
set_option maxRecDepth 100000 in
theorem l2Ok_any (m : MailD) (a1 : Option Addr) (c1 : Nat) (a2 : Option Addr) (c2 : Nat) (w : World) (hat : MailAt w m a1 a2) (hsz : MailSz 1048576 m) :
    Calls Tryd.prog 93 #[.agg (mailV m a1 c1 a2 c2)] w fun e w' => e = .returned (.bool (mailB m)) ∧ Below w.heap.size w w' := by
  have HT := Lib.hid hat.rc
  have HB := Lib.hid hat.body
  have HS := Lib.hid hsz
  have z1 := hsz.rcl
  clear hat hsz
  go_enter Tryd.func93, Tryd.ntmps93
  go_wp2
  go_loopw [3] (fun i wr => ∃ k : Nat, k ≤ m.rc.length ∧ i = .int .i64 k ∧ Hid ((m.rc.take k).all pairB = true) ∧ Hid ((m.rc.take k).Nodup) ∧ Below w.heap.size w wr ∧ FourAt wr w.heap.size (.string m.fu) (.string m.fd) (.slice a1 m.rc.length c1) (.slice a2 m.body.length c2)) (fun i _ => m.rc.length - (intOf i).toNat)
  case atStart => exact ⟨0, Nat.zero_le _, rfl, Lib.hid (by simp), Lib.hid (by simp), (Below.refl _ _).alloc (Nat.le_refl _) _, FourAt.new _ _ _ _ _ _⟩
  case round =>
    obtain ⟨k, hk, rfl, HA, HN, hb, hf⟩ := hrel
    have hz := hb.size
    obtain ⟨g0, g1, g2, g3⟩ := hf.cells
    by_cases hlt : k < m.rc.length
    · obtain ⟨p, hp⟩ : ∃ p, m.rc[k]? = some p := ⟨_, List.getElem?_eq_getElem hlt⟩
      obtain ⟨b, off, rfl, hc1, hc2⟩ := (HT.out.below hb (Nat.le_refl _)) k p hp
      obtain ⟨s1, s2⟩ := HS.out.rcs p (List.mem_of_getElem? hp)
      have HP := Lib.hid hp
      clear hp
      cases hpb : pairB p
      · have hm : Hid (mailB m = false) := Lib.hid (mailB_to (toB_miss HP.out hpb))
        have HPB : Hid (addrB p.1 p.2 = false) := Lib.hid hpb
        clear hpb
        go_wp2_with fail
        refine (l1AddrOk_any p.1 p.2 _ (by omega) (by omega)).mono ?_
        rintro e w1 ⟨rfl, hb1⟩
        rw [HPB.out]
        have B1 := hb.trans (hb1.mono hz)
        go_wp2
        go_ret
        exact ⟨ret_b hm.out.symm, B1⟩
      · have HPB : Hid (addrB p.1 p.2 = true) := Lib.hid hpb
        have HPP := Lib.hid hpb
        clear hpb
        go_wp2_with fail
        refine (l1AddrOk_any p.1 p.2 _ (by omega) (by omega)).mono ?_
        rintro e w1 ⟨rfl, hb1⟩
        rw [HPB.out]
        have B1 := hb.trans (hb1.mono hz)
        have F1 := hf.later hb1
        clear g0 g1 g2 g3 hc1 hc2 hf hb
        go_wp2
        go_loopw [4] (fun i wx => ∃ j : Nat, j ≤ k ∧ i = .int .i64 j ∧ Hid (∀ i, i < j → m.rc[i]? ≠ some p) ∧ Below w1.heap.size w1 wx) (fun i _ => k - (intOf i).toNat)
        case atStart => exact ⟨0, Nat.zero_le _, rfl, Lib.hid (fun i hi => by omega), Below.refl _ _⟩
        case round =>
          obtain ⟨j, hj, rfl, HD, hbx⟩ := hrel
          have F2 := F1.later hbx
          have B2 := B1.trans (hbx.mono B1.size)
          obtain ⟨g0, g1, g2, g3⟩ := F2.cells
          by_cases hlj : j < k
          · obtain ⟨q, hq⟩ : ∃ q, m.rc[j]? = some q := ⟨_, List.getElem?_eq_getElem (by omega)⟩
            obtain ⟨b', off', e', hd1, hd2⟩ := (HT.out.below B2 (Nat.le_refl _)) j q hq
            obtain ⟨b'', off'', e'', he1, he2⟩ := (HT.out.below B2 (Nat.le_refl _)) k p HP.out
            cases e'
            cases e''
            have HQ := Lib.hid hq
            clear hq
            by_cases hqp : q = p
            · subst hqp
              have hm : Hid (mailB m = false) := Lib.hid (mailB_to (toB_twice HP.out HQ.out hlj))
              go_wp2_with fail
              go_quiet (fail)
              have B3 := drewN_below B2 nq
              go_wp2
              go_ret
              exact ⟨ret_b hm.out.symm, by assumption⟩
            · rcases pair_ne hqp with h1 | ⟨h1, h2⟩
              all_goals
                have HD2 : Hid (∀ i, i < j + 1 → m.rc[i]? ≠ some p) := Lib.hid fun i hi e => by
                  by_cases hij : i = j
                  · subst hij; rw [HQ.out] at e; exact hqp (Option.some.inj e)
                  · exact HD.out i (by omega) e
                go_wp2_with fail
                go_quiet (fail)
                go_wp2
                exact ⟨⟨j + 1, by omega, by go_num, HD2, drewN_below hbx _⟩, by simp [intOf]; omega⟩
          · obtain rfl : j = k := by omega
            have HA2 : Hid ((m.rc.take (j + 1)).all pairB = true) := Lib.hid (list_all_succ HP.out HA.out HPP.out)
            have HN2 : Hid ((m.rc.take (j + 1)).Nodup) := Lib.hid (nodup_succ HP.out HN.out HD.out)
            go_wp2
            go_roundw
            case rel => exact ⟨j + 1, by omega, by go_num, HA2, HN2, B2, F2⟩
            case measure => simp [intOf]; omega
    · obtain rfl : k = m.rc.length := by omega
      have hT := toB_end (Nat.le_refl _) HA.out HN.out
      have HT2 : Hid (toB m.rc = inB (m.rc.length : Int) 1 4) := Lib.hid (hT.trans (by unfold inB; rw [decide_eq_decide]; omega))
      clear hT
      have zfu := HS.out.fu
      have zfd := HS.out.fd
      have HBS : Hid (∀ x ∈ m.body, x.size ≤ maxLen) := Lib.hid fun x hx => Nat.le_trans (HS.out.bos x hx) (by unfold maxLen; omega)
      have zb : m.body.length ≤ maxLen := Nat.le_trans HS.out.bol (by unfold maxLen; omega)
      -- from whom
      cases hsd : senderB m.fu m.fd
      · have hm : Hid (mailB m = false) := Lib.hid (by unfold mailB; rw [hsd]; rfl)
        obtain ⟨hn, ha⟩ := senderB_false hsd
        have HA1 := Lib.hid ha
        have HN1 := Lib.hid hn
        clear hsd hn ha
        go_wp2_with fail
        refine (l1AddrOk_any m.fu m.fd _ (by omega) (by omega)).mono ?_
        rintro e w1 ⟨rfl, hb1⟩
        rw [HA1.out]
        have B1 := hb.trans (hb1.mono hz)
        obtain ⟨g0, g1, g2, g3⟩ := (hf.later hb1).cells
        go_wp2_with fail
        refine (l1Null_is m.fu m.fd false HN1.out _).mono ?_
        rintro e w2 ⟨rfl, hb2⟩
        have B2 := B1.trans (hb2.mono B1.size)
        go_wp2
        go_ret
        exact ⟨ret_b hm.out.symm, B2⟩
      · have hmq : mailB m = (toB m.rc && bodyB m.body) := by unfold mailB; rw [hsd]; rfl
        rw [HT2.out] at hmq
        generalize hIn : inB (m.rc.length : Int) 1 4 = vin at hmq
        have HI := Lib.hid hIn
        cases vin
        · have hm : Hid (mailB m = false) := Lib.hid (by rw [hmq]; rfl)
          clear hmq hIn
          rcases senderB_true hsd with ha | ⟨hn, ha⟩
          · have HA1 := Lib.hid ha
            clear hsd ha
            go_wp2_with fail
            refine (l1AddrOk_any m.fu m.fd _ (by omega) (by omega)).mono ?_
            rintro e w1 ⟨rfl, hb1⟩
            rw [HA1.out]
            have B1 := hb.trans (hb1.mono hz)
            obtain ⟨g0, g1, g2, g3⟩ := (hf.later hb1).cells
            go_wp2_with fail
            refine (l1In_any _ _ _ _).mono ?_
            rintro e w2 ⟨rfl, rfl⟩
            rw [HI.out]
            go_wp2
            go_ret
            exact ⟨ret_b hm.out.symm, B1⟩
          · have HA1 := Lib.hid ha
            have HN1 := Lib.hid hn
            clear hsd ha hn
            go_wp2_with fail
            refine (l1AddrOk_any m.fu m.fd _ (by omega) (by omega)).mono ?_
            rintro e w1 ⟨rfl, hb1⟩
            rw [HA1.out]
            have B1 := hb.trans (hb1.mono hz)
            have F1 := hf.later hb1
            obtain ⟨g0, g1, g2, g3⟩ := F1.cells
            go_wp2_with fail
            refine (l1Null_is m.fu m.fd true HN1.out _).mono ?_
            rintro e w2 ⟨rfl, hb2⟩
            have B2 := B1.trans (hb2.mono B1.size)
            obtain ⟨g0, g1, g2, g3⟩ := (F1.later hb2).cells
            go_wp2_with fail
            refine (l1In_any _ _ _ _).mono ?_
            rintro e w2 ⟨rfl, rfl⟩
            rw [HI.out]
            go_wp2
            go_ret
            exact ⟨ret_b hm.out.symm, B2⟩
        · have hm : Hid (mailB m = bodyB m.body) := Lib.hid (by rw [hmq]; rfl)
          clear hmq hIn
          rcases senderB_true hsd with ha | ⟨hn, ha⟩
          · have HA1 := Lib.hid ha
            clear hsd ha
            go_wp2_with fail
            refine (l1AddrOk_any m.fu m.fd _ (by omega) (by omega)).mono ?_
            rintro e w1 ⟨rfl, hb1⟩
            rw [HA1.out]
            have B1 := hb.trans (hb1.mono hz)
            obtain ⟨g0, g1, g2, g3⟩ := (hf.later hb1).cells
            go_wp2_with fail
            refine (l1In_any _ _ _ _).mono ?_
            rintro e w2 ⟨rfl, rfl⟩
            rw [HI.out]
            go_wp2_with fail
            refine (l2BodyOk_any a2 c2 m.body _ (HB.out.below B1 (Nat.le_refl _)) zb HBS.out).mono ?_
            rintro e w2 ⟨rfl, rfl⟩
            go_wp2
            go_ret
            exact ⟨ret_b hm.out.symm, B1⟩
          · have HA1 := Lib.hid ha
            have HN1 := Lib.hid hn
            clear hsd ha hn
            go_wp2_with fail
            refine (l1AddrOk_any m.fu m.fd _ (by omega) (by omega)).mono ?_
            rintro e w1 ⟨rfl, hb1⟩
            rw [HA1.out]
            have B1 := hb.trans (hb1.mono hz)
            have F1 := hf.later hb1
            obtain ⟨g0, g1, g2, g3⟩ := F1.cells
            go_wp2_with fail
            refine (l1Null_is m.fu m.fd true HN1.out _).mono ?_
            rintro e w2 ⟨rfl, hb2⟩
            have B2 := B1.trans (hb2.mono B1.size)
            obtain ⟨g0, g1, g2, g3⟩ := (F1.later hb2).cells
            go_wp2_with fail
            refine (l1In_any _ _ _ _).mono ?_
            rintro e w2 ⟨rfl, rfl⟩
            rw [HI.out]
            go_wp2_with fail
            refine (l2BodyOk_any a2 c2 m.body _ (HB.out.below B2 (Nat.le_refl _)) zb HBS.out).mono ?_
            rintro e w2 ⟨rfl, rfl⟩
            go_wp2
            go_ret
            exact ⟨ret_b hm.out.symm, B2⟩

theorem specMailOk_any (m : MailD) (a1 : Option Addr) (c1 : Nat) (a2 : Option Addr) (c2 : Nat) (w : World) (hat : MailAt w m a1 a2) (hsz : MailSz 1048576 m) :
    Calls Tryd.prog 52 #[.agg (mailV m a1 c1 a2 c2)] w fun e w' => e = .returned (.bool (mailB m)) ∧ Below w.heap.size w w' := by
  have HA := Lib.hid hat
  have HS := Lib.hid hsz
  clear hat hsz
  go_enter Tryd.func52, Tryd.ntmps52
  go_wp2_with fail
  refine (l2Ok_any m a1 c1 a2 c2 _ (HA.out.below ((Below.refl _ _).alloc (Nat.le_refl _) _) (Nat.le_refl _)) HS.out).mono ?_
  rintro e w1 ⟨rfl, hb1⟩
  have B1 := ((Below.refl w.heap.size w).alloc (Nat.le_refl _) (.cells (mailV m a1 c1 a2 c2) 59)).trans (hb1.mono (by simp))
  go_wp2
  go_ret
  exact ⟨rfl, B1⟩
end Go.Proofs.YtfacdiimoncnnaaDoor
