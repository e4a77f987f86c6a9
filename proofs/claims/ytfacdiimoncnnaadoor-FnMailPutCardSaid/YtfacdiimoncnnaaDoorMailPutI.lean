/- Contracts: a mail as it is written, of the program. -/
import Derived.Test.YtfacdiimoncnnaaDoorMailPut
namespace Go.Proofs.YtfacdiimoncnnaaDoor
open Go Go.RowKit

theorem Holds.later {B b : Nat} {l : List UInt8} {w w' : World} (h : Holds B b l w) (hb : Below w.heap.size w w') : Holds B b l w' := by
  rcases h with h | h
  · have hlt := h.lt
    obtain ⟨hB, v, hbk, hown, hne⟩ := h
    exact .inl ⟨hB, v, (hb.block b hlt).trans hbk, own_later hown hb, hne⟩
  · have hlt := h.lt
    obtain ⟨hB, v, hbk, hown, hne⟩ := h
    exact .inr ⟨hB, v, (hb.block b hlt).trans hbk, own_later hown hb, hne⟩
theorem FourAt.under {B : Nat} {w w' : World} {k : Nat} {x0 x1 x2 x3 : Value} (h : FourAt w k x0 x1 x2 x3) (hb : Below B w w') (hk : k < B) : FourAt w' k x0 x1 x2 x3 :=
  ⟨(hb.cell (p := ⟨k, 0, none⟩) hk).trans h.c0, (hb.cell (p := ⟨k, 1, none⟩) hk).trans h.c1, (hb.cell (p := ⟨k, 2, none⟩) hk).trans h.c2, (hb.cell (p := ⟨k, 3, none⟩) hk).trans h.c3⟩
theorem holds_eq {B b : Nat} {l l' : List UInt8} {w : World} (h : Holds B b l w) (e : l = l') : Holds B b l' w := e ▸ h
theorem mailL_ne (m : MailD) : mailL m ≠ [] := by unfold mailL; simp

set_option maxHeartbeats 1600000 in
set_option maxRecDepth 100000 in
theorem implMailPut_any (m : MailD) (a1 : Option Addr) (c1 : Nat) (a2 : Option Addr) (c2 : Nat) (w : World) (hm : HasMax w) (hat : MailAt w m a1 a2) (hsz : MailSz 1048576 m) (hcap : m.rc.length ≤ c1) :
    Calls Tryd.prog 48 #[.agg (mailV m a1 c1 a2 c2)] w fun e w' => e = .returned (.string (mailPutB m)) ∧ Below w.heap.size w w' := by
  have b0 : Below w.heap.size w (w.alloc (.cells (mailV m a1 c1 a2 c2) 59)) := (Below.refl _ _).alloc (Nat.le_refl _) _
  have HF := Lib.hid (FourAt.new w (.string m.fu) (.string m.fd) (.slice a1 m.rc.length c1) (.slice a2 m.body.length c2) 59)
  have HM := Lib.hid hm
  have HM0 := Lib.hid (hm.below b0 (Nat.le_refl _))
  have HA := Lib.hid hat
  have HA0 := Lib.hid (hat.below b0 (Nat.le_refl _))
  have HS := Lib.hid hsz
  have z1 := hsz.fu
  have z2 := hsz.fd
  clear hat hsz hm
  cases hok : mailB m
  · have hq := Lib.hid (mailPutB_no hok)
    have HK := Lib.hid hok
    clear hok
    go_enter Tryd.func48, Tryd.ntmps48
    go_wp2_with fail
    refine (implMailOk_any m a1 c1 a2 c2 _ HM0.out HA0.out HS.out hcap).mono ?_
    rintro e w1 ⟨rfl, hb1⟩
    rw [HK.out]
    have B1 := b0.trans (hb1.mono b0.size)
    go_wp2
    go_ret
    exact ⟨ret_s hq.out.symm, B1⟩
  have hq := Lib.hid (mailPutB_yes hok)
  have HK := Lib.hid hok
  obtain ⟨q1, q2, q3, q4⟩ := mailB_parts hok
  have Q4 := Lib.hid q4
  have zp := putB_size m.fu m.fd
  obtain ⟨pf, hpf⟩ : ∃ p, putB m.fu m.fd = p := ⟨_, rfl⟩
  rw [hpf] at zp
  have HPf := Lib.hid hpf
  clear hok q1 q3 q4 hpf
  go_enter Tryd.func48, Tryd.ntmps48
  go_wp2_with fail
  refine (implMailOk_any m a1 c1 a2 c2 _ HM0.out HA0.out HS.out hcap).mono ?_
  rintro e w1 ⟨rfl, hb1⟩
  rw [HK.out]
  have B1 := b0.trans (hb1.mono b0.size)
  have F1 := HF.out.later hb1
  have hlt1 : w.heap.size < w1.heap.size := World.block_lt_of_cell? w1 _ F1.c0
  have bw : Below w1.heap.size w1 (w1.alloc (.cells #[.pointer none, .slice none 0 0] 146)) := (Below.refl _ _).alloc (Nat.le_refl _) _
  have BW := B1.trans (bw.mono B1.size)
  have HMW := Lib.hid (HM.out.below BW (Nat.le_refl _))
  have HH := Lib.hid (Lib.fresh_isBuilder 146 5 w1)
  obtain ⟨g0, g1, g2, g3⟩ := (F1.later bw).cells
  clear hb1 b0
  go_wp2_with fail
  refine (implAddrPut_any m.fu m.fd _ HMW.out z1 z2).mono ?_
  rintro e w2 ⟨rfl, hb2⟩
  rw [HPf.out]
  have H2 := Lib.hid (Holds.later (B := w1.heap.size) (b := w1.heap.size) (l := []) HH.out hb2)
  have b2 := bw.trans (hb2.mono bw.size)
  have s2 := b2.size
  clear hb2 g0 g1 g2 g3
  have hsf : (({ data := #[102, 114, 111, 109, 32] } : ByteArray) ++ pf).size ≤ 2097190 := by
    rw [ByteArray.size_append]; show 5 + pf.size ≤ _; omega
  have HE : Hid ([] ++ (({ data := #[102, 114, 111, 109, 32] } : ByteArray) ++ pf).data.toList ++ [13, 10] = headL m 0) := Lib.hid (by rw [headL_zero]; unfold fromL; rw [HPf.out]; simp)
  go_wp2_with fail
  refine (line_any w1.heap.size w1.heap.size [] _ _ H2.out (by simp only [List.length_nil]; omega) s2).mono ?_
  rintro e w3 ⟨rfl, h3, hb3⟩
  have H3 := Lib.hid (holds_eq h3 HE.out)
  have B3 := Lib.hid (b2.trans hb3)
  obtain ⟨g0, g1, g2, g3⟩ := (F1.under B3.out hlt1).cells
  have hl0 : (headL m 0).length ≤ 2097200 * (0 + 1) := by
    rw [← HE.out]; simp only [List.length_append, List.length_cons, List.length_nil, data_size]; omega
  clear h3 hb3 b2
  go_wp2
  go_loopw [17] (fun i wr => ∃ k : Nat, k ≤ m.rc.length ∧ i = .int .i64 k ∧ Hid (Holds w1.heap.size w1.heap.size (headL m k) wr) ∧ (headL m k).length ≤ 2097200 * (k + 1) ∧ Below w1.heap.size w1 wr) (fun i _ => m.rc.length - (intOf i).toNat)
  case atStart => exact ⟨0, Nat.zero_le _, rfl, H3, hl0, B3.out⟩
  case round =>
    clear g0 g1 g2 g3 hl0
    obtain ⟨k, hk, rfl, HO, hl, hb⟩ := hrel
    have hz := hb.size
    have BR := B1.trans (hb.mono B1.size)
    by_cases hlt : k < m.rc.length
    · obtain ⟨p, hp⟩ : ∃ p, m.rc[k]? = some p := ⟨_, List.getElem?_eq_getElem hlt⟩
      obtain ⟨b, off, rfl, hc1, hc2⟩ := (HA.out.rc.below BR (Nat.le_refl _)) k p hp
      obtain ⟨s1, s2'⟩ := HS.out.rcs p (List.mem_of_getElem? hp)
      have zq := putB_size p.1 p.2
      obtain ⟨pp, hpp⟩ : ∃ q, putB p.1 p.2 = q := ⟨_, rfl⟩
      rw [hpp] at zq
      have HPq := Lib.hid hpp
      have HN : Hid (headL m k ++ (({ data := #[116, 111, 32] } : ByteArray) ++ pp).data.toList ++ [13, 10] = headL m (k + 1)) := Lib.hid (by rw [headL_snoc hp]; unfold toL; rw [hpp]; simp)
      have hsp : (({ data := #[116, 111, 32] } : ByteArray) ++ pp).size ≤ 2097190 := by
        rw [ByteArray.size_append]; show 3 + pp.size ≤ _; omega
      have ba : Below wr.heap.size wr (wr.alloc (.cells #[.string p.1, .string p.2] 56)) := (Below.refl _ _).alloc (Nat.le_refl _) _
      have HMA := Lib.hid (HM.out.below (BR.trans (ba.mono BR.size)) (Nat.le_refl _))
      have HOA := Lib.hid (HO.out.later ba)
      have ba2 := hb.trans (ba.mono hz)
      clear hp hpp HO ba
      go_wp2_with fail
      refine (implAddrPut_any p.1 p.2 _ HMA.out s1 s2').mono ?_
      rintro e w4 ⟨rfl, hb4⟩
      rw [HPq.out]
      have H4 := Lib.hid (HOA.out.later hb4)
      have b4 := ba2.trans (hb4.mono ba2.size)
      have s4 := b4.size
      clear hb4 hc1 hc2 HOA
      go_wp2_with fail
      refine (line_any w1.heap.size w1.heap.size (headL m k) _ _ H4.out (by omega) s4).mono ?_
      rintro e w5 ⟨rfl, h5, hb5⟩
      have H5 := Lib.hid (holds_eq h5 HN.out)
      have b5 := b4.trans hb5
      have hl5 : (headL m (k + 1)).length ≤ 2097200 * (k + 1 + 1) := by
        rw [← HN.out]; simp only [List.length_append, List.length_cons, List.length_nil, data_size]; omega
      clear h5 hb5 b4 H4
      go_wp2
      go_roundw
      case rel => exact ⟨k + 1, by omega, by go_num, H5, hl5, b5⟩
      case measure => simp [intOf]; omega
    · obtain rfl : k = m.rc.length := by omega
      obtain ⟨y1, y2⟩ := bodyB_bounds Q4.out
      have HY := Lib.hid y2
      clear y2
      have hfin : Hid ((headL m m.rc.length ++ ({ data := #[] } : ByteArray).data.toList ++ [13, 10]) ++ dotsAll m.body = mailL m) := Lib.hid (by unfold mailL; simp)
      go_wp2_with fail
      refine (line_any w1.heap.size w1.heap.size _ _ _ HO.out (by show _ + 0 ≤ _; omega) hz).mono ?_
      rintro e w4 ⟨rfl, h4, hb4⟩
      have H4 := Lib.hid h4
      have b4 := hb.trans hb4
      have s4 := b4.size
      have B4 := B1.trans (b4.mono B1.size)
      have hl4 : (headL m m.rc.length ++ ({ data := #[] } : ByteArray).data.toList ++ [13, 10]).length ≤ 10486010 := by
        simp only [List.length_append, List.length_cons, List.length_nil]
        show _ + 0 + 2 ≤ _; omega
      obtain ⟨g0, g1, g2, g3⟩ := (F1.under b4 hlt1).cells
      have HAB := Lib.hid (HA.out.body.below B4 (Nat.le_refl _))
      have HLT : Hid (∀ a, m.body ≠ [] → a2 = some a → a.block < w1.heap.size) := Lib.hid fun a h0 e => Nat.lt_trans (HA.out.body.lt a h0 e) hlt1
      clear h4 hb4
      go_wp2_with fail
      refine (body_any a2 c2 w1.heap.size w1.heap.size _ m.body _ HAB.out HLT.out y1 HY.out (by omega) H4.out s4).mono ?_
      rintro e w5 ⟨rfl, h5, hb5⟩
      have H5 := Lib.hid (holds_eq h5 hfin.out)
      have b5 := b4.trans hb5
      clear h5 hb5 g0 g1 g2 g3
      go_wp2_with fail
      refine (string_any w1.heap.size w1.heap.size _ _ H5.out (mailL_ne m)).mono ?_
      rintro e w6 ⟨rfl, hb6⟩
      have B6 := B1.trans ((b5.trans hb6).mono B1.size)
      go_wp2
      go_ret
      exact ⟨ret_s hq.out.symm, B6⟩
end Go.Proofs.YtfacdiimoncnnaaDoor
