/- Contracts: a mail as it is written, of the model and of the program. -/
import Derived.Test.YtcaknjdolfheaaaDoorMails
import Derived.Test.YtcaknjdolfheaaaDoorPlains
import Derived.Test.YtcaknjdolfheaaaDoorWrites
import Derived.Test.YtcaknjdolfheaaaDoorAddrs
namespace Go.Proofs.YtcaknjdolfheaaaDoor
open Go Go.RowKit

theorem data_size (o : ByteArray) : o.data.toList.length = o.size := by simp

set_option maxHeartbeats 800000 in
set_option maxRecDepth 100000 in
theorem l2Put_any (m : MailD) (a1 : Option Addr) (c1 : Nat) (a2 : Option Addr) (c2 : Nat) (w : World) (hat : MailAt w m a1 a2) (hsz : MailSz 1048576 m) (hok : mailB m = true) :
    Calls Tryd.prog 85 #[.agg (mailV m a1 c1 a2 c2)] w fun e w' => e = .returned (.string ⟨(mailL m).toArray⟩) ∧ Below w.heap.size w w' := by
  have b0 : Below w.heap.size w (w.alloc (.cells (mailV m a1 c1 a2 c2) 61)) := (Below.refl _ _).alloc (Nat.le_refl _) _
  have HF := Lib.hid (FourAt.new w (.string m.fu) (.string m.fd) (.slice a1 m.rc.length c1) (.slice a2 m.body.length c2) 61)
  obtain ⟨q1, q2, q3, q4⟩ := mailB_parts hok
  have HT := Lib.hid hat.rc
  have HB := Lib.hid hat.body
  have HS := Lib.hid hsz
  have Q3 := Lib.hid q3
  have Q4 := Lib.hid q4
  have z1 := hsz.fu
  have z2 := hsz.fd
  have HPF := Lib.hid (l1PutB_sender q1)
  have zp := putB_size m.fu m.fd
  obtain ⟨pf, hpf⟩ : ∃ p, putB m.fu m.fd = p := ⟨_, rfl⟩
  rw [hpf] at zp
  have HPf := Lib.hid hpf
  clear hat hsz hok q1 q3 q4 hpf
  go_enter Tryd.func85, Tryd.ntmps85
  go_wp2_with fail
  refine (l1Put_any m.fu m.fd _ z1 z2).mono ?_
  rintro e w1 ⟨rfl, hb1⟩
  rw [HPF.out, HPf.out]
  have B1 := b0.trans (hb1.mono b0.size)
  have F1 := HF.out.later hb1
  have HH0 : Hid (((({ data := #[102, 114, 111, 109, 32] } : ByteArray) ++ pf) ++ ({ data := #[13, 10] } : ByteArray)).data.toList = headL m 0) := Lib.hid (by rw [headL_zero]; unfold fromL; rw [HPf.out]; simp)
  have hs0 : ((({ data := #[102, 114, 111, 109, 32] } : ByteArray) ++ pf) ++ ({ data := #[13, 10] } : ByteArray)).size ≤ 2097200 * (0 + 1) := by
    simp only [ByteArray.size_append]
    show 5 + pf.size + 2 ≤ _; omega
  clear hb1 b0
  go_wp2
  go_loopw [3, 4] (fun v i wr => ∃ (k : Nat) (o : ByteArray), k ≤ m.rc.length ∧ i = .int .i64 k ∧ v = .string o ∧ o.size ≤ 2097200 * (k + 1) ∧ Hid (o.data.toList = headL m k) ∧ Below w.heap.size w wr ∧ FourAt wr w.heap.size (.string m.fu) (.string m.fd) (.slice a1 m.rc.length c1) (.slice a2 m.body.length c2)) (fun _ i _ => m.rc.length - (intOf i).toNat)
  case atStart => exact ⟨0, _, Nat.zero_le _, rfl, rfl, hs0, HH0, B1, F1⟩
  case round =>
    clear B1 F1 hs0 HH0
    obtain ⟨k, o, hk, rfl, rfl, ho, HO, hb, hf⟩ := hrel
    have hz := hb.size
    obtain ⟨g0, g1, g2, g3⟩ := hf.cells
    by_cases hlt : k < m.rc.length
    · obtain ⟨p, hp⟩ : ∃ p, m.rc[k]? = some p := ⟨_, List.getElem?_eq_getElem hlt⟩
      obtain ⟨b, off, rfl, hc1, hc2⟩ := (HT.out.below hb (Nat.le_refl _)) k p hp
      have hmem := List.mem_of_getElem? hp
      obtain ⟨s1, s2⟩ := HS.out.rcs p hmem
      have HPP := Lib.hid (l1PutB_addr (Q3.out p hmem))
      have zq := putB_size p.1 p.2
      obtain ⟨pp, hpp⟩ : ∃ q, putB p.1 p.2 = q := ⟨_, rfl⟩
      rw [hpp] at zq
      have HPq := Lib.hid hpp
      have HN : Hid (((o ++ ({ data := #[116, 111, 32] } : ByteArray)) ++ pp ++ ({ data := #[13, 10] } : ByteArray)).data.toList = headL m (k + 1)) := Lib.hid (by
        rw [headL_snoc hp]; unfold toL; rw [hpp, ← HO.out]; simp)
      have hs1 : ((o ++ ({ data := #[116, 111, 32] } : ByteArray)) ++ pp ++ ({ data := #[13, 10] } : ByteArray)).size ≤ 2097200 * (k + 1 + 1) := by
        simp only [ByteArray.size_append]
        show o.size + 3 + pp.size + 2 ≤ _; omega
      clear hp hpp hmem HO
      go_wp2_with fail
      refine (l1Put_any p.1 p.2 _ s1 s2).mono ?_
      rintro e w2 ⟨rfl, hb2⟩
      rw [HPP.out, HPq.out]
      have B2 := hb.trans (hb2.mono hz)
      have F2 := hf.later hb2
      clear hb2 hb hf g0 g1 g2 g3 hc1 hc2
      go_wp2
      go_roundw
      case rel => exact ⟨k + 1, _, by omega, by go_num, rfl, hs1, HN, B2, F2⟩
      case measure => simp [intOf]; omega
    · obtain rfl : k = m.rc.length := by omega
      obtain ⟨y1, y2⟩ := bodyB_bounds Q4.out
      have hm : Hid ((o ++ ({ data := #[13, 10] } : ByteArray)) ++ (⟨(dotsAll m.body).toArray⟩ : ByteArray) = ⟨(mailL m).toArray⟩) := Lib.hid (str_eq (by unfold mailL; simp [← HO.out]))
      have hds : (⟨(dotsAll m.body).toArray⟩ : ByteArray).size ≤ 1000 := by
        have h1 := dotsL_length (xs := m.body) y2
        show (dotsAll m.body).toArray.size ≤ 1000
        unfold dotsAll
        simp only [List.size_toArray, List.length_append, List.length_cons, List.length_nil]
        omega
      clear HO
      go_wp2_with fail
      refine (l2Dots_any a2 c2 m.body _ (HB.out.below hb (Nat.le_refl _)) y1 y2).mono ?_
      rintro e w2 ⟨rfl, rfl⟩
      generalize (⟨(dotsAll m.body).toArray⟩ : ByteArray) = D at hm hds
      go_wp2
      go_ret
      exact ⟨ret_s hm.out, hb⟩

end Go.Proofs.YtcaknjdolfheaaaDoor
