/- Contracts: whether a mail is ok, of the program. -/
import Derived.Test.YtfacdiimoncnnaaDoorMailOk
import Derived.Deep.RegionWith
namespace Go.Proofs.YtfacdiimoncnnaaDoor
open Go Go.RowKit

theorem PairRow.take {w : World} {ao : Option Addr} {ps : List Pair} (h : PairRow w ao ps) (k : Nat) : PairRow w ao (ps.take k) := by
  intro j p hp
  rw [List.getElem?_take] at hp
  split at hp
  · exact h j p hp
  · cases hp

def IndexPost (ps : List Pair) (p : Pair) (B : Nat) (w : World) (e : Ending) (w' : World) : Prop := ∃ n : Int, e = .returned (.int .i64 n) ∧ ((0 ≤ n ∧ p ∈ ps) ∨ (n = -1 ∧ p ∉ ps)) ∧ Below B w w'
theorem not_mem_take {α : Type} {ps : List α} {k : Nat} {p q : α} (hq : ps[k]? = some q) (h : p ∉ ps.take k) (hne : q ≠ p) : p ∉ ps.take (k + 1) := by
  obtain ⟨hk, e⟩ := List.getElem?_eq_some_iff.1 hq
  rw [List.take_succ_eq_append_getElem hk, e, List.mem_append, List.mem_singleton]
  rintro (h2 | h2)
  · exact h h2
  · exact hne h2.symm

set_option maxHeartbeats 800000 in
set_option maxRecDepth 100000 in
theorem indexP_any (ao : Option Addr) (cap : Nat) (ps : List Pair) (p : Pair) (w : World) (hr : PairRow w ao ps) (hl : ps.length ≤ 9223372036854775806) :
    Calls Tryd.prog 225 #[.slice ao ps.length cap, .agg #[.string p.1, .string p.2]] w (IndexPost ps p w.heap.size w) := by
  have HR := Lib.hid hr
  clear hr
  go_enter Tryd.func225, Tryd.ntmps225
  go_wp2
  go_loopw [8] (fun i wr => ∃ k : Nat, k ≤ ps.length ∧ i = .int .i64 k ∧ Hid (p ∉ ps.take k) ∧ wr.cell? ⟨w.heap.size, 0, none⟩ = some (.string p.1) ∧ wr.cell? ⟨w.heap.size, 1, none⟩ = some (.string p.2) ∧ Below w.heap.size w wr) (fun i _ => ps.length - (intOf i).toNat)
  case atStart => exact ⟨0, Nat.zero_le _, rfl, Lib.hid (by simp), by rw [World.cell?_alloc_new]; rfl, by rw [World.cell?_alloc_new]; rfl, (Below.refl _ _).alloc (Nat.le_refl _) _⟩
  case round =>
    obtain ⟨k, hk, rfl, HN, e0, e1, hb0⟩ := hrel
    by_cases hlt : k < ps.length
    · obtain ⟨q, hq⟩ : ∃ q, ps[k]? = some q := ⟨_, List.getElem?_eq_getElem hlt⟩
      obtain ⟨b, off, rfl, hc1, hc2⟩ := HR.out.below hb0 (Nat.le_refl _) k q hq
      have HQ := Lib.hid hq
      clear hq
      by_cases hqp : p = q
      · subst hqp
        have hmem := Lib.hid (List.mem_of_getElem? HQ.out)
        clear HN
        go_wp2_with fail
        go_quiet (fail)
        go_wp2
        go_ret
        exact ⟨_, rfl, .inl ⟨by omega, hmem.out⟩, drewN_below hb0 _⟩
      · have HN2 := Lib.hid (not_mem_take HQ.out HN.out (Ne.symm hqp))
        rcases pair_ne hqp with h1 | ⟨h1, h2⟩
        all_goals
          clear HN
          go_wp2_with fail
          go_quiet (fail)
          go_wp2
          exact ⟨⟨k + 1, by omega, by go_num, HN2, by simpa using e0, by simpa using e1, drewN_below hb0 _⟩, by simp [intOf]; omega⟩
    · obtain rfl : k = ps.length := by omega
      have HM := Lib.hid (show p ∉ ps by have := HN.out; rwa [List.take_length] at this)
      clear HN
      go_wp2
      go_ret
      exact ⟨-1, rfl, .inr ⟨rfl, HM.out⟩, hb0⟩

theorem containsP_is (ao : Option Addr) (cap : Nat) (ps : List Pair) (p : Pair) (v : Bool) (w : World) (hv : v = true ↔ p ∈ ps) (hr : PairRow w ao ps) (hl : ps.length ≤ 9223372036854775806) :
    Calls Tryd.prog 189 #[.slice ao ps.length cap, .agg #[.string p.1, .string p.2]] w fun e w' => e = .returned (.bool v) ∧ Below w.heap.size w w' := by
  have HR := Lib.hid hr
  have HV := Lib.hid hv
  clear hr hv
  go_enter Tryd.func189, Tryd.ntmps189
  go_wp2_with fail
  refine (indexP_any ao cap ps p _ (HR.out.later ((Below.refl _ _).alloc (Nat.le_refl _) _)) hl).mono ?_
  rintro e w1 ⟨n, rfl, hn, hb1⟩
  have B1 := ((Below.refl w.heap.size w).alloc (Nat.le_refl _) (.cells #[.string p.1, .string p.2] 56)).trans (hb1.mono (by simp))
  rcases hn with ⟨h0, hm⟩ | ⟨rfl, hm⟩
  · have hv : Hid (v = true) := Lib.hid (HV.out.2 hm)
    clear hm
    go_wp2
    go_ret
    exact ⟨ret_b hv.out.symm, B1⟩
  · have hv : Hid (v = false) := Lib.hid (by rw [← Bool.not_eq_true]; exact fun h => hm (HV.out.1 h))
    clear hm
    go_wp2
    go_ret
    exact ⟨ret_b hv.out.symm, B1⟩

theorem isSender_any (u d : ByteArray) (w : World) (hm : HasMax w) (hu : u.size ≤ 1048576) (hd : d.size ≤ 1048576) :
    Calls Tryd.prog 129 #[.agg #[.string u, .string d]] w fun e w' => e = .returned (.bool (senderB u d)) ∧ Below w.heap.size w w' := by
  have HM := Lib.hid (hm.below ((Below.refl w.heap.size w).alloc (Nat.le_refl _) (.cells #[.string u, .string d] 56)) (Nat.le_refl _))
  clear hm
  cases hn : nullB u d
  · have hq : Hid (senderB u d = addrB u d) := Lib.hid (by unfold senderB; rw [hn]; rfl)
    have HN := Lib.hid hn
    clear hn
    go_enter Tryd.func129, Tryd.ntmps129
    go_wp2_with fail
    refine (isNull_is u d false HN.out _).mono ?_
    rintro e w1 ⟨rfl, hb1⟩
    have c0 := hb1.cell (p := ⟨w.heap.size, 0, none⟩) (by simp)
    have c1 := hb1.cell (p := ⟨w.heap.size, 1, none⟩) (by simp)
    have B1 := ((Below.refl w.heap.size w).alloc (Nat.le_refl _) (.cells #[.string u, .string d] 56)).trans (hb1.mono (by simp))
    have HM1 := Lib.hid (HM.out.below hb1 (Nat.le_refl _))
    clear hb1
    go_wp2_with fail
    refine (implAddrOk_any u d _ HM1.out (by omega) (by omega)).mono ?_
    rintro e w2 ⟨rfl, hb2⟩
    have B2 := B1.trans (hb2.mono B1.size)
    go_wp2
    go_ret
    exact ⟨ret_b hq.out.symm, B2⟩
  · have hq : Hid (senderB u d = true) := Lib.hid (by unfold senderB; rw [hn]; rfl)
    have HN := Lib.hid hn
    clear hn
    go_enter Tryd.func129, Tryd.ntmps129
    go_wp2_with fail
    refine (isNull_is u d true HN.out _).mono ?_
    rintro e w1 ⟨rfl, hb1⟩
    have B1 := ((Below.refl w.heap.size w).alloc (Nat.le_refl _) (.cells #[.string u, .string d] 56)).trans (hb1.mono (by simp))
    go_wp2
    go_ret
    exact ⟨ret_b hq.out.symm, B1⟩

theorem contains_yes {b off cap : Nat} {ps : List Pair} {p : Pair} {w : World} (k : Nat) (hv : p ∈ ps.take k) (hr : PairRow w (some ⟨b, off, none⟩) ps) (hk : k ≤ ps.length) (hl : ps.length ≤ 1048576) :
    Calls Tryd.prog 189 #[.slice (some ⟨b, off, none⟩) k cap, .agg #[.string p.1, .string p.2]] w fun e w' => e = .returned (.bool true) ∧ Below w.heap.size w w' := by
  have h := containsP_is (some ⟨b, off, none⟩) cap (ps.take k) p true w ⟨fun _ => hv, fun _ => rfl⟩ (hr.take k) (by rw [List.length_take]; omega)
  rwa [List.length_take, Nat.min_eq_left hk] at h
theorem contains_no {b off cap : Nat} {ps : List Pair} {p : Pair} {w : World} (k : Nat) (hv : p ∉ ps.take k) (hr : PairRow w (some ⟨b, off, none⟩) ps) (hk : k ≤ ps.length) (hl : ps.length ≤ 1048576) :
    Calls Tryd.prog 189 #[.slice (some ⟨b, off, none⟩) k cap, .agg #[.string p.1, .string p.2]] w fun e w' => e = .returned (.bool false) ∧ Below w.heap.size w w' := by
  have h := containsP_is (some ⟨b, off, none⟩) cap (ps.take k) p false w ⟨(fun h => by cases h), fun h => absurd h hv⟩ (hr.take k) (by rw [List.length_take]; omega)
  rwa [List.length_take, Nat.min_eq_left hk] at h
theorem toB_new {ps : List Pair} {k : Nat} {p : Pair} (hp : ps[k]? = some p) (hm : p ∈ ps.take k) : toB ps = false := by
  obtain ⟨j, hj⟩ := List.getElem?_of_mem hm
  rw [List.getElem?_take] at hj
  split at hj
  · exact toB_twice hp hj (by assumption)
  · cases hj
theorem nodup_new {ps : List Pair} {k : Nat} {p : Pair} (hp : ps[k]? = some p) (h : (ps.take k).Nodup) (hm : p ∉ ps.take k) : (ps.take (k + 1)).Nodup :=
  nodup_succ hp h fun j hj e => hm (List.mem_of_getElem? (i := j) (by rw [List.getElem?_take, if_pos hj]; exact e))

set_option maxHeartbeats 2000000 in
set_option maxRecDepth 100000 in
theorem areRecipients_any (ao : Option Addr) (cap : Nat) (ps : List Pair) (w : World) (hm : HasMax w) (hr : PairRow w ao ps) (hl : ps.length ≤ 1048576) (hcap : ps.length ≤ cap) (hs : ∀ p ∈ ps, p.1.size ≤ 1048576 ∧ p.2.size ≤ 1048576) :
    Calls Tryd.prog 130 #[.slice ao ps.length cap] w fun e w' => e = .returned (.bool (toB ps)) ∧ Below w.heap.size w w' := by
  have HR := Lib.hid hr
  have HS := Lib.hid hs
  have HM := Lib.hid hm
  clear hr hs hm
  by_cases h1 : ps.length < 1
  · have hq : Hid (toB ps = false) := Lib.hid (toB_size (by omega))
    go_enter Tryd.func130, Tryd.ntmps130
    go_wp2
    go_ret
    exact ⟨ret_b hq.out.symm, Below.refl _ _⟩
  by_cases h4 : 4 < ps.length
  · have hq : Hid (toB ps = false) := Lib.hid (toB_size (by omega))
    go_enter Tryd.func130, Tryd.ntmps130
    go_wp2
    go_ret
    exact ⟨ret_b hq.out.symm, Below.refl _ _⟩
  go_enter Tryd.func130, Tryd.ntmps130
  go_wp2
  go_loopw [15] (fun i wr => ∃ k : Nat, k ≤ ps.length ∧ i = .int .i64 k ∧ Hid ((ps.take k).all pairB = true) ∧ Hid ((ps.take k).Nodup) ∧ Below w.heap.size w wr) (fun i _ => ps.length - (intOf i).toNat)
  case atStart => exact ⟨0, Nat.zero_le _, rfl, Lib.hid (by simp), Lib.hid (by simp), Below.refl _ _⟩
  case round =>
    obtain ⟨k, hk, rfl, HA, HN, hb⟩ := hrel
    have hz := hb.size
    by_cases hlt : k < ps.length
    · obtain ⟨p, hp⟩ : ∃ p, ps[k]? = some p := ⟨_, List.getElem?_eq_getElem hlt⟩
      obtain ⟨b, off, rfl, hc1, hc2⟩ := (HR.out.below hb (Nat.le_refl _)) k p hp
      obtain ⟨s1, s2⟩ := HS.out p (List.mem_of_getElem? hp)
      have HP := Lib.hid hp
      clear hp
      have bw : Below w.heap.size w (wr.alloc (.cells #[.string p.1, .string p.2] 56)).drew := (hb.alloc hz _).drew
      have zw : w.heap.size ≤ (wr.alloc (.cells #[.string p.1, .string p.2] 56)).drew.heap.size := bw.size
      have HM2 := Lib.hid (HM.out.below bw (Nat.le_refl _))
      cases hpb : pairB p
      · have hq : Hid (toB ps = false) := Lib.hid (toB_miss HP.out hpb)
        have HPB : Hid (addrB p.1 p.2 = false) := Lib.hid hpb
        clear hpb
        go_wp2_with fail
        clear hc1 hc2
        first | (go_region_with (go_at_call 137; refine (implAddrOk_any p.1 p.2 _ HM2.out (by omega) (by omega)).mono ?_; rintro e w1 ⟨rfl, hb1⟩; rw [HPB.out])) | fail
        all_goals
          simp only [Act.put, List.getElem_toArray, List.getElem_cons_succ, List.getElem_cons_zero, List.setIfInBounds_toArray, List.set_cons_zero, List.set_cons_succ]
          have B1 := bw.trans (hb1.mono zw)
          go_wp2
          go_ret
          exact ⟨ret_b hq.out.symm, B1⟩
      · have HPB : Hid (addrB p.1 p.2 = true) := Lib.hid hpb
        have HPP := Lib.hid hpb
        have hlk : k ≤ cap := by omega
        clear hpb
        by_cases hmem : p ∈ ps.take k
        · have hq : Hid (toB ps = false) := Lib.hid (toB_new HP.out hmem)
          have HV := Lib.hid hmem
          clear hmem
          go_wp2_with fail
          clear hc1 hc2
          go_region_with (first | (go_at_call 137; refine (implAddrOk_any p.1 p.2 _ HM2.out (by omega) (by omega)).mono ?_; rintro e w1 ⟨rfl, hb1⟩; rw [HPB.out]; obtain ⟨cc, cf⟩ := bcell hb1; have B1 := bw.trans (hb1.mono zw)) | (go_at_call 189; refine (contains_yes k HV.out (HR.out.below B1 (Nat.le_refl _)) (by omega) (by omega)).mono ?_; rintro e w2 ⟨rfl, hb2⟩))
          have B2 := B1.trans (hb2.mono B1.size)
          go_wp2
          go_ret
          exact ⟨ret_b hq.out.symm, B2⟩
        · have HA2 := Lib.hid (list_all_succ HP.out HA.out HPP.out)
          have HN2 := Lib.hid (nodup_new HP.out HN.out hmem)
          have HV := Lib.hid hmem
          clear hmem
          go_wp2_with fail
          clear hc1 hc2
          go_region_with (first | (go_at_call 137; refine (implAddrOk_any p.1 p.2 _ HM2.out (by omega) (by omega)).mono ?_; rintro e w1 ⟨rfl, hb1⟩; rw [HPB.out]; obtain ⟨cc, cf⟩ := bcell hb1; have B1 := bw.trans (hb1.mono zw)) | (go_at_call 189; refine (contains_no k HV.out (HR.out.below B1 (Nat.le_refl _)) (by omega) (by omega)).mono ?_; rintro e w2 ⟨rfl, hb2⟩))
          have B2 := B1.trans (hb2.mono B1.size)
          clear cc cf
          go_wp2
          go_roundw
          case rel => exact ⟨k + 1, by omega, by go_num, HA2, HN2, B2⟩
          case measure => simp [intOf]; omega
    · obtain rfl : k = ps.length := by omega
      have hq : Hid (toB ps = true) := Lib.hid ((toB_end (Nat.le_refl _) HA.out HN.out).trans (decide_eq_true (by omega)))
      go_wp2
      go_ret
      exact ⟨ret_b hq.out.symm, hb⟩

theorem mailB_from {m : MailD} (h : senderB m.fu m.fd = false) : mailB m = false := by unfold mailB; rw [h]; rfl
theorem mailB_body {m : MailD} (h1 : senderB m.fu m.fd = true) (h2 : toB m.rc = true) : mailB m = bodyB m.body := by unfold mailB; rw [h1, h2]; rfl

set_option maxHeartbeats 800000 in
set_option maxRecDepth 100000 in
theorem implMailOk_any (m : MailD) (a1 : Option Addr) (c1 : Nat) (a2 : Option Addr) (c2 : Nat) (w : World) (hm : HasMax w) (hat : MailAt w m a1 a2) (hsz : MailSz 1048576 m) (hcap : m.rc.length ≤ c1) :
    Calls Tryd.prog 49 #[.agg (mailV m a1 c1 a2 c2)] w fun e w' => e = .returned (.bool (mailB m)) ∧ Below w.heap.size w w' := by
  have hb0 : Below w.heap.size w (w.alloc (.cells (mailV m a1 c1 a2 c2) 59)) := (Below.refl _ _).alloc (Nat.le_refl _) _
  have HM := Lib.hid (hm.below hb0 (Nat.le_refl _))
  have HAT := Lib.hid hat
  have HS := Lib.hid hsz
  have z1 := hsz.rcl
  have z2 := hsz.fu
  have z3 := hsz.fd
  have HBS : Hid (∀ x ∈ m.body, x.size ≤ maxLen) := Lib.hid fun x hx => Nat.le_trans (HS.out.bos x hx) (by unfold maxLen; omega)
  have zb : m.body.length ≤ maxLen := Nat.le_trans HS.out.bol (by unfold maxLen; omega)
  have hf := FourAt.new w (.string m.fu) (.string m.fd) (.slice a1 m.rc.length c1) (.slice a2 m.body.length c2) 59
  have HF := Lib.hid hf
  clear hm hat hsz hf
  cases hsd : senderB m.fu m.fd
  · have hq := Lib.hid (mailB_from hsd)
    have H1 := Lib.hid hsd
    clear hsd
    go_enter Tryd.func49, Tryd.ntmps49
    go_wp2_with fail
    refine (isSender_any m.fu m.fd _ HM.out z2 z3).mono ?_
    rintro e w1 ⟨rfl, hb1⟩
    rw [H1.out]
    have B1 := hb0.trans (hb1.mono (by simp))
    go_wp2
    go_ret
    exact ⟨ret_b hq.out.symm, B1⟩
  · cases hto : toB m.rc
    · have hq := Lib.hid (mailB_to hto)
      have H1 := Lib.hid hsd
      have H2 := Lib.hid hto
      clear hsd hto
      go_enter Tryd.func49, Tryd.ntmps49
      go_wp2_with fail
      refine (isSender_any m.fu m.fd _ HM.out z2 z3).mono ?_
      rintro e w1 ⟨rfl, hb1⟩
      rw [H1.out]
      have B1 := hb0.trans (hb1.mono (by simp))
      have HM1 := Lib.hid (HM.out.below hb1 (Nat.le_refl _))
      obtain ⟨g0, g1, g2, g3⟩ := (HF.out.later hb1).cells
      go_wp2_with fail
      refine (areRecipients_any a1 c1 m.rc _ HM1.out (HAT.out.rc.below B1 (Nat.le_refl _)) z1 hcap HS.out.rcs).mono ?_
      rintro e w2 ⟨rfl, hb2⟩
      rw [H2.out]
      have B2 := B1.trans (hb2.mono B1.size)
      go_wp2
      go_ret
      exact ⟨ret_b hq.out.symm, B2⟩
    · have hq := Lib.hid (mailB_body hsd hto)
      have H1 := Lib.hid hsd
      have H2 := Lib.hid hto
      clear hsd hto
      go_enter Tryd.func49, Tryd.ntmps49
      go_wp2_with fail
      refine (isSender_any m.fu m.fd _ HM.out z2 z3).mono ?_
      rintro e w1 ⟨rfl, hb1⟩
      rw [H1.out]
      have B1 := hb0.trans (hb1.mono (by simp))
      have HM1 := Lib.hid (HM.out.below hb1 (Nat.le_refl _))
      have HF1 := Lib.hid (HF.out.later hb1)
      obtain ⟨g0, g1, g2, g3⟩ := HF1.out.cells
      go_wp2_with fail
      refine (areRecipients_any a1 c1 m.rc _ HM1.out (HAT.out.rc.below B1 (Nat.le_refl _)) z1 hcap HS.out.rcs).mono ?_
      rintro e w2 ⟨rfl, hb2⟩
      rw [H2.out]
      have B2 := B1.trans (hb2.mono B1.size)
      obtain ⟨g0, g1, g2, g3⟩ := (HF1.out.later hb2).cells
      go_wp2_with fail
      refine (isBody_any a2 c2 m.body _ (HAT.out.body.below B2 (Nat.le_refl _)) zb HBS.out).mono ?_
      rintro e w3 ⟨rfl, rfl⟩
      go_wp2
      go_ret
      exact ⟨ret_b hq.out.symm, B2⟩
end Go.Proofs.YtfacdiimoncnnaaDoor
