/- The walk of FnMailPut. -/
import Derived.Test.YtfacdiimoncnnaaDoorDrawAnyMail
import Derived.Test.YtfacdiimoncnnaaDoorWMailGetFn
import Derived.Deep.RegionHeld3
namespace Go.Proofs.YtfacdiimoncnnaaDoor
open Go Go.RowKit

set_option maxHeartbeats 1600000 in
set_option maxRecDepth 100000 in
theorem drawMailPut_any (ao : Option Addr) (len cap : Nat) (w : World) (hr : ByteRow w ao len) (hl : len ≤ cap) (hc : cap ≤ maxLen) :
    Calls Tryd.prog 50 #[.slice ao len cap] w fun e w' => ∃ m a1 c1 a2 c2, e = .returned (.agg (mailV m a1 c1 a2 c2)) ∧ MailOwn w' w.heap.size m a1 c1 a2 c2 ∧ Drawn m ∧ Below w.heap.size w w' := by
  have S0 : Seal _ := ⟨(St.start w).alloc #[.string { data := #[] }, .string { data := #[] }, .slice none 0 0, .slice none 0 0] 59⟩
  have C : Seal _ := ⟨l20Open_any ao len cap _ (hr.below S0.out.below (Nat.le_refl _)) hl hc⟩
  clear hr hl hc
  go_enter Tryd.func50, Tryd.ntmps50
  go_wp2_with fail
  refine C.out.mono ?_
  rintro e w1 ⟨b, rfl, h1, b1⟩
  have S1 : Seal _ := ⟨S0.out.later b1⟩
  have hbl := h1.lt
  have H1 : Seal _ := ⟨h1⟩
  clear h1 b1 S0 C
  go_wp2_with fail
  refine (l20AnyMail_any _ b 0 w1 H1.out (by omega)).mono ?_
  rintro e w2 ⟨m, a1, c1, a2, c2, rfl, o2, hd, h2, g2⟩
  have hX : Only (fun i => (w.alloc (.cells #[.string { data := #[] }, .string { data := #[] }, .slice none 0 0, .slice none 0 0] 59)).heap.size ≤ i) w1 w2 := Only.of_grown g2 (fun g e => by have := Option.some.inj e; omega)
  have K1 := S1.out.head
  have K2 : CellsM w2 w.heap.size noMailV := K1.kept g2 (fun e => by have := Option.some.inj e; simp at hbl; omega)
  have B2 : Seal (Below w.heap.size w w2) := ⟨S1.out.below.grown g2 S1.out.size (fun k e => by have := Option.some.inj e; simp at hbl; omega)⟩
  obtain ⟨r0, r1, r2, r3, g0, g1, g2', g3⟩ := cells_two K2
  have hs2 := g2.size
  have hs1 := S1.out.size
  have O2 : Seal (MailOwn w2 w1.heap.size m a1 c1 a2 c2) := ⟨o2⟩
  have HD : Seal _ := ⟨hd⟩
  have hlt := K1.lt
  clear hX K1 K2 g2 o2 hd h2
  go_wp2
  refine bodyPost_ret (v := .agg (mailV m a1 c1 a2 c2)) (by simp [results, Tryd.results50, go_sem, r0, r1, r2, r3]) rfl ⟨m, a1, c1, a2, c2, rfl, ?_, HD.out, ?_⟩
  · refine (?_ : MailOwn _ w1.heap.size m a1 c1 a2 c2).base (by omega)
    iterate 4 (refine MailOwn.low ?_ (by omega) _ _)
    exact O2.out
  · iterate 4 (refine Below.setCell ?_ (by simp) _)
    exact B2.out

theorem put_nonempty {m : MailD} (h : mailB m = true) : ¬ (mailPutB m).toList = [] := by
  rw [mailPutB_yes h, Lib.toList_data]
  show ¬ mailL m = []
  unfold mailL headL fromL
  simp

set_option maxHeartbeats 4800000 in
set_option maxRecDepth 100000 in
theorem wFnMailPut.walk (ao : Option Addr) (len cap : Nat) (w : World) (hr : ByteRow w ao len) (hl : len ≤ cap) (hc : cap ≤ maxLen) (hm : HasMax w) :
    Calls Tryd.prog 10 #[.slice ao len cap] w fun e w' => e = .returned (.bool true) ∧ Below w.heap.size w w' := by
  have hc' := hc
  unfold maxLen at hc'
  by_cases hbig : 1048576 < len
  · clear hr hm
    go_enter Tryd.func10, Tryd.ntmps10
    go_wp2
    go_ret
    exact ⟨rfl, Below.refl _ _⟩
  have CD : Seal _ := ⟨drawMailPut_any ao len cap w hr hl hc⟩
  have HM : Seal (HasMax w) := ⟨hm⟩
  clear hr hc hm
  go_enter Tryd.func10, Tryd.ntmps10
  go_wp2_with fail
  refine CD.out.mono ?_
  rintro e w1 ⟨m, a1, c1, a2, c2, rfl, o1, hd, b1⟩
  have S1 : Seal _ := ⟨((St.start w).mail b1 o1).alloc (mailV m a1 c1 a2 c2) 59⟩
  have hcap := o1.rc.cap
  have z1 := hd.rc
  have z2 := hd.body
  have hsz : MailSz 1048576 m := hd.sz.mono (by omega)
  clear b1 CD o1 hd
  have hW : ∃ W, w1.alloc (.cells (mailV m a1 c1 a2 c2) 59) = W := ⟨_, rfl⟩
  obtain ⟨v, hv⟩ : ∃ v, mailB m = v := ⟨_, rfl⟩
  obtain ⟨s, hs⟩ : ∃ s, mailPutB m = s := ⟨_, rfl⟩
  have CP : Seal (∀ W, HasMax W → MailAt W m a1 a2 → Calls Tryd.prog 48 #[.agg (mailV m a1 c1 a2 c2)] W fun e w' => e = .returned (.string s) ∧ Below W.heap.size W w') := ⟨fun W hW hA => hs ▸ implMailPut_any m a1 c1 a2 c2 W hW hA hsz hcap⟩
  have CQ : Seal (∀ W, MailAt W m a1 a2 → Calls Tryd.prog 51 #[.agg (mailV m a1 c1 a2 c2)] W fun e w' => e = .returned (.string s) ∧ Below W.heap.size W w') := ⟨fun W hA => hs ▸ specMailPut_any m a1 c1 a2 c2 W hA hsz⟩
  have CO : Seal (∀ W, HasMax W → MailAt W m a1 a2 → Calls Tryd.prog 49 #[.agg (mailV m a1 c1 a2 c2)] W fun e w' => e = .returned (.bool v) ∧ Below W.heap.size W w') := ⟨fun W hW hA => hv ▸ implMailOk_any m a1 c1 a2 c2 W hW hA hsz hcap⟩
  have CN : Seal (∀ W, MailAt W m a1 a2 → Calls Tryd.prog 52 #[.agg (mailV m a1 c1 a2 c2)] W fun e w' => e = .returned (.bool v) ∧ Below W.heap.size W w') := ⟨fun W hA => hv ▸ specMailOk_any m a1 c1 a2 c2 W hA hsz⟩
  have HV : Seal (mailB m = v) := ⟨hv⟩
  have HSm : Seal (mailPutB m = s) := ⟨hs⟩
  clear hW hv hs hsz hcap
  go_wp2_with fail
  refine (CP.out _ (HM.out.below S1.out.below (Nat.le_refl _)) S1.out.two.mailAt).mono ?_
  rintro e w2 ⟨rfl, b2⟩
  have S2 : Seal _ := ⟨S1.out.later b2⟩
  obtain ⟨q0, q1, q2, q3⟩ := cells_mail S2.out.head
  have MA : Seal _ := ⟨S2.out.two.mailAt⟩
  have HM2 : Seal _ := ⟨HM.out.below S2.out.below (Nat.le_refl _)⟩
  have KQ : Seal (∀ W, Below w2.heap.size w2 W → Calls Tryd.prog 51 #[.agg (mailV m a1 c1 a2 c2)] W fun e w' => e = .returned (.string s) ∧ Below W.heap.size W w') := ⟨fun W hb => CQ.out W (MA.out.below hb (Nat.le_refl _))⟩
  have KO : Seal (∀ W, Below w2.heap.size w2 W → Calls Tryd.prog 49 #[.agg (mailV m a1 c1 a2 c2)] W fun e w' => e = .returned (.bool v) ∧ Below W.heap.size W w') := ⟨fun W hb => CO.out W (HM2.out.below hb (Nat.le_refl _)) (MA.out.below hb (Nat.le_refl _))⟩
  have KN : Seal (∀ W, Below w2.heap.size w2 W → Calls Tryd.prog 52 #[.agg (mailV m a1 c1 a2 c2)] W fun e w' => e = .returned (.bool v) ∧ Below W.heap.size W w') := ⟨fun W hb => CN.out W (MA.out.below hb (Nat.le_refl _))⟩
  clear b2 S1
  cases v
  · have hse : s = { data := #[] } := HSm.out.symm.trans (mailPutB_no HV.out)
    subst hse
    go_wp2_with fail
    go_region_held3 (fun w' => w'.cell? ⟨w1.heap.size, 0, none⟩ = some (.string m.fu) ∧ w'.cell? ⟨w1.heap.size, 1, none⟩ = some (.string m.fd) ∧ w'.cell? ⟨w1.heap.size, 2, none⟩ = some (.slice a1 m.rc.length c1) ∧ w'.cell? ⟨w1.heap.size, 3, none⟩ = some (.slice a2 m.body.length c2) ∧ Below w2.heap.size w2 w') (first | exact ⟨q0, q1, q2, q3, (Below.refl _ _).drew⟩ | (go_split_ands; exact held4 (by assumption) (by assumption) (by assumption) (by assumption) (by assumption) (Nat.le_refl _) hb1) | (go_split_ands; exact ⟨by assumption, by assumption, by assumption, by assumption, Below.drew (by assumption)⟩) | (go_split_ands; exact ⟨by assumption, by assumption, by assumption, by assumption, by assumption⟩)) (first | (go_at_call 51; go_split_ands; have hbx := (by assumption : Below w2.heap.size w2 _); refine (KQ.out _ hbx).mono ?_; rintro e w3 ⟨rfl, hb1⟩) | (go_at_call 49; go_split_ands; have hbx := (by assumption : Below w2.heap.size w2 _); refine (KO.out _ hbx).mono ?_; rintro e w3 ⟨rfl, hb1⟩) | (go_at_call 52; go_split_ands; have hbx := (by assumption : Below w2.heap.size w2 _); refine (KN.out _ hbx).mono ?_; rintro e w3 ⟨rfl, hb1⟩))
    go_split_ands
    have hbx := (by assumption : Below w2.heap.size w2 _)
    have S3 : Seal _ := ⟨S2.out.later hbx⟩
    go_wp2_with fail
    refine (KQ.out _ hbx).mono ?_
    rintro e w4 ⟨rfl, b4⟩
    have B4 : Seal _ := ⟨hbx.trans (b4.mono hbx.size)⟩
    have S4 : Seal _ := ⟨S3.out.later b4⟩
    obtain ⟨p0, p1, p2, p3⟩ := cells_mail S4.out.head
    clear b4 q0 q1 q2 q3
    go_wp2_with fail
    refine (KO.out _ B4.out).mono ?_
    rintro e w5 ⟨rfl, b5⟩
    have S5 : Seal _ := ⟨S4.out.later b5⟩
    clear b5
    go_wp2
    go_ret
    exact ⟨rfl, S5.out.below⟩
  · have hne : ¬ s.toList = [] := by rw [← HSm.out]; exact put_nonempty HV.out
    have hnb : s.toList.isEmpty = false := by simpa [List.isEmpty_iff] using hne
    go_wp2_with fail
    go_region_held3 (fun w' => w'.cell? ⟨w1.heap.size, 0, none⟩ = some (.string m.fu) ∧ w'.cell? ⟨w1.heap.size, 1, none⟩ = some (.string m.fd) ∧ w'.cell? ⟨w1.heap.size, 2, none⟩ = some (.slice a1 m.rc.length c1) ∧ w'.cell? ⟨w1.heap.size, 3, none⟩ = some (.slice a2 m.body.length c2) ∧ Below w2.heap.size w2 w') (first | exact ⟨q0, q1, q2, q3, (Below.refl _ _).drew⟩ | (go_split_ands; exact held4 (by assumption) (by assumption) (by assumption) (by assumption) (by assumption) (Nat.le_refl _) hb1) | (go_split_ands; exact ⟨by assumption, by assumption, by assumption, by assumption, Below.drew (by assumption)⟩) | (go_split_ands; exact ⟨by assumption, by assumption, by assumption, by assumption, by assumption⟩)) (first | (go_at_call 51; go_split_ands; have hbx := (by assumption : Below w2.heap.size w2 _); refine (KQ.out _ hbx).mono ?_; rintro e w3 ⟨rfl, hb1⟩) | (go_at_call 49; go_split_ands; have hbx := (by assumption : Below w2.heap.size w2 _); refine (KO.out _ hbx).mono ?_; rintro e w3 ⟨rfl, hb1⟩) | (go_at_call 52; go_split_ands; have hbx := (by assumption : Below w2.heap.size w2 _); refine (KN.out _ hbx).mono ?_; rintro e w3 ⟨rfl, hb1⟩))
    go_split_ands
    have hbx := (by assumption : Below w2.heap.size w2 _)
    have S3 : Seal _ := ⟨S2.out.later hbx⟩
    obtain ⟨hg1, hg2⟩ := mailGet_put HV.out
    rw [HSm.out] at hg1 hg2
    have CI : Seal (∀ W, HasMax W → Calls Tryd.prog 44 #[.string s] W (MailGetPost W (m, true))) := ⟨fun W hW => hg1 ▸ implMailGet_any s W hW (by omega)⟩
    clear hg1 hbx q0 q1 q2 q3
    go_wp2_with fail
    refine (CI.out _ (HM.out.below S3.out.below (Nat.le_refl _))).mono ?_
    rintro e w4 ⟨e1, d1, e2, d2, rfl, o4, b4⟩
    have S4' := S3.out.mail b4 o4
    have S4 : Seal _ := ⟨S4'.alloc (mailV m e1 d1 e2 d2) 59⟩
    obtain ⟨p0, p1, p2, p3⟩ := cells_mail S4'.two.head
    have l1 := S4'.two.head.lt
    have M1 : Seal _ := ⟨S4.out.two.mailAt⟩
    have M2 : Seal (MailAt _ m a1 a2) := ⟨(S4.out.get (r := Res.mail m a1 c1 a2 c2) (by simp)).at⟩
    clear b4 o4 S3 S4' CI
    go_wp2_with fail
    (with_reducible refine (saMailEq m e1 d1 e2 d2 a1 c1 a2 c2 _ M1.out M2.out (by omega) (by omega)).mono ?_)
    rintro e w5 ⟨rfl, b5⟩
    have S5 : Seal _ := ⟨S4.out.later b5⟩
    have hle : ((s.size : Int)) ≤ 800 := by omega
    clear b5
    go_wp2
    go_ret
    exact ⟨rfl, S5.out.below⟩
end Go.Proofs.YtfacdiimoncnnaaDoor
