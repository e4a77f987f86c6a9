/- The walk of FnMailGet. -/
import Derived.Test.YtfacdiimoncnnaaDoorMailGetJ
import Derived.Test.YtfacdiimoncnnaaDoorMailPutI
import Derived.Test.YtfacdiimoncnnaaDoorMailRes
import Derived.Test.YtfacdiimoncnnaaDoorSaMail
import Derived.Test.YtfacdiimoncnnaaDoorDrawMail
import Derived.Test.YtfacdiimoncnnaaDoorDraws
import Derived.Test.YtfacdiimoncnnaaDoorWMailGet
namespace Go.Proofs.YtfacdiimoncnnaaDoor
open Go Go.RowKit

theorem mailPut_small (m : MailD) : (mailPutB m).size ≤ 760 := by
  cases h : mailB m
  · rw [mailPutB_no h]; decide
  · exact (mailGet_put h).2

theorem who_small {p : TwoB} (h : whoOk p = true) : p.1.size ≤ 26 ∧ p.2.size ≤ 26 := by
  cases hn : nullB p.1 p.2
  · have ha : addrB p.1 p.2 = true := by unfold whoOk at h; simpa [hn] using h
    unfold addrB at ha
    rw [Bool.and_eq_true] at ha
    have := word_size ha.1
    have := dom_small ha.2
    omega
  · obtain ⟨e1, e2⟩ := nullB_true hn
    rw [Lib.toList_data] at e1 e2
    have z1 : p.1.size = 0 := by rw [Lib.size_eq, e1]; rfl
    have z2 : p.2.size = 0 := by rw [Lib.size_eq, e2]; rfl
    omega
theorem mailB_sz {m : MailD} (h : mailB m = true) : MailSz 1048576 m := by
  obtain ⟨h1, h2, h3, h4, h5⟩ := rc_who h
  have z1 : m.fu.size ≤ 26 ∧ m.fd.size ≤ 26 := who_small h1
  unfold bodyB at h5
  rw [Bool.and_eq_true, List.all_eq_true, decide_eq_true_eq] at h5
  refine ⟨by omega, by omega, by omega, fun p hp => ?_, by omega, fun x hx => ?_⟩
  · have := who_small (h2 p hp)
    omega
  · have := h5.1 x hx
    unfold lineB at this
    rw [Bool.and_eq_true, decide_eq_true_eq] at this
    omega

set_option maxHeartbeats 1600000 in
set_option maxRecDepth 100000 in
theorem drawMailGet_any (ao : Option Addr) (len cap : Nat) (w : World) (hr : ByteRow w ao len) (hl : len ≤ cap) (hc : cap ≤ maxLen) :
    Calls Tryd.prog 46 #[.slice ao len cap] w fun e w' => ∃ s : ByteArray, s.size ≤ 1000 ∧ e = .returned (.string s) ∧ Below w.heap.size w w' := by
  have C : Seal _ := ⟨fun W h1 => l20Open_any ao len cap W h1 hl hc⟩
  have HR : Seal _ := ⟨hr⟩
  clear hr hl hc
  go_enter Tryd.func46, Tryd.ntmps46
  go_wp2_with fail
  refine (C.out _ HR.out).mono ?_
  rintro e w1 ⟨b, rfl, h1, b1⟩
  go_wp2_with fail
  refine (l20Mail_any w.heap.size b 0 _ h1 (by omega)).mono ?_
  rintro e w2 ⟨m, a1, c1, a2, c2, rfl, ho, hs, hr1, hr4, hb9, h2, g2⟩
  have hz := mailPut_small m
  have b2 := b1.trans (h1.below g2 (Nat.le_refl _))
  have C2 : Seal _ := ⟨specMailPut_any m a1 c1 a2 c2 w2 ho.at (hs.mono (by omega))⟩
  have H2 : Seal _ := ⟨h2⟩
  clear ho hs hr1 hr4 hb9 b1 h1 h2 g2
  go_wp2_with fail
  refine C2.out.mono ?_
  rintro e w3 ⟨rfl, b3⟩
  have B3 : Seal _ := ⟨b2.trans (b3.mono b2.size)⟩
  have H3 : Seal _ := ⟨H2.out.later b3⟩
  clear C2 H2 b3 b2
  generalize mailPutB m = t at hz
  go_wp2_with fail
  refine (pick_at 2 H3.out rfl (by omega) (by decide) (by decide)).mono ?_
  rintro e w4 ⟨k, rfl, hk, h4, g4⟩
  have B4 : Seal _ := ⟨B3.out.trans (H3.out.below g4 (Nat.le_refl _))⟩
  have H4 : Seal _ := ⟨h4⟩
  clear h4 g4 B3 H3
  by_cases h0 : k = 0
  · subst h0
    go_wp2
    go_ret
    exact ⟨t, by omega, rfl, B4.out⟩
  · have h0' : ((k : Int) == 0) = false := by rw [beq_eq_false_iff_ne]; omega
    go_wp2_with fail
    refine (l20Bent_any _ b _ t _ H4.out (by omega) (by omega)).mono ?_
    rintro e w5 ⟨x, hx, rfl, h5, g5⟩
    have B5 : Seal _ := ⟨B4.out.trans (H4.out.below g5 (Nat.le_refl _))⟩
    clear h5 g5
    go_wp2
    go_ret
    exact ⟨x, by omega, rfl, B5.out⟩

set_option maxHeartbeats 3200000 in
set_option maxRecDepth 100000 in
theorem wFnMailGet.walk (ao : Option Addr) (len cap : Nat) (w : World) (hr : ByteRow w ao len) (hl : len ≤ cap) (hc : cap ≤ maxLen) (hm : HasMax w) :
    Calls Tryd.prog 9 #[.slice ao len cap] w fun e w' => e = .returned (.bool true) ∧ Below w.heap.size w w' := by
  have hc' := hc
  unfold maxLen at hc'
  by_cases hbig : 1048576 < len
  · clear hr hm
    go_enter Tryd.func9, Tryd.ntmps9
    go_wp2
    go_ret
    exact ⟨rfl, Below.refl _ _⟩
  have CD : Seal _ := ⟨drawMailGet_any ao len cap w hr hl hc⟩
  have HM : Seal (HasMax w) := ⟨hm⟩
  clear hr hc hm
  go_enter Tryd.func9, Tryd.ntmps9
  go_wp2_with fail
  refine CD.out.mono ?_
  rintro e w1 ⟨s, hs, rfl, b1⟩
  have S1 : Seal _ := ⟨(St.start w).later b1⟩
  clear b1 CD
  obtain ⟨⟨m, ok⟩, hr⟩ : ∃ r, mailGetR s = r := ⟨_, rfl⟩
  obtain ⟨z1, z2⟩ := mailGetR_lens hr
  have HR : Seal (mailGetR s = (m, ok)) := ⟨hr⟩
  have CS : Seal (∀ W, Calls Tryd.prog 43 #[.string s] W (MailGetPost W (m, ok))) := ⟨fun W => hr ▸ specMailGet_any s W (by omega)⟩
  have CI : Seal (∀ W, HasMax W → Calls Tryd.prog 44 #[.string s] W (MailGetPost W (m, ok))) := ⟨fun W hW => hr ▸ implMailGet_any s W hW (by omega)⟩
  clear hr
  go_wp2_with fail
  refine (CI.out _ (HM.out.below S1.out.below (Nat.le_refl _))).mono ?_
  rintro e w2 ⟨e1, d1, e2, d2, rfl, o2, b2⟩
  have S2 : Seal _ := ⟨(S1.out.mail b2 o2).alloc (mailV m e1 d1 e2 d2) 59⟩
  clear b2 o2 S1
  go_wp2_with fail
  refine (CS.out _).mono ?_
  rintro e w3 ⟨a1, c1, a2, c2, rfl, o3, b3⟩
  have S3' := S2.out.mail b3 o3
  have S3 : Seal _ := ⟨S3'.alloc (mailV m a1 c1 a2 c2) 59⟩
  obtain ⟨p0, p1, p2, p3⟩ := cells_mail S3'.two.head
  have l1 := S3'.two.head.lt
  have M1 : Seal (MailAt _ m e1 e2) := ⟨(S3.out.get (r := Res.mail m e1 d1 e2 d2) (by simp)).at⟩
  have M2 : Seal _ := ⟨S3.out.two.mailAt⟩
  have hok : (ok != ok) = false := by simp
  have hok2 : (ok == ok) = true := by simp
  clear b3 o3 S2 S3' CS CI
  go_wp2_with fail
  (with_reducible refine (saMailEq m e1 d1 e2 d2 a1 c1 a2 c2 _ M1.out M2.out (by omega) (by omega)).mono ?_)
  rintro e w4 ⟨rfl, b4⟩
  have S4 : Seal _ := ⟨S3.out.later b4⟩
  have M1' : Seal _ := ⟨M1.out.below b4 (Nat.le_refl _)⟩
  have M2' : Seal _ := ⟨M2.out.below b4 (Nat.le_refl _)⟩
  clear b4 S3 M1 M2 p0 p1 p2 p3 l1
  obtain ⟨p0, p1, p2, p3⟩ := cells_mail (S4.out.get (r := Res.cells w2.heap.size (mailV m e1 d1 e2 d2).toList) (by simp))
  obtain ⟨q0, q1, q2, q3⟩ := cells_mail S4.out.head
  cases ok
  · go_wp2_with fail
    (with_reducible refine (saMailEq m e1 d1 e2 d2 a1 c1 a2 c2 _ M1'.out M2'.out (by omega) (by omega)).mono ?_)
    rintro e w5 ⟨rfl, b5⟩
    have S5 : Seal _ := ⟨S4.out.later b5⟩
    clear b5
    go_wp2
    go_ret
    exact ⟨rfl, S5.out.below⟩
  · obtain ⟨hmb, hput⟩ := mailGet_inv HR.out
    have hsz : MailSz 1048576 m := mailB_sz hmb
    have CP : Seal (∀ W, HasMax W → MailAt W m e1 e2 → Calls Tryd.prog 48 #[.agg (mailV m e1 d1 e2 d2)] W fun e w' => e = .returned (.string s) ∧ Below W.heap.size W w') := ⟨fun W hW hA => hput ▸ implMailPut_any m e1 d1 e2 d2 W hW hA hsz (PRow.cap (S4.out.get (r := Res.mail m e1 d1 e2 d2) (by simp)).rc)⟩
    have CO : Seal (∀ W, HasMax W → MailAt W m e1 e2 → Calls Tryd.prog 49 #[.agg (mailV m e1 d1 e2 d2)] W fun e w' => e = .returned (.bool true) ∧ Below W.heap.size W w') := ⟨fun W hW hA => hmb ▸ implMailOk_any m e1 d1 e2 d2 W hW hA hsz (PRow.cap (S4.out.get (r := Res.mail m e1 d1 e2 d2) (by simp)).rc)⟩
    clear hmb hput hsz
    go_wp2_with fail
    refine (CP.out _ (HM.out.below S4.out.below (Nat.le_refl _)) M1'.out).mono ?_
    rintro e w5 ⟨rfl, b5⟩
    have S5 : Seal _ := ⟨S4.out.later b5⟩
    have M5 : Seal _ := ⟨M1'.out.below b5 (Nat.le_refl _)⟩
    clear b5 S4 p0 p1 p2 p3 q0 q1 q2 q3
    obtain ⟨p0, p1, p2, p3⟩ := cells_mail (S5.out.get (r := Res.cells w2.heap.size (mailV m e1 d1 e2 d2).toList) (by simp))
    go_wp2_with fail
    refine (CO.out _ (HM.out.below S5.out.below (Nat.le_refl _)) M5.out).mono ?_
    rintro e w6 ⟨rfl, b6⟩
    have S6 : Seal _ := ⟨S5.out.later b6⟩
    clear b6
    go_wp2
    go_ret
    exact ⟨rfl, S6.out.below⟩
end Go.Proofs.YtfacdiimoncnnaaDoor
