/- The walk of FnExactMailGet. -/
import Derived.Test.YtfacdiimoncnnaaDoorMailGetJ
import Derived.Test.YtfacdiimoncnnaaDoorMailRes
namespace Go.Proofs.YtfacdiimoncnnaaDoor
open Go Go.RowKit

theorem mailGetR_lens {s : ByteArray} {m : MailD} {ok : Bool} (h : mailGetR s = (m, ok)) : m.rc.length ≤ 4 ∧ m.body.length ≤ 12 := by
  unfold mailGetR at h
  split at h
  · rename_i hc
    rw [Bool.and_eq_true] at hc
    simp only [Prod.mk.injEq] at h
    rw [← h.1]
    have := rc_who (writes_parts hc.2).1
    refine ⟨this.2.2.2.1, ?_⟩
    have h5 := this.2.2.2.2
    unfold bodyB at h5
    rw [Bool.and_eq_true, decide_eq_true_eq] at h5
    exact h5.2
  · simp only [Prod.mk.injEq] at h
    rw [← h.1]
    exact ⟨by simp [noMail], by simp [noMail]⟩
theorem cells_mail {w : World} {k : Nat} {m : MailD} {a1 : Option Addr} {c1 : Nat} {a2 : Option Addr} {c2 : Nat} (h : CellsM w k (mailV m a1 c1 a2 c2).toList) : w.cell? ⟨k, 0, none⟩ = some (.string m.fu) ∧ w.cell? ⟨k, 1, none⟩ = some (.string m.fd) ∧ w.cell? ⟨k, 2, none⟩ = some (.slice a1 m.rc.length c1) ∧ w.cell? ⟨k, 3, none⟩ = some (.slice a2 m.body.length c2) :=
  ⟨h.c 0 _ rfl, h.c 1 _ rfl, h.c 2 _ rfl, h.c 3 _ rfl⟩

set_option maxHeartbeats 3200000 in
set_option maxRecDepth 100000 in
theorem wFnExactMailGet.walk (s : ByteArray) (w : World) (hs : s.size ≤ maxLen) (hm : HasMax w) :
    Calls Tryd.prog 8 #[.string s] w fun e w' => e = .returned (.bool true) ∧ Below w.heap.size w w' := by
  unfold maxLen at hs
  by_cases hbig : 1048576 < s.size
  · go_enter Tryd.func8, Tryd.ntmps8
    go_wp2
    go_ret
    exact ⟨rfl, Below.refl _ _⟩
  obtain ⟨⟨m, ok⟩, hr⟩ : ∃ r, mailGetR s = r := ⟨_, rfl⟩
  obtain ⟨z1, z2⟩ := mailGetR_lens hr
  have CS : Seal (∀ W, Calls Tryd.prog 43 #[.string s] W (MailGetPost W (m, ok))) := ⟨fun W => hr ▸ specMailGet_any s W (by omega)⟩
  have CI : Seal (∀ W, HasMax W → Calls Tryd.prog 44 #[.string s] W (MailGetPost W (m, ok))) := ⟨fun W hW => hr ▸ implMailGet_any s W hW (by omega)⟩
  have HM : Seal (HasMax w) := ⟨hm⟩
  have S0 : Seal _ := ⟨St.start w⟩
  clear hr hm
  go_enter Tryd.func8, Tryd.ntmps8
  go_wp2_with fail
  refine (CS.out _).mono ?_
  rintro e w1 ⟨a1, c1, a2, c2, rfl, o1, b1⟩
  have S1 : Seal _ := ⟨(S0.out.mail b1 o1).alloc (mailV m a1 c1 a2 c2) 59⟩
  clear b1 o1 S0 CS
  go_wp2_with fail
  refine (CI.out _ (HM.out.below S1.out.below (Nat.le_refl _))).mono ?_
  rintro e w2 ⟨e1, d1, e2, d2, rfl, o2, b2⟩
  have S2' := S1.out.mail b2 o2
  have S2 : Seal _ := ⟨S2'.alloc (mailV m e1 d1 e2 d2) 59⟩
  obtain ⟨p0, p1, p2, p3⟩ := cells_mail S2'.two.head
  have l1 := S2'.two.head.lt
  have M1 : Seal _ := ⟨S2.out.two.mailAt⟩
  have M2 : Seal _ := ⟨S2.out.four.mailAt⟩
  clear b2 o2 S1 S2'
  go_wp2_with fail
  (with_reducible refine (eqMail_same m e1 d1 e2 d2 a1 c1 a2 c2 _ M1.out M2.out (by omega) (by omega)).mono ?_)
  rintro e w3 ⟨rfl, b3⟩
  have S3 : Seal _ := ⟨S2.out.later b3⟩
  clear b3 S2 M1 M2 p0 p1 p2 p3 l1
  obtain ⟨q0, q1, q2, q3⟩ := cells_mail S3.out.head
  have hok : (ok != ok) = false := by simp
  go_wp2_with fail
  refine (markMail_own w.heap.size 1 m e1 d1 e2 d2 _ S3.out.two.mailOwn S3.out.size (by omega)).mono ?_
  rintro e w4 ⟨rfl, g4, r4, t4⟩
  have S4 : Seal _ := ⟨S3.out.two.mailMark g4 r4 t4⟩
  clear g4 r4 t4 S3 q0 q1 q2 q3
  obtain ⟨q0, q1, q2, q3⟩ := cells_mail S4.out.two.head
  have MR : Seal _ := ⟨S4.out.markedRows⟩
  have CH : Seal (∀ W, PairRow W e1 (markP 1 m.rc.length) → StrRow W e2 (markRow (1 + m.rc.length * 2) m.body.length) → Calls Tryd.prog 45 #[.agg #[.string m.fu, .string m.fd, .slice e1 m.rc.length d1, .slice e2 m.body.length d2], .int .i64 1] W fun e w' => e = .returned (.int .i64 ((1 + m.rc.length * 2 + m.body.length : Nat) : Int)) ∧ Below W.heap.size W w') := ⟨fun W h1 h2 => heldMail_any 1 m.rc.length m.body.length m.fu m.fd e1 d1 e2 d2 W h1 h2 (by omega)⟩
  obtain ⟨N, hN⟩ : ∃ N, 1 + m.rc.length * 2 + m.body.length = N := ⟨_, rfl⟩
  rw [hN] at CH ⊢
  have hN0 : ¬ ((N : Int) < 0) := by omega
  clear hN
  go_wp2_with fail
  refine (CH.out _ MR.out.1 MR.out.2).mono ?_
  rintro e w5 ⟨rfl, b5⟩
  have S5 : Seal _ := ⟨S4.out.later b5⟩
  clear b5 S4 MR q0 q1 q2 q3
  go_wp2_with fail
  refine (CI.out _ (HM.out.below S5.out.below (Nat.le_refl _))).mono ?_
  rintro e w6 ⟨f1, k1, f2, k2, rfl, o6, b6⟩
  have S6' := S5.out.mail b6 o6
  have S6 : Seal _ := ⟨S6'.alloc (mailV m f1 k1 f2 k2) 59⟩
  obtain ⟨p0, p1, p2, p3⟩ := cells_mail (S6'.get (r := Res.cells w1.heap.size (mailV m a1 c1 a2 c2).toList) (by simp))
  have l1 := (S6'.get (r := Res.cells w1.heap.size (mailV m a1 c1 a2 c2).toList) (by simp)).lt
  have l2 := (S6'.get (r := Res.cells w2.heap.size (mailV m e1 d1 e2 d2).toList) (by simp)).lt
  have M1 : Seal _ := ⟨S6.out.two.mailAt⟩
  have M2 : Seal (MailAt _ m a1 a2) := ⟨(S6.out.get (r := Res.mail m a1 c1 a2 c2) (by simp)).at⟩
  clear b6 o6 S5 S6'
  go_wp2_with fail
  (with_reducible refine (eqMail_same m f1 k1 f2 k2 a1 c1 a2 c2 _ M1.out M2.out (by omega) (by omega)).mono ?_)
  rintro e w7 ⟨rfl, b7⟩
  have S7 : Seal _ := ⟨S6.out.later b7⟩
  clear b7 S6 M1 M2 p0 p1 p2 p3 l1 l2
  obtain ⟨q0, q1, q2, q3⟩ := cells_mail (S7.out.get (r := Res.cells w2.heap.size (mailV m e1 d1 e2 d2).toList) (by simp))
  have MR : Seal _ := ⟨S7.out.tail.tail.markedRows⟩
  go_wp2_with fail
  refine (CH.out _ MR.out.1 MR.out.2).mono ?_
  rintro e w8 ⟨rfl, b8⟩
  have S8 : Seal _ := ⟨S7.out.later b8⟩
  clear b8
  go_wp2
  go_ret
  exact ⟨rfl, S8.out.below⟩
end Go.Proofs.YtfacdiimoncnnaaDoor
