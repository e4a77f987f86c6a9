/- The walk of FnExactCliNew. -/
import Derived.Test.YtfacdiimoncnnaaDoorCliRes
import Derived.Deep.RegionWith
namespace Go.Proofs.YtfacdiimoncnnaaDoor
open Go Go.RowKit

theorem cells_mailA {w : World} {k : Nat} {m : MailD} {a1 : Option Addr} {c1 : Nat} {a2 : Option Addr} {c2 : Nat} (h : CellsM w k (mailV m a1 c1 a2 c2).toList) : w.cell? ⟨k, 0, none⟩ = some (.string m.fu) ∧ w.cell? ⟨k, 1, none⟩ = some (.string m.fd) ∧ w.cell? ⟨k, 2, none⟩ = some (.slice a1 m.rc.length c1) ∧ w.cell? ⟨k, 3, none⟩ = some (.slice a2 m.body.length c2) :=
  ⟨h.c 0 _ rfl, h.c 1 _ rfl, h.c 2 _ rfl, h.c 3 _ rfl⟩

set_option maxHeartbeats 6400000 in
set_option maxRecDepth 100000 in
theorem wFnExactCliNew.walk (s : ByteArray) (m : MailD) (a1 : Option Addr) (c1 : Nat) (a2 : Option Addr) (c2 : Nat) (w : World) (hs : s.size ≤ maxLen) (hat : MailAt w m a1 a2) (hsz : MailSz maxLen m) (hm : HasMax w) :
    Calls Tryd.prog 5 #[.string s, .agg (mailV m a1 c1 a2 c2)] w fun e w' => e = .returned (.bool true) ∧ Below w.heap.size w w' := by
  unfold maxLen at hs
  have HM : Seal _ := ⟨hm⟩
  have HA : Seal _ := ⟨hat⟩
  have HS : Seal _ := ⟨hsz⟩
  have S0 : Seal (St w _ [_]) := ⟨(St.start w).alloc (mailV m a1 c1 a2 c2) 54⟩
  clear hm hat hsz
  by_cases hbig : 1048576 < s.size
  · go_enter Tryd.func5, Tryd.ntmps5
    go_wp2
    go_ret
    exact ⟨rfl, S0.out.below⟩
  obtain ⟨l, hl⟩ : ∃ l, leftM m 1048576 = l := ⟨_, rfl⟩
  by_cases hneg : l < 0
  · have HL : Seal _ := ⟨hl⟩
    clear hl
    go_enter Tryd.func5, Tryd.ntmps5
    go_wp2_with fail
    refine (szMail_any m a1 c1 a2 c2 1048576 _ (HA.out.below S0.out.below (Nat.le_refl _)) HS.out (by omega) (by omega)).mono ?_
    rintro e w1 ⟨rfl, hb1⟩
    rw [HL.out]
    have S1 : Seal _ := ⟨S0.out.later hb1⟩
    clear hb1
    go_wp2
    go_ret
    exact ⟨rfl, S1.out.below⟩
  have HZ : Seal (MailSz 1048576 m) := ⟨leftM_small (left := 1048576) (by rw [hl]; exact hneg) (by omega) (by omega)⟩
  have zx := cliNewR_lens (nm := s) HZ.out.rcl HZ.out.bol
  obtain ⟨x, hx⟩ : ∃ x, cliNewR s m = x := ⟨_, rfl⟩
  rw [hx] at zx
  obtain ⟨z1, z2, z3⟩ := zx
  have v1 := HZ.out.rcl
  have v2 := HZ.out.bol
  have CS : Seal (∀ B W b1 d1 b2 d2, MailOwn W B m b1 d1 b2 d2 → Calls Tryd.prog 28 #[.string s, .agg (mailV m b1 d1 b2 d2)] W (NewC x W)) := ⟨fun B W b1 d1 b2 d2 ho => hx ▸ specCliNew_any B s m b1 d1 b2 d2 W (by omega) ho HZ.out⟩
  have CI : Seal (∀ B W b1 d1 b2 d2, HasMax W → MailOwn W B m b1 d1 b2 d2 → Calls Tryd.prog 30 #[.string s, .agg (mailV m b1 d1 b2 d2)] W (NewC x W)) := ⟨fun B W b1 d1 b2 d2 hW ho => hx ▸ implCliNew_any B s m b1 d1 b2 d2 W hW (by omega) ho HZ.out⟩
  have HL : Seal _ := ⟨hl⟩
  clear hl hx
  obtain ⟨N, hN⟩ : ∃ N, 1 + x.m.rc.length * 2 + x.m.body.length + x.outs.length = N := ⟨_, rfl⟩
  have HN : Seal _ := ⟨hN⟩
  obtain ⟨N0, hN0⟩ : ∃ N, 1 + m.rc.length * 2 + m.body.length = N := ⟨_, rfl⟩
  have HN0 : Seal _ := ⟨hN0⟩
  have hp : ¬ ((N : Int) < 0) := by omega
  have hp0 : ¬ ((N0 : Int) < 0) := by omega
  clear hN hN0
  go_enter Tryd.func5, Tryd.ntmps5
  go_wp2_with fail
  refine (szMail_any m a1 c1 a2 c2 1048576 _ (HA.out.below S0.out.below (Nat.le_refl _)) HS.out (by omega) (by omega)).mono ?_
  rintro e w1 ⟨rfl, hb1⟩
  rw [HL.out]
  have S1 : Seal _ := ⟨S0.out.later hb1⟩
  clear hb1 S0 HS HL
  obtain ⟨g0, g1, g2, g3⟩ := cells_mailA S1.out.head
  -- what the model answers
  go_wp2_with fail
  refine (toMail_any m a1 c1 a2 c2 _ (HA.out.below S1.out.below (Nat.le_refl _)) HZ.out).mono ?_
  rintro e w2 ⟨e1, d1, e2, d2, rfl, o2, b2⟩
  have S2 : Seal _ := ⟨S1.out.mail b2 o2⟩
  clear b2 o2 S1 g0 g1 g2 g3
  go_wp2_with fail
  refine (CS.out _ _ e1 d1 e2 d2 S2.out.mailOwn).mono ?_
  rintro e w3 ⟨p1, k1, p2, k2, p3, k3, rfl, o3, b3⟩
  have S3' := (S2.out.cli b3 o3).two.tail
  have S3 : Seal _ := ⟨S3'.alloc (cliV x p1 k1 p2 k2 p3 k3) 62⟩
  obtain ⟨g0, g1, g2, g3⟩ := cells_mailA S3'.two.head
  have l1 := S3'.two.head.lt
  clear b3 o3 S2 S3' CS
  -- what the program answers
  go_wp2_with fail
  refine (toMail_any m a1 c1 a2 c2 _ (HA.out.below S3.out.below (Nat.le_refl _)) HZ.out).mono ?_
  rintro e w4 ⟨e3, d3, e4, d4, rfl, o4, b4⟩
  have S4' := S3.out.mail b4 o4
  have S4 : Seal _ := ⟨S4'.alloc (mailV m e3 d3 e4 d4) 59⟩
  clear b4 o4 S3 S4' g0 g1 g2 g3 l1
  go_wp2_with fail
  refine (CI.out _ _ e3 d3 e4 d4 (HM.out.below S4.out.below (Nat.le_refl _)) S4.out.two.mailOwn).mono ?_
  rintro e w5 ⟨q1, j1, q2, j2, q3, j3, rfl, o5, b5⟩
  have S5' := S4.out.cli b5 o5
  have S5 : Seal _ := ⟨S5'.alloc (cliV x q1 j1 q2 j2 q3 j3) 62⟩
  have l1 := (S5'.get (r := Res.cells w3.heap.size (cliV x p1 k1 p2 k2 p3 k3).toList) (by simp)).lt
  obtain ⟨g0, g1, g2, g3, g4, g5, g6, g7⟩ := cells_cli (S5'.get (r := Res.cells w3.heap.size (cliV x p1 k1 p2 k2 p3 k3).toList) (by simp))
  have MA : Seal _ := ⟨S5.out.two.cliAt⟩
  have MB : Seal (CliAt _ x p1 p2 p3) := ⟨(S5.out.get (r := Res.cli x p1 k1 p2 k2 p3 k3) (by simp)).at⟩
  clear b5 o5 S4 S5'
  go_wp2_with fail
  (with_reducible refine (eqCli_same x q1 j1 q2 j2 q3 j3 p1 k1 p2 k2 p3 k3 _ MA.out MB.out z1 z2 z3).mono ?_)
  rintro e w6 ⟨rfl, b6⟩
  have S6 : Seal _ := ⟨S5.out.later b6⟩
  clear b6 S5 MA MB l1 g0 g1 g2 g3 g4 g5 g6 g7
  -- the argument reads as it did
  obtain ⟨g0, g1, g2, g3⟩ := cells_mailA (S6.out.get (r := Res.cells w.heap.size (mailV m a1 c1 a2 c2).toList) (by simp))
  obtain ⟨x0, x1, x2, x3⟩ := cells_mailA (S6.out.get (r := Res.cells w4.heap.size (mailV m e3 d3 e4 d4).toList) (by simp))
  have lt1 := (S6.out.get (r := Res.cells w.heap.size (mailV m a1 c1 a2 c2).toList) (by simp)).lt
  have lt2 := (S6.out.get (r := Res.cells w4.heap.size (mailV m e3 d3 e4 d4).toList) (by simp)).lt
  have S6d : Seal _ := ⟨S6.out.drew⟩
  go_wp2_with fail
  go_region_with (first | (go_at_call 29; refine (toMail_any m a1 c1 a2 c2 _ (HA.out.below S6d.out.below (Nat.le_refl _)) HZ.out).mono ?_; rintro e w7 ⟨e5, d5, e6, d6, rfl, o7, b7⟩; have S7 : Seal _ := ⟨S6d.out.mail b7 o7⟩; obtain ⟨y0, y1, y2, y3⟩ := cells_mailA (S7.out.get (r := Res.cells w4.heap.size (mailV m e3 d3 e4 d4).toList) (by simp)); clear o7 b7) | (go_at_call 32; refine (eqMail_same m e3 d3 e4 d4 _ _ _ _ _ (S7.out.get (r := Res.mail m e3 d3 e4 d4) (by simp)).at S7.out.mailAt v1 v2).mono ?_; rintro e w8 ⟨rfl, b8⟩))
  all_goals
    have S8 : Seal _ := ⟨S7.out.tail.later b8⟩
    clear b8 S7 S6 S6d y0 y1 y2 y3 g0 g1 g2 g3 x0 x1 x2 x3 lt1 lt2
    obtain ⟨x0, x1, x2, x3⟩ := cells_mailA (S8.out.get (r := Res.cells w4.heap.size (mailV m e3 d3 e4 d4).toList) (by simp))
    -- the argument is marked: the answer stays
    go_wp2_with fail
    refine (markMail_own w.heap.size 1 m e3 d3 e4 d4 _ S8.out.four.mailOwn S8.out.size (by omega)).mono ?_
    rw [HN0.out]
    rintro e w9 ⟨rfl, h9, r9, t9⟩
    have S9 : Seal _ := ⟨(S8.out.four.mailMark h9 r9 t9).tail⟩
    clear h9 r9 t9 S8 x0 x1 x2 x3
    obtain ⟨x0, x1, x2, x3, x4, x5, x6, x7⟩ := cells_cli S9.out.head
    obtain ⟨g0, g1, g2, g3, g4, g5, g6, g7⟩ := cells_cli (S9.out.get (r := Res.cells w3.heap.size (cliV x p1 k1 p2 k2 p3 k3).toList) (by simp))
    have MA : Seal _ := ⟨S9.out.two.cliAt⟩
    have MB : Seal (CliAt _ x p1 p2 p3) := ⟨(S9.out.get (r := Res.cli x p1 k1 p2 k2 p3 k3) (by simp)).at⟩
    go_wp2_with fail
    refine (eqCli_same x q1 j1 q2 j2 q3 j3 p1 k1 p2 k2 p3 k3 _ MA.out MB.out z1 z2 z3).mono ?_
    rintro e w10 ⟨rfl, b10⟩
    have S10 : Seal _ := ⟨S9.out.later b10⟩
    clear b10 S9 MA MB x0 x1 x2 x3 x4 x5 x6 x7 g0 g1 g2 g3 g4 g5 g6 g7
    obtain ⟨x0, x1, x2, x3, x4, x5, x6, x7⟩ := cells_cli S10.out.head
    -- the answer is marked, and holds its marks
    go_wp2_with fail
    refine (markCli_own w.heap.size 1 x q1 j1 q2 j2 q3 j3 _ S10.out.two.cliOwn S10.out.size (by omega)).mono ?_
    rw [HN.out]
    rintro e w11 ⟨rfl, h11, r11, t11, i11⟩
    have S11 : Seal _ := ⟨(S10.out.two.cliGone h11).tail⟩
    have R11 : Seal (CliMarks w11 x q1 q2 q3) := ⟨⟨r11, t11, i11⟩⟩
    clear h11 r11 t11 i11 S10 x0 x1 x2 x3 x4 x5 x6 x7
    have CH : Seal (∀ W, CliMarks W x q1 q2 q3 → Calls Tryd.prog 35 #[.agg #[.string x.nm, .string x.m.fu, .string x.m.fd, .slice q1 x.m.rc.length j1, .slice q2 x.m.body.length j2, .int .i64 x.st, .int .i64 x.pos, .slice q3 x.outs.length j3], .int .i64 1] W fun e w' => e = .returned (.int .i64 (N : Int)) ∧ Below W.heap.size W w') := ⟨fun W h => HN.out ▸ heldCli_any 1 x.m.rc.length x.m.body.length x.outs.length x.nm x.m.fu x.m.fd x.st x.pos q1 j1 q2 j2 q3 j3 W h.1 h.2.1 h.2.2 (by omega)⟩
    obtain ⟨x0, x1, x2, x3, x4, x5, x6, x7⟩ := cells_cli S11.out.head
    go_wp2_with fail
    refine (CH.out _ R11.out).mono ?_
    rintro e w12 ⟨rfl, b12⟩
    have S12 : Seal _ := ⟨S11.out.later b12⟩
    have R12 : Seal _ := ⟨R11.out.later b12⟩
    clear b12 S11 R11 x0 x1 x2 x3 x4 x5 x6 x7
    obtain ⟨g0, g1, g2, g3⟩ := cells_mailA (S12.out.get (r := Res.cells w.heap.size (mailV m a1 c1 a2 c2).toList) (by simp))
    -- another call's answer shares nothing with it
    go_wp2_with fail
    refine (toMail_any m a1 c1 a2 c2 _ (HA.out.below S12.out.below (Nat.le_refl _)) HZ.out).mono ?_
    rintro e w13 ⟨e7, d7, e8, d8, rfl, o13, b13⟩
    have S13 : Seal _ := ⟨S12.out.mail b13 o13⟩
    have R13 : Seal _ := ⟨R12.out.later b13⟩
    clear b13 o13 S12 R12 g0 g1 g2 g3
    go_wp2_with fail
    refine (CI.out _ _ e7 d7 e8 d8 (HM.out.below S13.out.below (Nat.le_refl _)) S13.out.mailOwn).mono ?_
    rintro e w14 ⟨u1, v1', u2, v2', u3, v3', rfl, o14, b14⟩
    have S14' := S13.out.cli b14 o14
    have R14 : Seal _ := ⟨(R13.out.later b14).later ((Below.refl w14.heap.size w14).alloc (Nat.le_refl _) (.cells (cliV x u1 v1' u2 v2' u3 v3') 62))⟩
    have S14 : Seal _ := ⟨S14'.alloc (cliV x u1 v1' u2 v2' u3 v3') 62⟩
    have l1 := (S14'.get (r := Res.cells w3.heap.size (cliV x p1 k1 p2 k2 p3 k3).toList) (by simp)).lt
    have l2 := (S14'.get (r := Res.cells w5.heap.size (cliV x q1 j1 q2 j2 q3 j3).toList) (by simp)).lt
    obtain ⟨g0, g1, g2, g3, g4, g5, g6, g7⟩ := cells_cli (S14'.get (r := Res.cells w3.heap.size (cliV x p1 k1 p2 k2 p3 k3).toList) (by simp))
    have MA : Seal _ := ⟨S14.out.two.cliAt⟩
    have MB : Seal (CliAt _ x p1 p2 p3) := ⟨(S14.out.get (r := Res.cli x p1 k1 p2 k2 p3 k3) (by simp)).at⟩
    clear b14 o14 S13 R13 S14'
    go_wp2_with fail
    refine (eqCli_same x u1 v1' u2 v2' u3 v3' p1 k1 p2 k2 p3 k3 _ MA.out MB.out z1 z2 z3).mono ?_
    rintro e w15 ⟨rfl, b15⟩
    have S15 : Seal _ := ⟨S14.out.later b15⟩
    have R15 : Seal _ := ⟨R14.out.later b15⟩
    clear b15 S14 R14 MA MB l1 l2 g0 g1 g2 g3 g4 g5 g6 g7
    obtain ⟨x0, x1, x2, x3, x4, x5, x6, x7⟩ := cells_cli (S15.out.get (r := Res.cells w5.heap.size (cliV x q1 j1 q2 j2 q3 j3).toList) (by simp))
    go_wp2_with fail
    refine (CH.out _ R15.out).mono ?_
    rintro e w16 ⟨rfl, b16⟩
    have S16 : Seal _ := ⟨S15.out.later b16⟩
    clear b16 S15 R15 x0 x1 x2 x3 x4 x5 x6 x7
    go_wp2
    go_ret
    exact ⟨rfl, S16.out.below⟩
end Go.Proofs.YtfacdiimoncnnaaDoor
