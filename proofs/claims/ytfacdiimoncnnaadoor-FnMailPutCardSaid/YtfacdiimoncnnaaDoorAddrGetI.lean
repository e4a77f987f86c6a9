/- Contract: AddrGet of the program. -/
import Derived.Test.YtfacdiimoncnnaaDoorAddrGet
namespace Go.Proofs.YtfacdiimoncnnaaDoor
open Go Go.RowKit

theorem below_drewN' (B : Nat) (w : World) : ∀ n, Below B w (w.drewN n)
  | 0 => Below.refl _ _
  | n + 1 => (below_drewN' B w n).drew

set_option maxHeartbeats 1600000 in
theorem implAddrGet_any (s : ByteArray) (w : World) (hm : HasMax w) (hs : s.size ≤ 1048576) :
    Calls Tryd.prog 217 #[.string s] w (AddrPost w (getR s)) := by
  have HM := Lib.hid (hm.below ((Below.refl w.heap.size w).alloc (Nat.le_refl _) (.cells #[.string { data := #[] }, .string { data := #[] }] 56)) (Nat.le_refl _))
  clear hm
  cases hn : (s.toList == [60, 62])
  · obtain ⟨u, d, f, hu, hd, hf, hus, hds, hq⟩ := getR_steps s hn
    have C1 : Hid (∀ W, Calls Tryd.prog 216 #[.string s, .string { data := #[60] }] W fun e w' => e = .returned (.tuple #[.string (rest1 s), .bool (opened s)]) ∧ w' = W) := Lib.hid fun W => Tryd.strings_CutPrefix s { data := #[60] } W
    have C2 : Hid (∀ W, Calls Tryd.prog 247 #[.string (rest1 s), .string { data := #[62] }] W fun e w' => e = .returned (.tuple #[.string (rest2 (rest1 s)), .bool (closedB (rest1 s))]) ∧ w' = W) := Lib.hid fun W => Tryd.strings_CutSuffix (rest1 s) { data := #[62] } W (by have := rest1_size s; omega)
    have C3 : Hid (∀ W, HasMax W → Calls Tryd.prog 115 #[.string (rest2 (rest1 s)), .string { data := #[64] }] W fun e w' => e = .returned (.tuple #[.string u, .string d, .bool f]) ∧ Below W.heap.size W w') := Lib.hid fun W hW => by
      obtain ⟨m, hmx⟩ := hW
      refine (Tryd.strings_Cut (rest2 (rest1 s)) { data := #[64] } m W (by have := rest1_size s; have := rest2_size (rest1 s); omega) hmx).mono ?_
      rintro e w' ⟨rfl, n, rfl⟩
      exact ⟨by rw [← hu, ← hd, ← hf], below_drewN' _ _ _⟩
    have HQ := Lib.hid hq
    clear hu hd hf hq
    generalize rest2 (rest1 s) = p2 at C2 C3
    generalize rest1 s = p1 at C1 C2 HQ
    generalize opened s = o at C1 HQ
    generalize closedB p1 = c at C2 HQ
    by_cases hall : (o && c && f) = true
    · obtain ⟨⟨ho, hc⟩, hf⟩ : (o = true ∧ c = true) ∧ f = true := by simpa using hall
      subst ho hc hf
      clear hall
      cases ha : addrB u d
      all_goals
        have HA := Lib.hid ha
        clear ha
        go_enter Tryd.func217, Tryd.ntmps217
        go_wp2_with fail
        refine (C1.out _).mono ?_
        rintro e w' ⟨rfl, rfl⟩
        go_wp2_with fail
        refine (C2.out _).mono ?_
        rintro e w' ⟨rfl, rfl⟩
        go_wp2_with fail
        refine (C3.out _ HM.out).mono ?_
        rintro e w1 ⟨rfl, hb1⟩
        have z1 := hb1.size
        simp only [World.size_alloc] at z1
        have T1 := Lib.hid ((TwoAt.new w (.string { data := #[] }) (.string { data := #[] }) 56).later hb1)
        have B1 := Lib.hid (((Below.refl w.heap.size w).alloc (Nat.le_refl _) _).trans (hb1.mono (by simp)))
        have HM1 := Lib.hid (HM.out.below (hb1.trans ((Below.refl w1.heap.size w1).alloc (Nat.le_refl _) (.cells #[.string u, .string d] 56) |>.mono hb1.size)) (Nat.le_refl _))
        have A2 : Below w1.heap.size w1 (w1.alloc (.cells #[.string u, .string d] 56)) := (Below.refl _ _).alloc (Nat.le_refl _) _
        have T2 := Lib.hid (T1.out.later A2)
        have S2 := Lib.hid (TwoAt.new w1 (.string u) (.string d) 56)
        have B2 := Lib.hid (B1.out.trans (A2.mono (by omega)))
        clear hb1 A2
        go_wp2_with fail
        refine (implAddrOk_any u d _ HM1.out (by omega) (by omega)).mono ?_
        rintro e w3 ⟨rfl, hb3⟩
        rw [HA.out]
        have B3 := Lib.hid (B2.out.trans (hb3.mono B2.out.size))
        obtain ⟨m0, m1, n0, n1⟩ := T2.out.later hb3
        obtain ⟨p0, p1, _, _⟩ := S2.out.later hb3
        clear hb3
        go_wp2
      · refine bodyPost_ret (v := .tuple #[.agg #[.string { data := #[] }, .string { data := #[] }], .bool false]) (by simp [results, Tryd.results217, go_sem, m0, m1]) rfl ⟨by rw [HQ.out, HA.out]; rfl, (B3.out.setCell (p := ⟨w.heap.size, 0, none⟩) (Nat.le_refl _) _).setCell (p := ⟨w.heap.size, 1, none⟩) (Nat.le_refl _) _⟩
      · refine bodyPost_ret (v := .tuple #[.agg #[.string u, .string d], .bool true]) (by simp [results, Tryd.results217, go_sem, m0, m1]) rfl ⟨by rw [HQ.out, HA.out]; rfl, (B3.out.setCell (p := ⟨w.heap.size, 0, none⟩) (Nat.le_refl _) _).setCell (p := ⟨w.heap.size, 1, none⟩) (Nat.le_refl _) _⟩
    · have HQ2 : Hid (getR s = noAddr) := Lib.hid (by rw [HQ.out, Bool.eq_false_iff.2 hall]; rfl)
      rcases (show o = false ∨ (o = true ∧ c = false) ∨ (o = true ∧ c = true ∧ f = false) by revert hall; cases o <;> cases c <;> cases f <;> simp) with rfl | ⟨rfl, rfl⟩ | ⟨rfl, rfl, rfl⟩
      all_goals
        clear hall HQ
        go_enter Tryd.func217, Tryd.ntmps217
        go_wp2_with fail
        refine (C1.out _).mono ?_
        rintro e w' ⟨rfl, rfl⟩
        go_wp2_with fail
        refine (C2.out _).mono ?_
        rintro e w' ⟨rfl, rfl⟩
        go_wp2_with fail
        refine (C3.out _ HM.out).mono ?_
        rintro e w1 ⟨rfl, hb1⟩
        have z1 := hb1.size
        simp only [World.size_alloc] at z1
        have hwl : w.heap.size < w1.heap.size := by omega
        obtain ⟨m0, m1, n0, n1⟩ := (TwoAt.new w (.string { data := #[] }) (.string { data := #[] }) 56).later hb1
        have B1 := Lib.hid (((Below.refl w.heap.size w).alloc (Nat.le_refl _) _).trans (hb1.mono (by simp)))
        clear hb1
        go_wp2
        refine bodyPost_ret (v := .tuple #[.agg #[.string { data := #[] }, .string { data := #[] }], .bool false]) (by simp [results, Tryd.results217, go_sem, m0, m1, hwl]) rfl ⟨by rw [HQ2.out]; rfl, ((B1.out.setCell (p := ⟨w.heap.size, 0, none⟩) (Nat.le_refl _) _).setCell (p := ⟨w.heap.size, 1, none⟩) (Nat.le_refl _) _).alloc (by simp; omega) _⟩
  · have hq := Lib.hid (getR_null hn)
    go_enter Tryd.func217, Tryd.ntmps217
    go_wp2
    refine bodyPost_ret (v := .tuple #[.agg #[.string { data := #[] }, .string { data := #[] }], .bool true]) (by simp [results, Tryd.results217, go_sem]) rfl ⟨by rw [hq.out], (Below.refl _ _).alloc (Nat.le_refl _) _⟩

end Go.Proofs.YtfacdiimoncnnaaDoor
