/- The walk of FnCliNew. -/
import Derived.Test.YtgjkoegpdfcadaaDoorSaCli
import Derived.Test.YtgjkoegpdfcadaaDoorDrawCliNew
import Derived.Deep.RegionWith
namespace Go.Proofs.YtgjkoegpdfcadaaDoor
open Go Go.RowKit

theorem cells_mailB {w : World} {k : Nat} {m : MailD} {a1 : Option Addr} {c1 : Nat} {a2 : Option Addr} {c2 : Nat} (h : CellsM w k (mailV m a1 c1 a2 c2).toList) : w.cell? ⟨k, 0, none⟩ = some (.string m.fu) ∧ w.cell? ⟨k, 1, none⟩ = some (.string m.fd) ∧ w.cell? ⟨k, 2, none⟩ = some (.slice a1 m.rc.length c1) ∧ w.cell? ⟨k, 3, none⟩ = some (.slice a2 m.body.length c2) :=
  ⟨h.c 0 _ rfl, h.c 1 _ rfl, h.c 2 _ rfl, h.c 3 _ rfl⟩
theorem setR_zeros (n : Nat) : setR (List.replicate n 0) = List.replicate n 3 := by
  unfold setR
  rw [List.map_replicate]
  rfl
theorem outcB_zeros (n : Nat) : outcB (List.replicate n 0) = true := by
  unfold outcB
  rw [List.all_eq_true]
  intro x hx
  rw [(List.mem_replicate.1 hx).2]
  rfl
theorem cliB_new {nm : ByteArray} {m : MailD} (hd : domB nm = true) (hv : mailB m = true) : cliB ⟨nm, m, 0, 0, List.replicate m.rc.length 0⟩ = true := by
  unfold cliB
  simp [outcB_zeros, hd, hv, inB]

theorem cliNewR_name {nm : ByteArray} {m : MailD} (h : ¬ (cliNewR nm m).nm.toList = []) : domB nm = true ∧ mailB m = true ∧ cliNewR nm m = ⟨nm, m, 0, 0, List.replicate m.rc.length 0⟩ := by
  have e0 : noCli.nm.toList = [] := by
    rw [Lib.toList_data]
  unfold cliNewR at h ⊢
  cases hd : domB nm with
  | false => rw [hd] at h; exact absurd e0 h
  | true =>
    cases hv : mailB m with
    | false => rw [hd, hv] at h; exact absurd e0 h
    | true => exact ⟨rfl, rfl, rfl⟩
/-- What is known of a client's state at first that has a name. -/
theorem cliNewR_full {nm : ByteArray} {m : MailD} {x : CliD} (hx : cliNewR nm m = x) (h : ¬ x.nm.toList = []) : cliB x = true ∧ outsR x = List.replicate m.rc.length 3 ∧ x.nm = nm ∧ x.m = m ∧ x.outs.length = m.rc.length := by
  rw [← hx] at h
  obtain ⟨hd, hv, e⟩ := cliNewR_name h
  rw [← hx, e]
  have hb := cliB_new hd hv
  exact ⟨hb, by unfold outsR; rw [hb, if_pos rfl]; exact setR_zeros _, rfl, rfl, List.length_replicate⟩

set_option maxHeartbeats 6400000 in
set_option maxRecDepth 100000 in
theorem wFnCliNew.walk (ao : Option Addr) (len cap : Nat) (w : World) (hr : ByteRow w ao len) (hl : len ≤ cap) (hc : cap ≤ maxLen) (hm : HasMax w) :
    Calls Tryd.prog 4 #[.slice ao len cap] w fun e w' => e = .returned (.bool true) ∧ Below w.heap.size w w' := by
  have hc' := hc
  unfold maxLen at hc'
  by_cases hbig : 1048576 < len
  · clear hr hm
    go_enter Tryd.func4, Tryd.ntmps4
    go_wp2
    go_ret
    exact ⟨rfl, Below.refl _ _⟩
  have CD : Seal _ := ⟨drawCliNew_any ao len cap w hr hl hc⟩
  have HM : Seal (HasMax w) := ⟨hm⟩
  clear hr hc hm
  go_enter Tryd.func4, Tryd.ntmps4
  go_wp2_with fail
  refine CD.out.mono ?_
  rintro e w1 ⟨nm, m, a1, c1, a2, c2, hn, rfl, o1, hd, b1⟩
  have S1 : Seal _ := ⟨((St.start w).mail b1 o1).alloc (mailV m a1 c1 a2 c2) 41⟩
  have zr := hd.rc
  have zb := hd.body
  have HZ : Seal (MailSz 1048576 m) := ⟨hd.sz.mono (by omega)⟩
  have zx := cliNewR_lens (nm := nm) HZ.out.rcl HZ.out.bol
  obtain ⟨x, hx⟩ : ∃ x, cliNewR nm m = x := ⟨_, rfl⟩
  rw [hx] at zx
  obtain ⟨z1, z2, z3⟩ := zx
  have CS : Seal (∀ B W b1 d1 b2 d2, MailOwn W B m b1 d1 b2 d2 → Calls Tryd.prog 26 #[.string nm, .agg (mailV m b1 d1 b2 d2)] W (NewC x W)) := ⟨fun B W b1 d1 b2 d2 ho => hx ▸ specCliNew_any B nm m b1 d1 b2 d2 W (by omega) ho HZ.out⟩
  have CI : Seal (∀ B W b1 d1 b2 d2, HasMax W → MailOwn W B m b1 d1 b2 d2 → Calls Tryd.prog 24 #[.string nm, .agg (mailV m b1 d1 b2 d2)] W (NewC x W)) := ⟨fun B W b1 d1 b2 d2 hW ho => hx ▸ implCliNew_any B nm m b1 d1 b2 d2 W hW (by omega) ho HZ.out⟩
  have HX : Seal _ := ⟨hx⟩
  clear b1 CD o1 hd hx
  go_wp2_with fail
  refine (CI.out _ _ a1 c1 a2 c2 (HM.out.below S1.out.below (Nat.le_refl _)) S1.out.two.mailOwn).mono ?_
  rintro e w2 ⟨q1, j1, q2, j2, q3, j3, rfl, o2, b2⟩
  have S2' := S1.out.cli b2 o2
  have S2 : Seal _ := ⟨S2'.alloc (cliV x q1 j1 q2 j2 q3 j3) 46⟩
  have hsW : (w2.alloc (.cells (cliV x q1 j1 q2 j2 q3 j3) 46)).heap.size = w2.heap.size + 1 := by simp
  clear b2 o2 S1 CI S2'
  go_wp2_with fail
  generalize hW : w2.alloc (.cells (cliV x q1 j1 q2 j2 q3 j3) 46) = W at *
  clear hW hsW
  obtain ⟨x0, x1, x2, x3, x4, x5, x6, x7⟩ := cells_cli S2.out.head
  obtain ⟨g0, g1, g2, g3⟩ := cells_mailB (S2.out.get (r := Res.cells w1.heap.size (mailV m a1 c1 a2 c2).toList) (by simp))
  have lt1 := S2.out.head.lt
  have lt2 := (S2.out.get (r := Res.cells w1.heap.size (mailV m a1 c1 a2 c2).toList) (by simp)).lt
  have S2d : Seal _ := ⟨S2.out.drew⟩
  by_cases hnm : x.nm.toList.isEmpty = true
  · go_region_with (first | (go_at_call 26; refine (CS.out _ _ a1 c1 a2 c2 S2d.out.four.mailOwn).mono ?_; rintro e w4 ⟨p1, k1, p2, k2, p3, k3, rfl, o4, b4⟩; have S4 : Seal _ := ⟨S2d.out.cli b4 o4⟩; obtain ⟨y0, y1, y2, y3, y4, y5, y6, y7⟩ := cells_cli S4.out.two.head; clear o4 b4) | (go_at_call 25; refine (saCliEq x q1 j1 q2 j2 q3 j3 p1 k1 p2 k2 p3 k3 _ (S4.out.get (r := Res.cli x q1 j1 q2 j2 q3 j3) (by simp)).at S4.out.cliAt z1 z2 z3).mono ?_; rintro e w5 ⟨rfl, b5⟩; have S5 : Seal _ := ⟨S4.out.tail.later b5⟩; have n0 := S5.out.head.c 0 _ rfl; have lt5 := S5.out.head.lt; clear b5))
    all_goals
      clear S4 S2 S2d n0 lt5 lt1 lt2 x0 x1 x2 x3 x4 x5 x6 x7 g0 g1 g2 g3 y0 y1 y2 y3 y4 y5 y6 y7
      obtain ⟨x0, x1, x2, x3, x4, x5, x6, x7⟩ := cells_cli S5.out.head
      obtain ⟨g0, g1, g2, g3⟩ := cells_mailB (S5.out.get (r := Res.cells w1.heap.size (mailV m a1 c1 a2 c2).toList) (by simp))
      have lt1 := S5.out.head.lt
      have lt2 := (S5.out.get (r := Res.cells w1.heap.size (mailV m a1 c1 a2 c2).toList) (by simp)).lt
      have S5d : Seal _ := ⟨S5.out.drew⟩
      go_wp2_with fail
      go_region_with (first | (go_at_call 26; refine (CS.out _ _ a1 c1 a2 c2 S5d.out.four.mailOwn).mono ?_; rintro e w6 ⟨t1, i1, t2, i2, t3, i3, rfl, o4, b4⟩; have S6 : Seal _ := ⟨S5d.out.cli b4 o4⟩; obtain ⟨y0, y1, y2, y3, y4, y5, y6, y7⟩ := cells_cli S6.out.two.head; clear o4 b4) | (go_at_call 25; refine (saCliEq x q1 j1 q2 j2 q3 j3 t1 i1 t2 i2 t3 i3 _ (S6.out.get (r := Res.cli x q1 j1 q2 j2 q3 j3) (by simp)).at S6.out.cliAt z1 z2 z3).mono ?_; rintro e w7 ⟨rfl, b5⟩; have S7 : Seal _ := ⟨S6.out.tail.later b5⟩; have n1 := S7.out.head.c 0 _ rfl; have lt7 := S7.out.head.lt; clear b5))

      all_goals
        go_wp2
        go_ret
        exact ⟨rfl, S7.out.below⟩
  · obtain ⟨hb, hR, en, em, eo⟩ := cliNewR_full HX.out (fun e => hnm (by rw [e]; rfl))
    have hnm : x.nm.toList.isEmpty = false := by simpa using hnm
    have HB : Seal (cliB x = true) := ⟨hb⟩
    obtain ⟨R, hRx⟩ : ∃ R, outsR x = R := ⟨_, rfl⟩
    have hRl : R.length = m.rc.length := by rw [← hRx, hR, List.length_replicate]
    have hR3 : ∀ (k : Nat) (y : Int), R[k]? = some y → y = 3 := fun k y h => by
      rw [← hRx, hR, List.getElem?_replicate] at h
      split at h
      · exact (Option.some.inj h).symm
      · cases h
    have HR : Seal (outsR x = R) := ⟨hRx⟩
    have HZx : Seal (CliSz 1048576 x) := ⟨⟨by rw [en]; omega, by rw [em]; exact HZ.out, z3⟩⟩
    clear hb hR hRx en em eo
    go_region_with (first | (go_at_call 26; refine (CS.out _ _ a1 c1 a2 c2 S2d.out.four.mailOwn).mono ?_; rintro e w4 ⟨p1, k1, p2, k2, p3, k3, rfl, o4, b4⟩; have S4 : Seal _ := ⟨S2d.out.cli b4 o4⟩; obtain ⟨y0, y1, y2, y3, y4, y5, y6, y7⟩ := cells_cli S4.out.two.head; clear o4 b4) | (go_at_call 25; refine (saCliEq x q1 j1 q2 j2 q3 j3 p1 k1 p2 k2 p3 k3 _ (S4.out.get (r := Res.cli x q1 j1 q2 j2 q3 j3) (by simp)).at S4.out.cliAt z1 z2 z3).mono ?_; rintro e w5 ⟨rfl, b5⟩; have S5 : Seal _ := ⟨S4.out.tail.later b5⟩; have n0 := S5.out.head.c 0 _ rfl; have lt5 := S5.out.head.lt; clear b5))
    all_goals
      clear S4 S2 S2d n0 lt5 lt1 lt2 x0 x1 x2 x3 x4 x5 x6 x7 g0 g1 g2 g3 y0 y1 y2 y3 y4 y5 y6 y7
      obtain ⟨x0, x1, x2, x3, x4, x5, x6, x7⟩ := cells_cli S5.out.head
      go_wp2_with fail
      refine (implCliOuts_any w.heap.size x q1 j1 q2 j2 q3 j3 _ (HM.out.below S5.out.below (Nat.le_refl _)) S5.out.two.cliOwn HZx.out).mono ?_
      rw [HR.out, hRl]
      rintro e w6 ⟨ro, rd, rfl, r6, b6⟩
      have S6 : Seal _ := ⟨S5.out.later b6⟩
      have I6 : Seal (IntRow w6 ro R) := ⟨IntRow.of_own (by rw [hRl]; exact r6)⟩
      clear b6 r6 S5 x0 x1 x2 x3 x4 x5 x6 x7
      go_wp2
      go_loopw [7] (fun i wr => ∃ k : Nat, k ≤ m.rc.length ∧ i = .int .i64 k ∧ wr = w6) (fun i _ => m.rc.length - (intOf i).toNat)
      case atStart => exact ⟨0, Nat.zero_le _, rfl, rfl⟩
      case round =>
        obtain ⟨k, hk, rfl, rfl⟩ := hrel
        by_cases hlt : k < m.rc.length
        · obtain ⟨y, hy⟩ : ∃ y, R[k]? = some y := ⟨_, List.getElem?_eq_getElem (by omega)⟩
          obtain ⟨b, off, rfl, hcell⟩ := I6.out k y hy
          have hy3 := hR3 k y hy
          subst hy3
          clear hy
          go_wp2
          exact ⟨⟨k + 1, by omega, by go_num, by first | rfl | trivial⟩, by simp [intOf]; omega⟩
        · obtain ⟨x0, x1, x2, x3, x4, x5, x6, x7⟩ := cells_cli S6.out.head
          have MA : Seal _ := ⟨S6.out.two.cliAt⟩
          have hcap := S6.out.two.cliOwn.m.rc.cap
          have HM6 : Seal _ := ⟨HM.out.below S6.out.below (Nat.le_refl _)⟩
          go_wp2_with fail
          refine (implCliOk_any x q1 j1 q2 j2 q3 j3 _ HM6.out MA.out HZx.out hcap).mono ?_
          rw [HB.out]
          rintro e w7 ⟨rfl, b7⟩
          have S7 : Seal _ := ⟨S6.out.later b7⟩
          obtain ⟨g0, g1, g2, g3⟩ := cells_mailB (S7.out.get (r := Res.cells w1.heap.size (mailV m a1 c1 a2 c2).toList) (by simp))
          clear b7
          go_wp2
          go_ret
          exact ⟨rfl, S7.out.below⟩
end Go.Proofs.YtgjkoegpdfcadaaDoor
