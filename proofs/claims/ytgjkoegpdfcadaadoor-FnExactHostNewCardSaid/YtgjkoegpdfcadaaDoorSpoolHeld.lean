/- Contracts: marks written into a spool; whether a spool still holds its marks. -/
import Derived.Test.YtgjkoegpdfcadaaDoorSpoolMark
import Derived.Test.YtgjkoegpdfcadaaDoorHeld
namespace Go.Proofs.YtgjkoegpdfcadaaDoor
open Go Go.RowKit

set_option maxRecDepth 100000 in
theorem markSpool_any {X : Nat → Prop} (l : List Res) (k : Nat) (s : SpoolD) (ao : Option Addr) (cap : Nat) (ps : List ItemV) (hp : ps.length = s.items.length) (w0 w : World) (h : StX X w0 w (itemsR ao cap s.items ps ++ l)) (hl : k + sumN itemMarks s.items ≤ 16777216) (hl2 : s.items.length ≤ 1048576) :
    Calls Tryd.prog 53 #[.agg (spoolV s ao cap), .int .i64 k] w fun e w' => e = .returned (.int .i64 ((k + sumN itemMarks s.items : Nat) : Int)) ∧ StX X w0 w' (itemsR ao cap (markIs k s.items) ps ++ l) := by
  have C : Seal _ := ⟨markItemS_any l k ao cap s.items ps hp w0 _ (h.more (.cells (spoolV s ao cap) 55)) hl hl2⟩
  clear h hl hp
  go_enter Tryd.func53, Tryd.ntmps53
  go_wp2_with fail
  refine C.out.mono ?_
  rintro e w1 ⟨rfl, h1⟩
  have S1 : Seal _ := ⟨h1⟩
  clear h1 C
  go_wp2
  go_ret
  exact ⟨by first | rfl | simp, S1.out⟩

set_option maxHeartbeats 3200000 in
set_option maxRecDepth 100000 in
theorem heldRcptS_any (ao : Option Addr) (cap k N : Nat) (w : World) (hr : RcptRow w ao (rcMarks k N)) (hl : k + N * 4 ≤ 16777216) :
    Calls Tryd.prog 251 #[.slice ao N cap, .int .i64 k] w fun e w' => e = .returned (.int .i64 ((k + N * 4 : Nat) : Int)) ∧ Below w.heap.size w w' := by
  have HR : Seal _ := ⟨hr⟩
  clear hr
  go_enter Tryd.func251, Tryd.ntmps251
  go_wp2
  go_loopw [1, 5] (fun c i wr => ∃ n : Nat, n ≤ N ∧ i = .int .i64 n ∧ c = .int .i64 ((k + n * 4 : Nat) : Int) ∧ Seal (Below w.heap.size w wr)) (fun _ i _ => N - (intOf i).toNat)
  case atStart => exact ⟨0, Nat.zero_le _, rfl, rfl, ⟨Below.refl _ _⟩⟩
  case round =>
    obtain ⟨n, hn, rfl, rfl, hb⟩ := hrel
    by_cases hlt : n < N
    · obtain ⟨b, off, rfl, c0, c1, c2, c3⟩ := rcptAt (HR.out.below rcptP_stays hb.out (Nat.le_refl _)) (rcMarks_get hlt)
      unfold markOneR at c0 c1 c2 c3
      dsimp only at c0 c1 c2 c3
      have hkn : k + n * 4 ≤ 16777216 := by omega
      have hkm : k + n * 4 + 1 ≤ 16777216 := by omega
      go_wp2_with fail
      go_region_held3 (fun w' => w'.cell? ⟨b, off + n * 4, none⟩ = some (.string (markT (k + n * 4))) ∧ w'.cell? ⟨b, off + n * 4 + 1, none⟩ = some (.string (markT (k + n * 4 + 1))) ∧ w'.cell? ⟨b, off + n * 4 + 2, none⟩ = some (.int .i64 ((k + n * 4 + 2 : Nat) : Int)) ∧ w'.cell? ⟨b, off + n * 4 + 3, none⟩ = some (.int .i64 ((k + n * 4 + 3 : Nat) : Int)) ∧ Below wr.heap.size wr w') (first | exact ⟨c0, c1, c2, c3, (Below.refl _ _).drew⟩ | (go_split_ands; exact ⟨heldc (by assumption) hb1, heldc (by assumption) hb1, heldc (by assumption) hb1, heldc (by assumption) hb1, (by assumption : Below wr.heap.size wr _).trans (hb1.mono (by assumption : Below wr.heap.size wr _).size)⟩) | (go_split_ands; exact ⟨by assumption, by assumption, by assumption, by assumption, Below.drew (by assumption)⟩) | (go_split_ands; exact ⟨by assumption, by assumption, by assumption, by assumption, by assumption⟩)) (first | (go_at_call 198; refine (markText_int _ (k + n * 4) rfl hkn _).mono ?_; rintro e w1 ⟨rfl, hb1⟩))
      go_split_ands
      clear c0 c1 c2 c3
      have d0 := (by assumption : w1.cell? ⟨b, off + n * 4, none⟩ = _)
      have d1 := (by assumption : w1.cell? ⟨b, off + n * 4 + 1, none⟩ = _)
      have d2 := (by assumption : w1.cell? ⟨b, off + n * 4 + 2, none⟩ = _)
      have d3 := (by assumption : w1.cell? ⟨b, off + n * 4 + 3, none⟩ = _)
      have hbx := (by assumption : Below wr.heap.size wr w1)
      have HB1 : Seal _ := ⟨hb.out.trans (hbx.mono hb.out.size)⟩
      clear hb hbx hb1
      go_wp2_with fail
      go_region_held3 (fun w' => w'.cell? ⟨b, off + n * 4, none⟩ = some (.string (markT (k + n * 4))) ∧ w'.cell? ⟨b, off + n * 4 + 1, none⟩ = some (.string (markT (k + n * 4 + 1))) ∧ w'.cell? ⟨b, off + n * 4 + 2, none⟩ = some (.int .i64 ((k + n * 4 + 2 : Nat) : Int)) ∧ w'.cell? ⟨b, off + n * 4 + 3, none⟩ = some (.int .i64 ((k + n * 4 + 3 : Nat) : Int)) ∧ Below w1.heap.size w1 w') (first | exact ⟨d0, d1, d2, d3, (Below.refl _ _).drew⟩ | (go_split_ands; exact ⟨heldc (by assumption) hb2, heldc (by assumption) hb2, heldc (by assumption) hb2, heldc (by assumption) hb2, (by assumption : Below w1.heap.size w1 _).trans (hb2.mono (by assumption : Below w1.heap.size w1 _).size)⟩) | (go_split_ands; exact ⟨by assumption, by assumption, by assumption, by assumption, Below.drew (by assumption)⟩) | (go_split_ands; exact ⟨by assumption, by assumption, by assumption, by assumption, by assumption⟩)) (first | (go_at_call 198; refine (markText_int _ (k + n * 4 + 1) (by push_cast; omega) hkm _).mono ?_; rintro e w2 ⟨rfl, hb2⟩))
      go_split_ands
      have hbx := (by assumption : Below w1.heap.size w1 _)
      have HB2 : Seal _ := ⟨HB1.out.trans (hbx.mono HB1.out.size)⟩
      clear hbx d0 d1 d2 d3
      go_wp2
      go_roundw
      case rel => exact ⟨n + 1, by omega, by go_num, by go_num, HB2⟩
      case measure => simp [intOf]; omega
    · obtain rfl : n = N := by omega
      go_wp2
      go_ret
      exact ⟨rfl, hb.out⟩

theorem markIs_get : ∀ {k : Nat} {xs : List ItemD} {n : Nat} {x : ItemD}, xs[n]? = some x → (markIs k xs)[n]? = some (markItem (k + sumN itemMarks (xs.take n)) x)
  | _, [], _, _, h => by cases h
  | k, y :: ys, 0, x, h => by cases h; rfl
  | k, y :: ys, n + 1, x, h => by
    have h' : ys[n]? = some x := h
    have ih := markIs_get (k := k + itemMarks y) h'
    have e : k + itemMarks y + sumN itemMarks (ys.take n) = k + sumN itemMarks ((y :: ys).take (n + 1)) := by
      rw [List.take_succ_cons]; unfold sumN; rw [List.map_cons, List.sum_cons]; omega
    rw [e] at ih
    exact ih

set_option maxHeartbeats 6400000 in
set_option maxRecDepth 100000 in
theorem heldItemS_any (ao : Option Addr) (cap k : Nat) (xs : List ItemD) (w : World) (hr : ItemRow w ao (markIs k xs)) (hl : k + sumN itemMarks xs ≤ 16777216) (hl2 : xs.length ≤ 1048576) :
    Calls Tryd.prog 219 #[.slice ao xs.length cap, .int .i64 k] w fun e w' => e = .returned (.int .i64 ((k + sumN itemMarks xs : Nat) : Int)) ∧ Below w.heap.size w w' := by
  have HR : Seal _ := ⟨hr⟩
  have HL : Seal _ := ⟨hl⟩
  clear hr hl
  go_enter Tryd.func219, Tryd.ntmps219
  go_wp2
  go_loopw [1, 5] (fun c i wr => ∃ n ki : Nat, n ≤ xs.length ∧ i = .int .i64 n ∧ c = .int .i64 (ki : Int) ∧ Seal (k + sumN itemMarks (xs.take n) = ki) ∧ Seal (Below w.heap.size w wr)) (fun _ i _ => xs.length - (intOf i).toNat)
  case atStart => exact ⟨0, k, Nat.zero_le _, rfl, rfl, ⟨by simp [sumN]⟩, ⟨Below.refl _ _⟩⟩
  case round =>
    obtain ⟨n, ki, hn, rfl, rfl, HK, hb⟩ := hrel
    by_cases hlt : n < xs.length
    · obtain ⟨x, hx⟩ : ∃ x, xs[n]? = some x := ⟨_, List.getElem?_eq_getElem hlt⟩
      have hg := markIs_get (k := k) hx
      rw [HK.out] at hg
      obtain ⟨b, off, p, rfl, c0, c1, c2, c3, c4, ia⟩ := itemAt (HR.out.below itemP_stays hb.out (Nat.le_refl _)) hg
      have e3 : (markItem ki x).rc.length = x.rc.length := rcMarks_length _ _
      have e4 : (markItem ki x).body.length = x.body.length := markRow_length _ _
      rw [e3] at c3
      rw [e4] at c4
      unfold markItem at c0 c1 c2
      dsimp only at c0 c1 c2
      have IA : Seal (RcptRow wr p.a1 (rcMarks (ki + 3) x.rc.length) ∧ StrRow wr p.a2 (markRow (ki + 3 + x.rc.length * 4) x.body.length)) := ⟨ia.rc, ia.body⟩
      have hki : ki + itemMarks x = k + sumN itemMarks (xs.take (n + 1)) := by rw [sumN_snoc itemMarks hx, ← HK.out]; omega
      have HKI : Seal (k + sumN itemMarks (xs.take (n + 1)) = ki + itemMarks x) := ⟨hki.symm⟩
      have hbd : ki + itemMarks x ≤ 16777216 := by
        have h1 := sumN_split itemMarks xs (n + 1)
        have h2 := HL.out
        omega
      have hb2 : ki + 3 + x.rc.length * 4 + x.body.length ≤ 16777216 := by unfold itemMarks at hbd; omega
      have hk1 : ki + 1 ≤ 16777216 := by omega
      have hk2 : ki + 2 ≤ 16777216 := by omega
      have q0 : ((ki : Int) != (ki : Int)) = false := by simp
      clear hx hg ia e3 e4 hki hbd
      go_wp2_with fail
      go_region_held3 (fun w' => w'.cell? ⟨b, off + n * 5, none⟩ = some (.int .i64 (ki : Int)) ∧ w'.cell? ⟨b, off + n * 5 + 1, none⟩ = some (.string (markT (ki + 1))) ∧ w'.cell? ⟨b, off + n * 5 + 2, none⟩ = some (.string (markT (ki + 2))) ∧ w'.cell? ⟨b, off + n * 5 + 3, none⟩ = some (.slice p.a1 x.rc.length p.c1) ∧ w'.cell? ⟨b, off + n * 5 + 4, none⟩ = some (.slice p.a2 x.body.length p.c2) ∧ Below wr.heap.size wr w') (first | exact ⟨c0, c1, c2, c3, c4, (Below.refl _ _).drew⟩ | (go_split_ands; exact ⟨heldc (by assumption) hb1, heldc (by assumption) hb1, heldc (by assumption) hb1, heldc (by assumption) hb1, heldc (by assumption) hb1, (by assumption : Below wr.heap.size wr _).trans (hb1.mono (by assumption : Below wr.heap.size wr _).size)⟩) | (go_split_ands; exact ⟨by assumption, by assumption, by assumption, by assumption, by assumption, Below.drew (by assumption)⟩) | (go_split_ands; exact ⟨by assumption, by assumption, by assumption, by assumption, by assumption, by assumption⟩)) (first | (go_at_call 198; refine (markText_int _ (ki + 1) (by push_cast; omega) hk1 _).mono ?_; rintro e w1 ⟨rfl, hb1⟩))
      go_split_ands
      clear c0 c1 c2 c3 c4
      have d0 := (by assumption : w1.cell? ⟨b, off + n * 5, none⟩ = _)
      have d1 := (by assumption : w1.cell? ⟨b, off + n * 5 + 1, none⟩ = _)
      have d2 := (by assumption : w1.cell? ⟨b, off + n * 5 + 2, none⟩ = _)
      have d3 := (by assumption : w1.cell? ⟨b, off + n * 5 + 3, none⟩ = _)
      have d4 := (by assumption : w1.cell? ⟨b, off + n * 5 + 4, none⟩ = _)
      have hbx := (by assumption : Below wr.heap.size wr w1)
      have HB1 : Seal _ := ⟨hb.out.trans (hbx.mono hb.out.size)⟩
      have IA1 : Seal (RcptRow w1 p.a1 (rcMarks (ki + 3) x.rc.length) ∧ StrRow w1 p.a2 (markRow (ki + 3 + x.rc.length * 4) x.body.length)) := ⟨IA.out.1.later rcptP_stays hbx, IA.out.2.below hbx (Nat.le_refl _)⟩
      clear hb hbx hb1 IA
      go_wp2_with fail
      go_region_held3 (fun w' => w'.cell? ⟨b, off + n * 5, none⟩ = some (.int .i64 (ki : Int)) ∧ w'.cell? ⟨b, off + n * 5 + 1, none⟩ = some (.string (markT (ki + 1))) ∧ w'.cell? ⟨b, off + n * 5 + 2, none⟩ = some (.string (markT (ki + 2))) ∧ w'.cell? ⟨b, off + n * 5 + 3, none⟩ = some (.slice p.a1 x.rc.length p.c1) ∧ w'.cell? ⟨b, off + n * 5 + 4, none⟩ = some (.slice p.a2 x.body.length p.c2) ∧ Below w1.heap.size w1 w') (first | exact ⟨d0, d1, d2, d3, d4, (Below.refl _ _).drew⟩ | (go_split_ands; exact ⟨heldc (by assumption) hb2, heldc (by assumption) hb2, heldc (by assumption) hb2, heldc (by assumption) hb2, heldc (by assumption) hb2, (by assumption : Below w1.heap.size w1 _).trans (hb2.mono (by assumption : Below w1.heap.size w1 _).size)⟩) | (go_split_ands; exact ⟨by assumption, by assumption, by assumption, by assumption, by assumption, Below.drew (by assumption)⟩) | (go_split_ands; exact ⟨by assumption, by assumption, by assumption, by assumption, by assumption, by assumption⟩)) (first | (go_at_call 198; refine (markText_int _ (ki + 2) (by push_cast; omega) hk2 _).mono ?_; rintro e w2 ⟨rfl, hb2⟩))
      go_split_ands
      have hbx := (by assumption : Below w1.heap.size w1 w2)
      have HB2 : Seal _ := ⟨HB1.out.trans (hbx.mono HB1.out.size)⟩
      have IA2 : Seal (RcptRow w2 p.a1 (rcMarks (ki + 3) x.rc.length) ∧ StrRow w2 p.a2 (markRow (ki + 3 + x.rc.length * 4) x.body.length)) := ⟨IA1.out.1.later rcptP_stays hbx, IA1.out.2.below hbx (Nat.le_refl _)⟩
      clear d0 d1 d2 d3 d4
      have d3 := (by assumption : w2.cell? ⟨b, off + n * 5 + 3, none⟩ = _)
      have d4 := (by assumption : w2.cell? ⟨b, off + n * 5 + 4, none⟩ = _)
      have q3 : (ki : Int) + 1 + 1 + 1 = ((ki + 3 : Nat) : Int) := by push_cast; omega
      clear hbx hb2 IA1 HB1
      go_wp2_with fail
      refine (heldRcptS_any p.a1 p.c1 (ki + 3) x.rc.length _ IA2.out.1 (by omega)).mono ?_
      rintro e w3 ⟨rfl, hb3⟩
      have HB3 : Seal _ := ⟨HB2.out.trans (hb3.mono HB2.out.size)⟩
      have d4' := heldc d4 hb3
      have IA3 : Seal (StrRow w3 p.a2 (markRow (ki + 3 + x.rc.length * 4) x.body.length)) := ⟨IA2.out.2.below hb3 (Nat.le_refl _)⟩
      clear d3 d4 hb3 IA2 HB2
      go_wp2_with fail
      refine (heldStringS_own p.a2 p.c2 (ki + 3 + x.rc.length * 4) x.body.length _ IA3.out (by omega)).mono ?_
      rintro e w4 ⟨rfl, hb4⟩
      have HB4 : Seal _ := ⟨HB3.out.trans (hb4.mono HB3.out.size)⟩
      clear hb4 HB3 IA3 d4'
      go_wp2
      go_roundw
      case rel => exact ⟨n + 1, ki + itemMarks x, by omega, by go_num, by first | rfl | (unfold itemMarks; go_num) | (unfold itemMarks; simp; omega), HKI, HB4⟩
      case measure => simp [intOf]; omega
    · obtain rfl : n = xs.length := by omega
      have hk := HK.out
      rw [List.take_length] at hk
      subst hk
      clear HK
      go_wp2
      go_ret
      exact ⟨rfl, hb.out⟩

set_option maxRecDepth 100000 in
theorem heldSpool_any (k : Nat) (s : SpoolD) (n : Nat) (hn : n = s.items.length) (ao : Option Addr) (cap : Nat) (last : Int) (w : World) (hr : ItemRow w ao (markIs k s.items)) (hl : k + sumN itemMarks s.items ≤ 16777216) (hl2 : s.items.length ≤ 1048576) :
    Calls Tryd.prog 147 #[.agg #[.int .i64 last, .slice ao n cap], .int .i64 k] w fun e w' => e = .returned (.int .i64 ((k + sumN itemMarks s.items : Nat) : Int)) ∧ Below w.heap.size w w' := by
  subst hn
  have S0 : Seal _ := ⟨(St.start w).alloc #[.int .i64 last, .slice ao s.items.length cap] 55⟩
  have C : Seal _ := ⟨heldItemS_any ao cap k s.items _ (hr.below itemP_stays S0.out.below (Nat.le_refl _)) hl hl2⟩
  clear hr hl
  obtain ⟨m, hm⟩ : ∃ m, k + sumN itemMarks s.items = m := ⟨_, rfl⟩
  rw [hm] at C ⊢
  clear hm
  go_enter Tryd.func147, Tryd.ntmps147
  go_wp2_with fail
  refine C.out.mono ?_
  rintro e w1 ⟨rfl, hb1⟩
  have S1 : Seal _ := ⟨S0.out.later hb1⟩
  clear hb1 C S0
  go_wp2
  go_ret
  exact ⟨rfl, S1.out.below⟩
end Go.Proofs.YtgjkoegpdfcadaaDoor
