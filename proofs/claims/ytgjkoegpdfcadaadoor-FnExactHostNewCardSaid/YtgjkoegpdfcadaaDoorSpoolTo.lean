/- Contracts: the laws' copies of spools. -/
import Derived.Test.YtgjkoegpdfcadaaDoorSpoolSz
namespace Go.Proofs.YtgjkoegpdfcadaaDoor
open Go Go.RowKit

theorem infoRcpt : (Tryd.prog.info? 66).map (fun i => (i.zero, i.size, i.bytes)) = some (some (.agg #[.string ByteArray.empty, .string ByteArray.empty, .int .i64 0, .int .i64 0]), 4, 48) := by kernel_rfl
theorem infoItem : (Tryd.prog.info? 64).map (fun i => (i.zero, i.size, i.bytes)) = some (some (.agg #[.int .i64 0, .string ByteArray.empty, .string ByteArray.empty, .slice none 0 0, .slice none 0 0]), 5, 88) := by kernel_rfl
abbrev noRcpt : Array Value := #[.string { data := #[] }, .string { data := #[] }, .int .i64 0, .int .i64 0]
abbrev noItem : Array Value := #[.int .i64 0, .string { data := #[] }, .string { data := #[] }, .slice none 0 0, .slice none 0 0]

set_option maxHeartbeats 800000 in
set_option maxRecDepth 100000 in
theorem toRcpt_any (x : RcptD) (w : World) :
    Calls Tryd.prog 264 #[.agg (rcptV x)] w fun e w' => e = .returned (.agg (rcptV x)) ∧ Below w.heap.size w w' := by
  have s0 := (((St.start w).alloc (rcptV x) 265).alloc noRcpt 66).alloc noRcpt 66
  simp only [World.size_alloc] at s0
  have S0 : Seal _ := ⟨s0⟩
  clear s0
  go_enter Tryd.func264, Tryd.ntmps264
  go_wp2_with fail
  refine (toAddr_any x.u x.d _).mono ?_
  rintro e w1 ⟨rfl, hb1⟩
  have S1 : Seal _ := ⟨S0.out.later hb1⟩
  have P1 := S1.out.head
  have o0 := P1.c 0 _ rfl
  have o1 := P1.c 1 _ rfl
  have o2 := P1.c 2 _ rfl
  have o3 := P1.c 3 _ rfl
  have f0 := P1.f 0 (by simp)
  have f1 := P1.f 1 (by simp)
  have f2 := P1.f 2 (by simp)
  have f3 := P1.f 3 (by simp)
  have R1 := S1.out.two.head
  have r0 := R1.c 0 _ rfl
  have r1 := R1.c 1 _ rfl
  have r2 := R1.c 2 _ rfl
  have r3 := R1.c 3 _ rfl
  have h0 := R1.f 0 (by simp)
  have h1 := R1.f 1 (by simp)
  have h2 := R1.f 2 (by simp)
  have h3 := R1.f 3 (by simp)
  have A1 := S1.out.three.head
  have g2 := A1.c 2 _ rfl
  have g3 := A1.c 3 _ rfl
  have hn : w.heap.size + 1 + 1 ≠ w.heap.size + 1 := by omega
  have hn' : w.heap.size + 1 + 1 ≠ w.heap.size := by omega
  clear P1 R1 A1 hb1 S0
  go_wp2
  refine bodyPost_ret (v := .agg (rcptV x)) (by simp [results, Tryd.results264, go_sem, r0, r1, r2, r3]) rfl ⟨rfl, ?_⟩
  iterate 8 (refine Below.setCell ?_ (by simp <;> omega) _)
  exact S1.out.below

set_option maxHeartbeats 1600000 in
set_option maxRecDepth 100000 in
theorem toRcptS_any (ao : Option Addr) (cap : Nat) (xs : List RcptD) (w : World) (hr : RcptRow w ao xs) (hl : xs.length ≤ 1048576) :
    Calls Tryd.prog 247 #[.slice ao xs.length cap] w fun e w' => ∃ bo c, e = .returned (.slice bo xs.length c) ∧ St w w' [rcptsR bo c xs] := by
  obtain ⟨i0, hi, hz0, hz1, hz2⟩ := info_parts infoRcpt
  have HR : Seal _ := ⟨hr⟩
  clear hr
  go_enter Tryd.func247, Tryd.ntmps247
  go_wp2_with (at_make; refine wpList_make_full _ rfl _ _ 62 rfl w.heap.size 66 i0 (.agg #[.string ByteArray.empty, .string ByteArray.empty, .int .i64 0, .int .i64 0]) 4 Tryd.underlying62 hi hz0 hz1 .i64 .i64 xs.length xs.length xs.length rfl rfl rfl rfl ?b2 ?b3 ?b4 ?_)
  case b2 => rw [hz2]; omega
  case b3 => unfold maxLen; omega
  case b4 => exact Nat.le_refl _
  intro w1 hown1 hgrow1
  have S1 : Seal _ := ⟨rcptE.make (e := 66) _ rfl (by decide) hown1 hgrow1 xs⟩
  clear hown1 hgrow1
  go_wp2
  go_loopw [4] (fun i wr => ∃ (k : Nat) (ps : List Unit), k ≤ xs.length ∧ i = .int .i64 k ∧ ps.length = k ∧ Seal (St w wr (Res.row 66 rcptE.size (.slice (some ⟨w.heap.size, 0, none⟩) xs.length xs.length) xs.length (rcptE.part (#[.string ByteArray.empty, .string ByteArray.empty, .int .i64 0, .int .i64 0] : Array Value).toList (xs.take k) ps (xs.length - k)) :: (rcptE.ress (xs.take k) ps ++ [])))) (fun i _ => xs.length - (intOf i).toNat)
  case atStart => exact ⟨0, [], Nat.zero_le _, rfl, rfl, S1⟩
  case round =>
    obtain ⟨k, ps, hk, rfl, hps, S⟩ := hrel
    clear S1
    by_cases hlt : k < xs.length
    · obtain ⟨x, hx⟩ : ∃ x, xs[k]? = some x := ⟨_, List.getElem?_eq_getElem hlt⟩
      obtain ⟨b, off, rfl, c0, c1, c2, c3⟩ := rcptAt (HR.out.below rcptP_stays S.out.below (Nat.le_refl _)) hx
      have HX : Seal _ := ⟨hx⟩
      have HP : Seal _ := ⟨hps⟩
      clear hx hps
      go_wp2_with fail
      refine (toRcpt_any x _).mono ?_
      rintro e w2 ⟨rfl, hb2⟩
      have ho := S.out.later hb2 |>.head
      have e0 : ∃ v, w2.cell? ⟨w.heap.size, k * 4, none⟩ = some v := row_cell ho (k * 4) (by show k * 4 < xs.length * 4; omega)
      have e1 : ∃ v, w2.cell? ⟨w.heap.size, k * 4 + 1, none⟩ = some v := row_cell ho (k * 4 + 1) (by show k * 4 + 1 < xs.length * 4; omega)
      have e2 : ∃ v, w2.cell? ⟨w.heap.size, k * 4 + 2, none⟩ = some v := row_cell ho (k * 4 + 2) (by show k * 4 + 2 < xs.length * 4; omega)
      have e3 : ∃ v, w2.cell? ⟨w.heap.size, k * 4 + 3, none⟩ = some v := row_cell ho (k * 4 + 3) (by show k * 4 + 3 < xs.length * 4; omega)
      obtain ⟨v0, e0⟩ := e0
      obtain ⟨v1, e1⟩ := e1
      obtain ⟨v2, e2⟩ := e2
      obtain ⟨v3, e3⟩ := e3
      have f0 := World.ownsRow.frozenAt ho (k * 4)
      have f1 := World.ownsRow.frozenAt ho (k * 4 + 1)
      have f2 := World.ownsRow.frozenAt ho (k * 4 + 2)
      have f3 := World.ownsRow.frozenAt ho (k * 4 + 3)
      have S2 : Seal (St w ((((w2.setCell ⟨w.heap.size, k * 4, none⟩ (.string x.u)).setCell ⟨w.heap.size, k * 4 + 1, none⟩ (.string x.d)).setCell ⟨w.heap.size, k * 4 + 2, none⟩ (.int .i64 x.tries)).setCell ⟨w.heap.size, k * 4 + 3, none⟩ (.int .i64 x.next)) _) := ⟨rcptE.next (p := ()) rfl HP.out HX.out S.out ((St.start _).later hb2)⟩
      clear ho hb2 S
      go_wp2
      go_roundw
      case rel => exact ⟨k + 1, ps ++ [()], by omega, by go_num, by simp [HP.out], S2⟩
      case measure => simp [intOf]; omega
    · obtain rfl : k = xs.length := by omega
      have S2 : Seal _ := ⟨rcptE.done S.out⟩
      go_wp2
      go_ret
      refine ⟨_, _, rfl, ?_⟩
      have e := units ps
      rw [hps] at e
      have := S2.out
      rw [e] at this
      unfold Elem.row at this
      rw [rcptE_ress] at this
      exact this

set_option maxHeartbeats 1600000 in
set_option maxRecDepth 100000 in
theorem toItem_any (x : ItemD) (p : ItemV) (w : World) (hat : ItemAt w x p) (hz : itemN x ≤ 1048576) :
    Calls Tryd.prog 196 #[.agg (itemV x p)] w fun e w' => ∃ q, e = .returned (.agg (itemV x q)) ∧ St w w' (itemE.res x q) := by
  obtain ⟨z1, z2, z3, _, z5, _⟩ := itemN_parts hz
  have HA : Seal _ := ⟨hat⟩
  have s0 := (((St.start w).alloc (itemV x p) 213).alloc noItem 64).alloc #[.int .i64 x.id, .string { data := #[] }, .string { data := #[] }, .slice none 0 0, .slice none 0 0] 64
  simp only [World.size_alloc] at s0
  have S0 : Seal _ := ⟨s0⟩
  clear s0 hat hz
  go_enter Tryd.func196, Tryd.ntmps196
  go_wp2_with fail
  refine (toAddr_any x.fu x.fd _).mono ?_
  rintro e w1 ⟨rfl, hb1⟩
  have s1 := S0.out.later hb1
  have P1 := s1.head
  have o1 := P1.c 1 _ rfl
  have o2 := P1.c 2 _ rfl
  have f1 := P1.f 1 (by simp)
  have f2 := P1.f 2 (by simp)
  have A1 := s1.three.head
  have g3 := A1.c 3 _ rfl
  have S1 : Seal _ := ⟨(s1.set 1 (.string x.fu) (by simp)).set 2 (.string x.fd) (by simp)⟩
  have hn : w.heap.size + 1 + 1 ≠ w.heap.size + 1 := by omega
  have hn' : w.heap.size + 1 + 1 ≠ w.heap.size := by omega
  clear P1 A1 hb1 S0 s1
  go_wp2_with fail
  refine (toRcptS_any p.a1 p.c1 x.rc _ (HA.out.rc.below rcptP_stays S1.out.below (Nat.le_refl _)) z3).mono ?_
  rintro e w2 ⟨q1, d1, rfl, k2⟩
  have s2 := (S1.out.join k2).two
  have P2 := s2.head
  have o3 := P2.c 3 _ rfl
  have f3 := P2.f 3 (by simp)
  have A2 := s2.four.head
  have g4 := A2.c 4 _ rfl
  have S2 : Seal _ := ⟨s2.set 3 (.slice q1 x.rc.length d1) (by simp)⟩
  clear P2 A2 k2 S1 s2 o1 o2 f1 f2 g3
  go_wp2_with fail
  refine (toStringS_row p.a2 p.c2 x.body _ (HA.out.body.below S2.out.below (Nat.le_refl _)) z5).mono ?_
  rintro e w3 ⟨q2, d2, rfl, k3, hb3⟩
  have s3 := (S2.out.row hb3 k3).two
  have P3 := s3.head
  have o4 := P3.c 4 _ rfl
  have f4 := P3.f 4 (by simp)
  have S3 : Seal _ := ⟨s3.set 4 (.slice q2 x.body.length d2) (by simp)⟩
  have O3 := S3.out.head
  have u0 := P3.c 0 _ rfl
  have u1 := P3.c 1 _ rfl
  have u2 := P3.c 2 _ rfl
  have u3 := P3.c 3 _ rfl
  have R3 := s3.four.head
  have r0 := R3.c 0 _ rfl
  have r1 := R3.c 1 _ rfl
  have r2 := R3.c 2 _ rfl
  have r3 := R3.c 3 _ rfl
  have r4 := R3.c 4 _ rfl
  have h0 := R3.f 0 (by simp)
  have h1 := R3.f 1 (by simp)
  have h2 := R3.f 2 (by simp)
  have h3 := R3.f 3 (by simp)
  have h4 := R3.f 4 (by simp)
  clear P3 k3 S2 s3 hb3 o3 f3 g4 O3 R3
  go_wp2
  refine bodyPost_ret (v := .agg (itemV x ⟨q1, d1, q2, d2⟩)) (by simp [results, Tryd.results196, go_sem, r0, r1, r2, r3, r4]) rfl ⟨⟨q1, d1, q2, d2⟩, rfl, ?_⟩
  have s4 := ((((S3.out.four.set 0 (.int .i64 x.id) (by simp)).set 1 (.string x.fu) (by simp)).set 2 (.string x.fd) (by simp)).set 3 (.slice q1 x.rc.length d1) (by simp)).set 4 (.slice q2 x.body.length d2) (by simp)
  exact s4.tail.tail.two.first (l := itemE.res x ⟨q1, d1, q2, d2⟩)

set_option maxHeartbeats 1600000 in
set_option maxRecDepth 100000 in
theorem toItemS_any (ao : Option Addr) (cap : Nat) (xs : List ItemD) (w : World) (hr : ItemRow w ao xs) (hl : xs.length ≤ 1048576) (hz : ∀ x ∈ xs, itemN x ≤ 1048576) :
    Calls Tryd.prog 122 #[.slice ao xs.length cap] w fun e w' => ∃ bo c ps, e = .returned (.slice bo xs.length c) ∧ ps.length = xs.length ∧ St w w' (itemsR bo c xs ps) := by
  obtain ⟨i0, hi, hz0, hz1, hz2⟩ := info_parts infoItem
  have HR : Seal _ := ⟨hr⟩
  have HZ : Seal _ := ⟨hz⟩
  clear hr hz
  go_enter Tryd.func122, Tryd.ntmps122
  go_wp2_with (at_make; refine wpList_make_full _ rfl _ _ 53 rfl w.heap.size 64 i0 (.agg #[.int .i64 0, .string ByteArray.empty, .string ByteArray.empty, .slice none 0 0, .slice none 0 0]) 5 Tryd.underlying53 hi hz0 hz1 .i64 .i64 xs.length xs.length xs.length rfl rfl rfl rfl ?b2 ?b3 ?b4 ?_)
  case b2 => rw [hz2]; omega
  case b3 => unfold maxLen; omega
  case b4 => exact Nat.le_refl _
  intro w1 hown1 hgrow1
  have S1 : Seal _ := ⟨itemE.make (e := 64) _ rfl (by decide) hown1 hgrow1 xs⟩
  clear hown1 hgrow1
  go_wp2
  go_loopw [4] (fun i wr => ∃ (k : Nat) (ps : List ItemV), k ≤ xs.length ∧ i = .int .i64 k ∧ ps.length = k ∧ Seal (St w wr (Res.row 64 itemE.size (.slice (some ⟨w.heap.size, 0, none⟩) xs.length xs.length) xs.length (itemE.part (#[.int .i64 0, .string ByteArray.empty, .string ByteArray.empty, .slice none 0 0, .slice none 0 0] : Array Value).toList (xs.take k) ps (xs.length - k)) :: (itemE.ress (xs.take k) ps ++ [])))) (fun i _ => xs.length - (intOf i).toNat)
  case atStart => exact ⟨0, [], Nat.zero_le _, rfl, rfl, S1⟩
  case round =>
    obtain ⟨k, ps, hk, rfl, hps, S⟩ := hrel
    clear S1
    by_cases hlt : k < xs.length
    · obtain ⟨x, hx⟩ : ∃ x, xs[k]? = some x := ⟨_, List.getElem?_eq_getElem hlt⟩
      obtain ⟨b, off, p, rfl, c0, c1, c2, c3, c4, ha⟩ := itemAt (HR.out.below itemP_stays S.out.below (Nat.le_refl _)) hx
      have HX : Seal _ := ⟨hx⟩
      have HP : Seal _ := ⟨hps⟩
      have HA : Seal _ := ⟨ha⟩
      have HZX : Seal _ := ⟨HZ.out x (List.mem_of_getElem? hx)⟩
      clear hx hps ha
      go_wp2_with fail
      refine (toItem_any x p _ HA.out HZX.out).mono ?_
      rintro e w2 ⟨q, rfl, k2⟩
      have ho := S.out.later k2.below |>.head
      obtain ⟨v0, e0⟩ : ∃ v, w2.cell? ⟨w.heap.size, k * 5, none⟩ = some v := row_cell ho (k * 5) (by show k * 5 < xs.length * 5; omega)
      obtain ⟨v1, e1⟩ : ∃ v, w2.cell? ⟨w.heap.size, k * 5 + 1, none⟩ = some v := row_cell ho (k * 5 + 1) (by show k * 5 + 1 < xs.length * 5; omega)
      obtain ⟨v2, e2⟩ : ∃ v, w2.cell? ⟨w.heap.size, k * 5 + 2, none⟩ = some v := row_cell ho (k * 5 + 2) (by show k * 5 + 2 < xs.length * 5; omega)
      obtain ⟨v3, e3⟩ : ∃ v, w2.cell? ⟨w.heap.size, k * 5 + 3, none⟩ = some v := row_cell ho (k * 5 + 3) (by show k * 5 + 3 < xs.length * 5; omega)
      obtain ⟨v4, e4⟩ : ∃ v, w2.cell? ⟨w.heap.size, k * 5 + 4, none⟩ = some v := row_cell ho (k * 5 + 4) (by show k * 5 + 4 < xs.length * 5; omega)
      have f0 := World.ownsRow.frozenAt ho (k * 5)
      have f1 := World.ownsRow.frozenAt ho (k * 5 + 1)
      have f2 := World.ownsRow.frozenAt ho (k * 5 + 2)
      have f3 := World.ownsRow.frozenAt ho (k * 5 + 3)
      have f4 := World.ownsRow.frozenAt ho (k * 5 + 4)
      have S2 : Seal (St w (((((w2.setCell ⟨w.heap.size, k * 5, none⟩ (.int .i64 x.id)).setCell ⟨w.heap.size, k * 5 + 1, none⟩ (.string x.fu)).setCell ⟨w.heap.size, k * 5 + 2, none⟩ (.string x.fd)).setCell ⟨w.heap.size, k * 5 + 3, none⟩ (.slice q.a1 x.rc.length q.c1)).setCell ⟨w.heap.size, k * 5 + 4, none⟩ (.slice q.a2 x.body.length q.c2)) _) := ⟨itemE.next (p := q) rfl HP.out HX.out S.out k2⟩
      clear ho k2 S c0 c1 c2 c3 c4
      go_wp2
      go_roundw
      case rel => exact ⟨k + 1, ps ++ [q], by omega, by go_num, by simp [HP.out], S2⟩
      case measure => simp [intOf]; omega
    · obtain rfl : k = xs.length := by omega
      have S2 : Seal _ := ⟨itemE.done S.out⟩
      go_wp2
      go_ret
      exact ⟨_, _, rfl, ps, hps, S2.out⟩

set_option maxHeartbeats 1600000 in
set_option maxRecDepth 100000 in
theorem toSpool_any (s : SpoolD) (ao : Option Addr) (cap : Nat) (w : World) (hat : ItemRow w ao s.items) (hz : spoolN s ≤ 1048576) :
    Calls Tryd.prog 50 #[.agg (spoolV s ao cap)] w fun e w' => ∃ bo c ps, e = .returned (.agg (spoolV s bo c)) ∧ ps.length = s.items.length ∧ St w w' (itemsR bo c s.items ps) := by
  obtain ⟨z1, z2⟩ := spoolN_parts hz
  have HZ : Seal _ := ⟨z2⟩
  have HA : Seal _ := ⟨hat⟩
  have s0 := (((St.start w).alloc (spoolV s ao cap) 83).alloc #[.int .i64 0, .slice none 0 0] 55).alloc #[.int .i64 s.last, .slice none 0 0] 55
  simp only [World.size_alloc] at s0
  have S0 : Seal _ := ⟨s0⟩
  clear s0 hat hz z2
  go_enter Tryd.func50, Tryd.ntmps50
  go_wp2_with fail
  refine (toItemS_any ao cap s.items _ (HA.out.below itemP_stays S0.out.below (Nat.le_refl _)) z1 HZ.out).mono ?_
  rintro e w1 ⟨bo, c, ps, rfl, hps, k1⟩
  have s1 := S0.out.join k1
  have s2 := s1.swap
  have P1 := s2.head
  have o1 := P1.c 1 _ rfl
  have f1 := P1.f 1 (by simp)
  have u0 := P1.c 0 _ rfl
  have R1 := s2.two.head
  have r0 := R1.c 0 _ rfl
  have r1 := R1.c 1 _ rfl
  have h0 := R1.f 0 (by simp)
  have h1 := R1.f 1 (by simp)
  have hn : w.heap.size + 1 + 1 ≠ w.heap.size + 1 := by omega
  have S2 : Seal _ := ⟨s2.set 1 (.slice bo s.items.length c) (by simp)⟩
  have HP : Seal _ := ⟨hps⟩
  clear P1 R1 k1 s1 s2 S0 hps
  go_wp2
  refine bodyPost_ret (v := .agg (spoolV s bo c)) (by simp [results, Tryd.results50, go_sem, r0, r1]) rfl ⟨bo, c, ps, rfl, HP.out, ?_⟩
  have s4 := (S2.out.two.set 0 (.int .i64 s.last) (by simp)).set 1 (.slice bo s.items.length c) (by simp)
  exact s4.tail.tail.tail
end Go.Proofs.YtgjkoegpdfcadaaDoor
