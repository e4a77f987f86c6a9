/- SaMail, SaSpool. -/
import Derived.Test.YtcaknjdolfheaaaGreatDoorMails
import Derived.Test.YtcaknjdolfheaaaGreatDoorBasis
import Derived.Deep.QuietTactic
import Derived.BigQuiet
import Derived.Test.YtcaknjdolfheaaaGreatDoorSpools
import Derived.Deep.RegionHeld3
namespace Go.Proofs.YtcaknjdolfheaaaGreatDoor
open Go Go.RowKit

theorem saTextsEq (ao bo : Option Addr) (c1 c2 : Nat) (xs : List ByteArray) (w : World) (ha : StrRow w ao xs) (hb : StrRow w bo xs) (hl : xs.length ≤ 1048576) :
    Calls Tryz.prog 74 #[.slice ao xs.length c1, .slice bo xs.length c2] w fun e w' => e = .returned (.bool true) ∧ Below w.heap.size w w' := by
  have HA := Lib.hid ha
  have HB := Lib.hid hb
  clear ha hb
  go_enter Tryz.func74, Tryz.ntmps74
  go_wp2
  go_loopw [5] (fun i wr => ∃ k n : Nat, k ≤ xs.length ∧ i = .int .i64 k ∧ wr = w.drewN n) (fun i _ => xs.length - (intOf i).toNat)
  case atStart => exact ⟨0, 0, Nat.zero_le _, rfl, rfl⟩
  case round =>
    obtain ⟨k, n, hk, rfl, rfl⟩ := hrel
    by_cases hlt : k < xs.length
    · obtain ⟨x, hx⟩ : ∃ x, xs[k]? = some x := ⟨_, List.getElem?_eq_getElem hlt⟩
      obtain ⟨b, off, rfl, hcell⟩ := HA.out k x hx
      obtain ⟨b', off', rfl, hcell'⟩ := HB.out k x hx
      clear hx
      go_wp2
      go_quiet (fail)
      go_wp2
      exact ⟨⟨k + 1, n + nq, by omega, by go_num, rfl⟩, by simp [intOf]; omega⟩
    · go_wp2
      go_ret
      exact ⟨rfl, below_drewN _ w n⟩

theorem saAddrsEq (ao bo : Option Addr) (c1 c2 : Nat) (ps : List Pair) (w : World) (ha : PairRow w ao ps) (hb : PairRow w bo ps) (hl : ps.length ≤ 1048576) :
    Calls Tryz.prog 145 #[.slice ao ps.length c1, .slice bo ps.length c2] w fun e w' => e = .returned (.bool true) ∧ Below w.heap.size w w' := by
  have HA := Lib.hid ha
  have HB := Lib.hid hb
  clear ha hb
  go_enter Tryz.func145, Tryz.ntmps145
  go_wp2
  go_loopw [5] (fun i wr => ∃ k n : Nat, k ≤ ps.length ∧ i = .int .i64 k ∧ wr = w.drewN n) (fun i _ => ps.length - (intOf i).toNat)
  case atStart => exact ⟨0, 0, Nat.zero_le _, rfl, rfl⟩
  case round =>
    obtain ⟨k, n, hk, rfl, rfl⟩ := hrel
    by_cases hlt : k < ps.length
    · obtain ⟨p, hp⟩ : ∃ p, ps[k]? = some p := ⟨_, List.getElem?_eq_getElem hlt⟩
      obtain ⟨b, off, rfl, hc1, hc2⟩ := HA.out k p hp
      obtain ⟨b', off', rfl, hc1', hc2'⟩ := HB.out k p hp
      clear hp
      go_wp2
      go_quiet (fail)
      go_wp2
      exact ⟨⟨k + 1, n + nq, by omega, by go_num, rfl⟩, by simp [intOf]; omega⟩
    · go_wp2
      go_ret
      exact ⟨rfl, below_drewN _ w n⟩

theorem saMailEq (m : MailD) (a1 : Option Addr) (c1 : Nat) (a2 : Option Addr) (c2 : Nat) (b1 : Option Addr) (d1 : Nat) (b2 : Option Addr) (d2 : Nat) (w : World) (ha : MailAt w m a1 a2) (hb : MailAt w m b1 b2) (h1 : m.rc.length ≤ 1048576) (h2 : m.body.length ≤ 1048576) :
    Calls Tryz.prog 81 #[.agg (mailV m a1 c1 a2 c2), .agg (mailV m b1 d1 b2 d2)] w fun e w' => e = .returned (.bool true) ∧ Below w.heap.size w w' := by
  have HA : Seal _ := ⟨ha⟩
  have HB : Seal _ := ⟨hb⟩
  have S0 : Seal _ := ⟨((St.start w).alloc (mailV m a1 c1 a2 c2) 31).alloc (mailV m b1 d1 b2 d2) 31⟩
  clear ha hb
  go_enter Tryz.func81, Tryz.ntmps81
  go_wp2_with fail
  refine (saAddrsEq a1 b1 c1 d1 m.rc _ (HA.out.rc.below S0.out.below (Nat.le_refl _)) (HB.out.rc.below S0.out.below (Nat.le_refl _)) h1).mono ?_
  rintro e w1 ⟨rfl, hb1⟩
  have S1 : Seal _ := ⟨S0.out.later hb1⟩
  have x2 := S1.out.head.c 3 _ rfl
  have y2 := S1.out.two.head.c 3 _ rfl
  simp only [World.size_alloc] at x2
  clear hb1 S0
  go_wp2_with fail
  refine (saTextsEq a2 b2 c2 d2 m.body _ (HA.out.body.below S1.out.below (Nat.le_refl _)) (HB.out.body.below S1.out.below (Nat.le_refl _)) h2).mono ?_
  rintro e w2 ⟨rfl, hb2⟩
  have S2 : Seal _ := ⟨S1.out.later hb2⟩
  clear hb2
  go_wp2
  go_ret
  exact ⟨rfl, S2.out.below⟩
end Go.Proofs.YtcaknjdolfheaaaGreatDoor
namespace Go.Proofs.YtcaknjdolfheaaaGreatDoor
open Go Go.RowKit

set_option maxHeartbeats 3200000 in
set_option maxRecDepth 100000 in
theorem saItemEq (x : ItemD) (p q : ItemV) (w : World) (ha : ItemAt w x p) (hb : ItemAt w x q) (h1 : x.rc.length ≤ 1048576) (h2 : x.body.length ≤ 1048576) :
    Calls Tryz.prog 22 #[.agg (itemV x p), .agg (itemV x q)] w fun e w' => e = .returned (.bool true) ∧ Below w.heap.size w w' := by
  have s0 := ((St.start w).alloc (itemV x p) 43).alloc (itemV x q) 43
  simp only [World.size_alloc] at s0
  have S0 : Seal _ := ⟨s0⟩
  have HA : Seal _ := ⟨ha.below S0.out.below (Nat.le_refl _)⟩
  have HB : Seal _ := ⟨hb.below S0.out.below (Nat.le_refl _)⟩
  have q1 : (x.id != x.id) = false := by simp
  clear s0 ha hb
  go_enter Tryz.func22, Tryz.ntmps22
  go_wp2_with fail
  refine (saTextsEq p.a2 q.a2 p.c2 q.c2 x.body _ HA.out.body HB.out.body h2).mono ?_
  rintro e w1 ⟨rfl, hb1⟩
  have S1 : Seal _ := ⟨S0.out.later hb1⟩
  have HA1 : Seal _ := ⟨HA.out.later hb1⟩
  have HB1 : Seal _ := ⟨HB.out.later hb1⟩
  have b3 := S1.out.head.c 3 _ rfl
  have a3 := S1.out.two.head.c 3 _ rfl
  clear hb1 S0 HA HB
  go_wp2
  go_loopw [5] (fun i wr => ∃ k n : Nat, k ≤ x.rc.length ∧ i = .int .i64 k ∧ wr = w1.drewN n) (fun i _ => x.rc.length - (intOf i).toNat)
  case atStart => exact ⟨0, 0, Nat.zero_le _, rfl, rfl⟩
  case round =>
    obtain ⟨k, n, hk, rfl, rfl⟩ := hrel
    by_cases hlt : k < x.rc.length
    · obtain ⟨r, hr⟩ : ∃ r, x.rc[k]? = some r := ⟨_, List.getElem?_eq_getElem hlt⟩
      obtain ⟨g, off, e1, c0, c1, c2, c4⟩ := rcptAt HA1.out.rc hr
      obtain ⟨g', off', e2, d0, d1, d2, d4⟩ := rcptAt HB1.out.rc hr
      rw [e1] at a3
      rw [e2] at b3
      have q3 : (r.tries == r.tries) = true := by simp
      have q4 : (r.next == r.next) = true := by simp
      clear hr e1 e2
      go_wp2
      go_quiet (fail)
      go_wp2
      exact ⟨⟨k + 1, n + nq, by omega, by go_num, rfl⟩, by simp [intOf]; omega⟩
    · go_wp2
      go_ret
      exact ⟨rfl, drewN_below S1.out.below n⟩

set_option maxHeartbeats 6400000 in
set_option maxRecDepth 100000 in
theorem saSpoolEq (s : SpoolD) (ao bo : Option Addr) (ca cb : Nat) (w : World) (ha : ItemRow w ao s.items) (hb : ItemRow w bo s.items) (hz : spoolN s ≤ 1048576) :
    Calls Tryz.prog 18 #[.agg (spoolV s ao ca), .agg (spoolV s bo cb)] w fun e w' => e = .returned (.bool true) ∧ Below w.heap.size w w' := by
  obtain ⟨z1, z2⟩ := spoolN_parts hz
  have HZ : Seal _ := ⟨z2⟩
  have HA : Seal _ := ⟨ha⟩
  have HB : Seal _ := ⟨hb⟩
  have s0 := ((St.start w).alloc (spoolV s ao ca) 25).alloc (spoolV s bo cb) 25
  simp only [World.size_alloc] at s0
  have S0 : Seal _ := ⟨s0⟩
  have q1 : (s.last != s.last) = false := by simp
  have b1 := S0.out.head.c 1 _ rfl
  have a1 := S0.out.two.head.c 1 _ rfl
  clear s0 ha hb hz z2
  go_enter Tryz.func18, Tryz.ntmps18
  go_wp2
  clear b1 a1
  go_loopw [5] (fun i wr => ∃ k : Nat, k ≤ s.items.length ∧ i = .int .i64 k ∧ Seal (St w wr [Res.cells (w.heap.size + 1) [.int .i64 s.last, .slice bo s.items.length cb], Res.cells w.heap.size [.int .i64 s.last, .slice ao s.items.length ca]])) (fun i _ => s.items.length - (intOf i).toNat)
  case atStart => exact ⟨0, Nat.zero_le _, rfl, ⟨S0.out⟩⟩
  case round =>
    obtain ⟨k, hk, rfl, S⟩ := hrel
    clear S0
    have b1 := S.out.head.c 1 _ rfl
    have a1 := S.out.two.head.c 1 _ rfl
    by_cases hlt : k < s.items.length
    · obtain ⟨x, hx⟩ : ∃ x, s.items[k]? = some x := ⟨_, List.getElem?_eq_getElem hlt⟩
      obtain ⟨b, off, p, rfl, c0, c1, c2, c3, c4, ia⟩ := itemAt (HA.out.below itemP_stays S.out.below (Nat.le_refl _)) hx
      obtain ⟨b', off', q, rfl, d0, d1, d2, d3, d4, ib⟩ := itemAt (HB.out.below itemP_stays S.out.below (Nat.le_refl _)) hx
      obtain ⟨_, _, z3, _, z5, _⟩ := itemN_parts (HZ.out x (List.mem_of_getElem? hx))
      have IA : Seal _ := ⟨ia⟩
      have IB : Seal _ := ⟨ib⟩
      clear hx ia ib
      go_wp2_with fail
      go_region_held3 (fun w' => w'.cell? ⟨w.heap.size, 1, none⟩ = some (.slice (some ⟨b, off, none⟩) s.items.length ca) ∧ w'.cell? ⟨w.heap.size + 1, 1, none⟩ = some (.slice (some ⟨b', off', none⟩) s.items.length cb) ∧ w'.cell? ⟨b, off + k * 5, none⟩ = some (.int .i64 x.id) ∧ w'.cell? ⟨b, off + k * 5 + 1, none⟩ = some (.string x.fu) ∧ w'.cell? ⟨b, off + k * 5 + 2, none⟩ = some (.string x.fd) ∧ w'.cell? ⟨b, off + k * 5 + 3, none⟩ = some (.slice p.a1 x.rc.length p.c1) ∧ w'.cell? ⟨b, off + k * 5 + 4, none⟩ = some (.slice p.a2 x.body.length p.c2) ∧ w'.cell? ⟨b', off' + k * 5, none⟩ = some (.int .i64 x.id) ∧ w'.cell? ⟨b', off' + k * 5 + 1, none⟩ = some (.string x.fu) ∧ w'.cell? ⟨b', off' + k * 5 + 2, none⟩ = some (.string x.fd) ∧ w'.cell? ⟨b', off' + k * 5 + 3, none⟩ = some (.slice q.a1 x.rc.length q.c1) ∧ w'.cell? ⟨b', off' + k * 5 + 4, none⟩ = some (.slice q.a2 x.body.length q.c2) ∧ Below wr.heap.size wr w') (first | exact ⟨a1, b1, c0, c1, c2, c3, c4, d0, d1, d2, d3, d4, (Below.refl _ _).drew⟩ | (go_split_ands; exact ⟨heldc (by assumption) hb1, heldc (by assumption) hb1, heldc (by assumption) hb1, heldc (by assumption) hb1, heldc (by assumption) hb1, heldc (by assumption) hb1, heldc (by assumption) hb1, heldc (by assumption) hb1, heldc (by assumption) hb1, heldc (by assumption) hb1, heldc (by assumption) hb1, heldc (by assumption) hb1, (by assumption : Below wr.heap.size wr _).trans (hb1.mono (by assumption : Below wr.heap.size wr _).size)⟩) | (go_split_ands; exact ⟨by assumption, by assumption, by assumption, by assumption, by assumption, by assumption, by assumption, by assumption, by assumption, by assumption, by assumption, by assumption, Below.drew (by assumption)⟩) | (go_split_ands; exact ⟨by assumption, by assumption, by assumption, by assumption, by assumption, by assumption, by assumption, by assumption, by assumption, by assumption, by assumption, by assumption, by assumption⟩)) (first | (go_at_call 22; go_split_ands; refine (saItemEq x p q _ (IA.out.later (by assumption : Below wr.heap.size wr _)) (IB.out.later (by assumption : Below wr.heap.size wr _)) z3 z5).mono ?_; rintro e w1 ⟨rfl, hb1⟩))
      go_split_ands
      have hbx := (by assumption : Below wr.heap.size wr _)
      have S2 : Seal _ := ⟨S.out.later hbx⟩
      clear S
      go_wp2
      go_roundw
      case rel => exact ⟨k + 1, by omega, by go_num, S2⟩
      case measure => simp [intOf]; omega
    · go_wp2
      go_ret
      exact ⟨rfl, S.out.below⟩
end Go.Proofs.YtcaknjdolfheaaaGreatDoor
