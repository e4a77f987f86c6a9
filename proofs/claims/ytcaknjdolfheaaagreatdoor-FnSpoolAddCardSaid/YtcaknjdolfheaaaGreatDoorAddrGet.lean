/- Contracts: AddrGet, of the model and of the program. -/
import Derived.Test.YtcaknjdolfheaaaGreatDoorPlains
import Derived.Test.YtcaknjdolfheaaaGreatDoorAddrs
import Derived.Deep.QuietTactic
import Derived.BigQuiet
import Derived.RegionTactic
import Derived.WalkSpells
namespace Go.Proofs.YtcaknjdolfheaaaGreatDoor
open Go Go.RowKit

/-- Two results: an address, and whether it is one. -/
def AddrPost (w : World) (r : ByteArray × ByteArray × Bool) (e : Ending) (w' : World) : Prop :=
  e = .returned (.tuple #[.agg #[.string r.1, .string r.2.1], .bool r.2.2]) ∧ Below w.heap.size w w'

/-- A block of two cells that the call has laid, later on. -/
theorem two_cells {w w' : World} {x y : Value} {t : TypeId} (h : Below (w.heap.size + 1) (w.alloc (.cells #[x, y] t)) w') :
    w'.cell? ⟨w.heap.size, 0, none⟩ = some x ∧ w'.cell? ⟨w.heap.size, 1, none⟩ = some y ∧ w'.frozen? ⟨w.heap.size, 0, none⟩ = false ∧ w'.frozen? ⟨w.heap.size, 1, none⟩ = false := by
  have hf : ∀ j, (w.alloc (.cells #[x, y] t)).frozen? ⟨w.heap.size, j, none⟩ = false := fun j => Lib.frozen_of_heap (heap_alloc_new w _) j
  refine ⟨(h.cell (p := ⟨w.heap.size, 0, none⟩) (by simp)).trans (World.cell?_alloc_at _ _ _ _ rfl), (h.cell (p := ⟨w.heap.size, 1, none⟩) (by simp)).trans (World.cell?_alloc_at _ _ _ _ rfl),
    (h.frozen (p := ⟨w.heap.size, 0, none⟩) (by simp)).trans (hf 0), (h.frozen (p := ⟨w.heap.size, 1, none⟩) (by simp)).trans (hf 1)⟩
def TwoAt (w : World) (b : Nat) (x y : Value) : Prop := w.cell? ⟨b, 0, none⟩ = some x ∧ w.cell? ⟨b, 1, none⟩ = some y ∧ w.frozen? ⟨b, 0, none⟩ = false ∧ w.frozen? ⟨b, 1, none⟩ = false
theorem TwoAt.later {w w' : World} {b : Nat} {x y : Value} (h : TwoAt w b x y) (hb : Below w.heap.size w w') : TwoAt w' b x y := by
  have hlt : b < w.heap.size := World.block_lt_of_cell? w _ h.1
  exact ⟨(hb.cell (p := ⟨b, 0, none⟩) hlt).trans h.1, (hb.cell (p := ⟨b, 1, none⟩) hlt).trans h.2.1, (hb.frozen (p := ⟨b, 0, none⟩) hlt).trans h.2.2.1, (hb.frozen (p := ⟨b, 1, none⟩) hlt).trans h.2.2.2⟩
theorem TwoAt.new (w : World) (x y : Value) (t : TypeId) : TwoAt (w.alloc (.cells #[x, y] t)) w.heap.size x y := two_cells (Below.refl _ _)

set_option maxHeartbeats 1000000 in
theorem specAddrGet_any (s : ByteArray) (w : World) (hs : s.size ≤ 1048576) :
    Calls Tryz.prog 153 #[.string s] w (AddrPost w (getR s)) := by
  cases hn : (s.toList == [60, 62])
  · by_cases h2 : 2 ≤ s.size
    · by_cases ho : s[0] = 60
      · have ho1 : ((s[0].toNat : Int) != 60) = false := by rw [ho]; rfl
        have h2' : decide ((s.size : Int) < 2) = false := decide_eq_false (by omega)
        by_cases hc : s[s.size - 1] = 62
        · have hc1 : ((s[s.size - 1].toNat : Int) != 62) = false := by rw [hc]; rfl
          have hsh : shapeB s = true := by
            unfold shapeB
            rw [decide_eq_true h2, Lib.data_getElem? s 0 (by omega), Lib.data_getElem? s (s.size - 1) (by omega), ho, hc]; rfl
          have hq := Lib.hid (getR_yes hn hsh)
          have hpl := pieces_length 64 2 (innerB s)
          have hpp := pieces_pos 64 2 (innerB s)
          have hin : (s.extract 1 (s.size - 1)).size ≤ 140737488351232 := by rw [ByteArray.size_extract]; omega
          clear hsh ho hc
          by_cases hl2 : (piecesB 64 2 (innerB s)).length = 2
          · obtain ⟨u, d, hp⟩ : ∃ u d, piecesB 64 2 (innerB s) = [u, d] := by
              match h : piecesB 64 2 (innerB s), hl2 with
              | [u, d], _ => exact ⟨u, d, rfl⟩
            have hq2 : Hid (getR s = if addrB u d then (u, d, true) else noAddr) := Lib.hid (by rw [hq.out, hp]; rfl)
            have hsu := pieces_size 64 2 (innerB s) u (by rw [hp]; simp)
            have hsd := pieces_size 64 2 (innerB s) d (by rw [hp]; simp)
            have hin2 : (innerB s).size ≤ 1048576 := by unfold innerB; rw [ByteArray.size_extract]; omega
            have hcut : ∀ W, Calls Tryz.prog 150 #[.string (s.extract 1 (s.size - 1)), .int .u8 64, .int .i64 2] W (RowPost W [u, d]) := fun W => by
              have := l1Cut_any (s.extract 1 (s.size - 1)) 64 2 W hin (by omega)
              rwa [show piecesB 64 2 (s.extract 1 (s.size - 1)) = [u, d] from hp] at this
            have HC := Lib.hid hcut
            clear hcut hp hq hpl hpp hl2
            go_enter Tryz.func153, Tryz.ntmps153
            go_wp2_with fail
            refine (HC.out _).mono ?_
            rintro e w1 ⟨v, rfl, hown, hb1⟩
            obtain ⟨g, cap, rfl⟩ := own_pos hown (by simp)
            have c0 : w1.cell? ⟨g, 0, none⟩ = some (.string u) := own_cell hown (by simp) rfl
            have c1 : w1.cell? ⟨g, 1, none⟩ = some (.string d) := own_cell hown (by simp) rfl
            have hgl : g < w1.heap.size := World.block_lt_of_cell? w1 _ c0
            have T1 := Lib.hid ((TwoAt.new w (.string { data := #[] }) (.string { data := #[] }) 27).later hb1)
            have z1 := hb1.size
            simp only [World.size_alloc] at z1
            have B1 := Lib.hid (((Below.refl w.heap.size w).alloc (Nat.le_refl _) _).trans (hb1.mono (by simp)))
            clear hown hb1
            go_wp2
            go_region
            clear c0 c1 hgl
            have A2 : Below w1.heap.size w1 (w1.alloc (.cells #[.string u, .string d] 27)).drew := ((Below.refl _ _).alloc (Nat.le_refl _) _).drew
            have T2 := Lib.hid (T1.out.later A2)
            have S2 := Lib.hid (TwoAt.later (TwoAt.new w1 (.string u) (.string d) 27) (show Below _ _ (w1.alloc (.cells #[.string u, .string d] 27)).drew from (Below.refl _ _).drew))
            have B2 := Lib.hid (B1.out.trans (A2.mono (by omega)))
            clear A2
            cases ha : addrB u d
            · have HQ : Hid (getR s = noAddr) := Lib.hid (by rw [hq2.out, ha]; rfl)
              have HA := Lib.hid ha
              clear ha
              go_wp2_with fail
              refine (l1AddrOk_any u d _ (by omega) (by omega)).mono ?_
              rintro e w3 ⟨rfl, hb3⟩
              rw [HA.out]
              have B3 := Lib.hid (B2.out.trans (hb3.mono B2.out.size))
              obtain ⟨m0, m1, n0, n1⟩ := T2.out.later hb3
              clear hb3
              go_wp2
              refine bodyPost_ret (v := .tuple #[.agg #[.string { data := #[] }, .string { data := #[] }], .bool false]) (by simp [results, Tryz.results153, go_sem, m0, m1]) rfl ⟨by rw [HQ.out]; rfl, (B3.out.setCell (p := ⟨w.heap.size, 0, none⟩) (Nat.le_refl _) _).setCell (p := ⟨w.heap.size, 1, none⟩) (Nat.le_refl _) _⟩
            · have HQ : Hid (getR s = (u, d, true)) := Lib.hid (by rw [hq2.out, ha]; rfl)
              have HA := Lib.hid ha
              clear ha
              go_wp2_with fail
              refine (l1AddrOk_any u d _ (by omega) (by omega)).mono ?_
              rintro e w3 ⟨rfl, hb3⟩
              rw [HA.out]
              have B3 := Lib.hid (B2.out.trans (hb3.mono B2.out.size))
              obtain ⟨m0, m1, n0, n1⟩ := T2.out.later hb3
              obtain ⟨p0, p1, _, _⟩ := S2.out.later hb3
              clear hb3
              go_wp2
              refine bodyPost_ret (v := .tuple #[.agg #[.string u, .string d], .bool true]) (by simp [results, Tryz.results153, go_sem, m0, m1]) rfl ⟨by rw [HQ.out], (B3.out.setCell (p := ⟨w.heap.size, 0, none⟩) (Nat.le_refl _) _).setCell (p := ⟨w.heap.size, 1, none⟩) (Nat.le_refl _) _⟩
          · have HQ : Hid (getR s = noAddr) := Lib.hid (by
              rw [hq.out]
              match h : piecesB 64 2 (innerB s), hl2 with
              | [], _ => rfl
              | [_], _ => rfl
              | [_, _], h2 => exact absurd rfl h2
              | _ :: _ :: _ :: _, _ => rfl)
            have e2 : (((piecesB 64 2 (s.extract 1 (s.size - 1))).length : Int) != 2) = true := by
              rw [bne_iff_ne]; intro e; exact hl2 (by unfold innerB; omega)
            have hpp2 : 0 < (piecesB 64 2 (s.extract 1 (s.size - 1))).length := hpp
            clear hq hpl hpp hl2
            go_enter Tryz.func153, Tryz.ntmps153
            go_wp2_with fail
            refine (l1Cut_any (s.extract 1 (s.size - 1)) 64 2 _ hin (by omega)).mono ?_
            rintro e w1 ⟨v, rfl, hown, hb1⟩
            obtain ⟨g, cap, rfl⟩ := own_pos hown hpp2
            have B3 := Lib.hid (((Below.refl w.heap.size w).alloc (Nat.le_refl _) _).trans (hb1.mono (by simp)))
            obtain ⟨m0, m1, n0, n1⟩ := (TwoAt.new w (.string { data := #[] }) (.string { data := #[] }) 27).later hb1
            clear hown hb1
            go_wp2
            refine bodyPost_ret (v := .tuple #[.agg #[.string { data := #[] }, .string { data := #[] }], .bool false]) (by simp [results, Tryz.results153, go_sem, m0, m1]) rfl ⟨by rw [HQ.out]; rfl, (B3.out.setCell (p := ⟨w.heap.size, 0, none⟩) (Nat.le_refl _) _).setCell (p := ⟨w.heap.size, 1, none⟩) (Nat.le_refl _) _⟩
        · have hc1 : ((s[s.size - 1].toNat : Int) != 62) = true := by
            rw [bne_iff_ne]; intro e; exact hc (UInt8.toNat_inj.1 (by simpa using (by omega : s[s.size - 1].toNat = 62)))
          have HQ : Hid (getR s = noAddr) := Lib.hid (getR_no hn (by
            unfold shapeB
            rw [Lib.data_getElem? s (s.size - 1) (by omega), show (some s[s.size - 1] == some 62) = false by simpa using hc, Bool.and_false]))
          clear hc ho
          go_enter Tryz.func153, Tryz.ntmps153
          go_wp2
          refine bodyPost_ret (v := .tuple #[.agg #[.string { data := #[] }, .string { data := #[] }], .bool false]) (by simp [results, Tryz.results153, go_sem]) rfl ⟨by rw [HQ.out]; rfl, (Below.refl _ _).alloc (Nat.le_refl _) _⟩
      · have ho1 : ((s[0].toNat : Int) != 60) = true := by
          rw [bne_iff_ne]; intro e; exact ho (UInt8.toNat_inj.1 (by simpa using (by omega : s[0].toNat = 60)))
        have h2' : decide ((s.size : Int) < 2) = false := decide_eq_false (by omega)
        have HQ : Hid (getR s = noAddr) := Lib.hid (getR_no hn (by
          unfold shapeB
          rw [Lib.data_getElem? s 0 (by omega), show (some s[0] == some 60) = false by simpa using ho, Bool.and_false, Bool.false_and]))
        clear ho
        go_enter Tryz.func153, Tryz.ntmps153
        go_wp2
        refine bodyPost_ret (v := .tuple #[.agg #[.string { data := #[] }, .string { data := #[] }], .bool false]) (by simp [results, Tryz.results153, go_sem]) rfl ⟨by rw [HQ.out]; rfl, (Below.refl _ _).alloc (Nat.le_refl _) _⟩
    · have h2' : decide ((s.size : Int) < 2) = true := decide_eq_true (by omega)
      have HQ : Hid (getR s = noAddr) := Lib.hid (getR_no hn (by unfold shapeB; rw [decide_eq_false h2, Bool.false_and, Bool.false_and]))
      go_enter Tryz.func153, Tryz.ntmps153
      go_wp2
      refine bodyPost_ret (v := .tuple #[.agg #[.string { data := #[] }, .string { data := #[] }], .bool false]) (by simp [results, Tryz.results153, go_sem]) rfl ⟨by rw [HQ.out]; rfl, (Below.refl _ _).alloc (Nat.le_refl _) _⟩
  · have hq := Lib.hid (getR_null hn)
    go_enter Tryz.func153, Tryz.ntmps153
    go_wp2
    refine bodyPost_ret (v := .tuple #[.agg #[.string { data := #[] }, .string { data := #[] }], .bool true]) (by simp [results, Tryz.results153, go_sem]) rfl ⟨by rw [hq.out], (Below.refl _ _).alloc (Nat.le_refl _) _⟩
end Go.Proofs.YtcaknjdolfheaaaGreatDoor
