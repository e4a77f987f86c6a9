/- Contracts: marks of a host's settings; whether two new hosts are the same. -/
import Derived.Test.YtgjkoegpdfcadaaDoorHostNew
import Derived.Test.YtgjkoegpdfcadaaDoorSpoolHeld
import Derived.Test.YtgjkoegpdfcadaaDoorSpoolEq
import Derived.Test.YtgjkoegpdfcadaaDoorConfFns
namespace Go.Proofs.YtgjkoegpdfcadaaDoor
open Go Go.RowKit

set_option maxHeartbeats 3200000 in
set_option maxRecDepth 100000 in
theorem markWayS_any (B k : Nat) (ao : Option Addr) (cap : Nat) (ps : List Pair) (w : World) (ho : PRow w B 34 ao cap ps) (hl : k + ps.length * 2 ≤ 16777216) :
    Calls Tryd.prog 143 #[.slice ao ps.length cap, .int .i64 k] w fun e w' => e = .returned (.int .i64 ((k + ps.length * 2 : Nat) : Int)) ∧ w'.ownsRow B 34 2 (.slice ao ps.length cap) ps.length (pairCells (markP k ps.length)) ∧ w.grownBy w' (blockOf ao) := by
  rcases own_split ho with ⟨rfl, h0, rfl⟩ | ⟨g, rfl⟩
  · obtain rfl : ps = [] := List.eq_nil_of_length_eq_zero h0
    clear ho
    go_enter Tryd.func143, Tryd.ntmps143
    go_wp2
    go_loop [1, 5] (fun c i => c = .int .i64 k ∧ i = .int .i64 0) (fun _ _ => 0)
    case atStart => exact ⟨rfl, rfl⟩
    case round =>
      obtain ⟨rfl, rfl⟩ := hrel
      go_wp2
      go_ret
      exact ⟨by simp, World.ownsRow_nil _ _ _ _, ⟨rfl, rfl, rfl, Nat.le_refl _, fun _ _ _ => rfl⟩⟩
  · have G0 : w.grownBy w (some g) := ⟨rfl, rfl, rfl, Nat.le_refl _, fun _ _ _ => rfl⟩
    unfold PRow at ho
    go_enter Tryd.func143, Tryd.ntmps143
    go_wp2
    go_loopw [1, 5] (fun c i wr => ∃ n : Nat, n ≤ ps.length ∧ i = .int .i64 n ∧ c = .int .i64 ((k + n * 2 : Nat) : Int) ∧ wr.ownsRow B 34 2 (.slice (some ⟨g, 0, none⟩) ps.length cap) ps.length (pairCells (markPR k n ps)) ∧ Hid (w.grownBy wr (some g))) (fun _ i _ => ps.length - (intOf i).toNat)
    case atStart => exact ⟨0, Nat.zero_le _, rfl, rfl, by simpa [markPR, markP] using ho, Lib.hid G0⟩
    case round =>
      obtain ⟨n, hn, rfl, rfl, hown, HG⟩ := hrel
      clear ho G0
      by_cases hlt : n < ps.length
      · obtain ⟨p, hp⟩ := markPR_at k n ps hlt
        rw [hp] at hown
        have hml := markP_length k n
        go_wp2_with (go_at_call 198; refine (markText_int _ (k + n * 2) rfl (by omega) _).mono ?_)
        rintro e w1 ⟨rfl, hb1⟩
        have ho1 := own_later hown hb1
        have G1 := grown_later HG.out hb1
        have hgt : (pairCells (markP k n ++ p :: ps.drop (n + 1)))[n * 2]? = some (.string p.1) := (pairCells_get (ps := markP k n ++ p :: ps.drop (n + 1)) (k := n) (by rw [List.getElem?_append_right (by omega), hml, Nat.sub_self]; rfl)).1
        have hc1 := (ho1.cellAt (n * 2) (by omega)).trans hgt
        have hf1 := ho1.frozenAt (n * 2)
        have s1 := (ho1.stored (n * 2) (.string (markT (k + n * 2)))).1
        have hx : (pairCells (markP k n ++ p :: ps.drop (n + 1))).set (n * 2) (.string (markT (k + n * 2))) = pairCells (markP k n ++ (markT (k + n * 2), p.2) :: ps.drop (n + 1)) := by
          have := pairCells_set0 (markP k n) (ps.drop (n + 1)) p (markT (k + n * 2))
          rwa [hml] at this
        rw [hx] at s1
        have HS1 := Lib.hid s1
        have HG1 := Lib.hid (grown_set G1 (n * 2) (.string (markT (k + n * 2))))
        have HM := Lib.hid hml
        clear hx hgt ho1 hown G1 HG s1 hp hb1 hml
        go_wp2_with (go_at_call 198; refine (markText_int _ (k + n * 2 + 1) (by push_cast; omega) (by omega) _).mono ?_)
        rintro e w2 ⟨rfl, hb2⟩
        have ho2 := own_later HS1.out hb2
        have G2 := grown_later HG1.out hb2
        have hgt : (pairCells (markP k n ++ (markT (k + n * 2), p.2) :: ps.drop (n + 1)))[n * 2 + 1]? = some (.string p.2) := (pairCells_get (ps := markP k n ++ (markT (k + n * 2), p.2) :: ps.drop (n + 1)) (k := n) (p := (markT (k + n * 2), p.2)) (by have hml := HM.out; rw [List.getElem?_append_right (by omega), hml, Nat.sub_self]; rfl)).2
        have hc2 := (ho2.cellAt (n * 2 + 1) (by omega)).trans hgt
        have hf2 := ho2.frozenAt (n * 2 + 1)
        have s2 := (ho2.stored (n * 2 + 1) (.string (markT (k + n * 2 + 1)))).1
        have hx : (pairCells (markP k n ++ (markT (k + n * 2), p.2) :: ps.drop (n + 1))).set (n * 2 + 1) (.string (markT (k + n * 2 + 1))) = pairCells (markPR k (n + 1) ps) := by
          have := pairCells_set1 (markP k n) (ps.drop (n + 1)) (markT (k + n * 2), p.2) (markT (k + n * 2 + 1))
          rw [HM.out] at this
          rw [this, ← markPR_next]
        rw [hx] at s2
        have HS2 := Lib.hid s2
        have HG2 := Lib.hid (grown_set G2 (n * 2 + 1) (.string (markT (k + n * 2 + 1))))
        clear hx hgt ho2 G2 s2 HS1 HG1 hb2 hc1 hf1
        go_wp2
        go_roundw
        case rel => exact ⟨n + 1, by omega, by go_num, by go_num, HS2.out, HG2⟩
        case measure => simp [intOf]; omega
      · obtain rfl : n = ps.length := by omega
        rw [markPR_end] at hown
        have HO := Lib.hid hown
        clear hown
        go_wp2
        go_ret
        exact ⟨rfl, HO.out, HG.out⟩

set_option maxHeartbeats 1600000 in
set_option maxRecDepth 100000 in
theorem heldWayS_any (ao : Option Addr) (cap k N : Nat) (w : World) (hr : PairRow w ao (markP k N)) (hl : k + N * 2 ≤ 16777216) :
    Calls Tryd.prog 218 #[.slice ao N cap, .int .i64 k] w fun e w' => e = .returned (.int .i64 ((k + N * 2 : Nat) : Int)) ∧ Below w.heap.size w w' := by
  have HR := Lib.hid hr
  clear hr
  go_enter Tryd.func218, Tryd.ntmps218
  go_wp2
  go_loopw [1, 5] (fun c i wr => ∃ n : Nat, n ≤ N ∧ i = .int .i64 n ∧ c = .int .i64 ((k + n * 2 : Nat) : Int) ∧ Below w.heap.size w wr) (fun _ i _ => N - (intOf i).toNat)
  case atStart => exact ⟨0, Nat.zero_le _, rfl, rfl, Below.refl _ _⟩
  case round =>
    obtain ⟨n, hn, rfl, rfl, hb⟩ := hrel
    have hsz := hb.size
    by_cases hlt : n < N
    · obtain ⟨b, off, rfl, hc1, hc2⟩ := (HR.out.below hb (Nat.le_refl _)) n _ (markP_get k N n hlt)
      have hrefl : Below wr.heap.size wr wr := Below.refl _ _
      have hkn : k + n * 2 ≤ 16777216 := by omega
      have hkm : k + n * 2 + 1 ≤ 16777216 := by omega
      go_wp2_with fail
      go_region_held3 (fun w' => w'.cell? ⟨b, off + n * 2, none⟩ = some (.string (markT (k + n * 2))) ∧ w'.cell? ⟨b, off + n * 2 + 1, none⟩ = some (.string (markT (k + n * 2 + 1))) ∧ Below wr.heap.size wr w') (first | exact ⟨hc1, hc2, hrefl.drew⟩ | (go_split_ands; exact held_two (by assumption) (by assumption) (by assumption) (Nat.le_refl _) hb1) | (go_split_ands; exact ⟨by assumption, by assumption, Below.drew (by assumption)⟩) | (go_split_ands; exact ⟨by assumption, by assumption, by assumption⟩)) (first | (go_at_call 198; refine (markText_int _ (k + n * 2) rfl hkn _).mono ?_; rintro e w1 ⟨rfl, hb1⟩))
      go_split_ands
      clear hrefl hc1 hc2
      have hx1 := (by assumption : w1.cell? ⟨b, off + n * 2, none⟩ = _)
      have hx2 := (by assumption : w1.cell? ⟨b, off + n * 2 + 1, none⟩ = _)
      have hrefl2 : Below w1.heap.size w1 w1 := Below.refl _ _
      have hbx := (by assumption : Below wr.heap.size wr w1)
      have HB1 := Lib.hid (hb.trans (hbx.mono hsz))
      clear hb hbx hb1
      go_wp2_with fail
      go_region_held3 (fun w' => w'.cell? ⟨b, off + n * 2, none⟩ = some (.string (markT (k + n * 2))) ∧ w'.cell? ⟨b, off + n * 2 + 1, none⟩ = some (.string (markT (k + n * 2 + 1))) ∧ Below w1.heap.size w1 w') (first | exact ⟨hx1, hx2, hrefl2.drew⟩ | (go_split_ands; exact held_two (by assumption) (by assumption) (by assumption) (Nat.le_refl _) hb2) | (go_split_ands; exact ⟨by assumption, by assumption, Below.drew (by assumption)⟩) | (go_split_ands; exact ⟨by assumption, by assumption, by assumption⟩)) (first | (go_at_call 198; refine (markText_int _ (k + n * 2 + 1) (by omega) hkm _).mono ?_; rintro e w2 ⟨rfl, hb2⟩))
      go_split_ands
      have hbx := (by assumption : Below w1.heap.size w1 _)
      have HB2 := Lib.hid (HB1.out.trans (hbx.mono HB1.out.size))
      clear hbx hrefl2
      go_wp2
      go_roundw
      case rel => exact ⟨n + 1, by omega, by go_num, by go_num, HB2.out⟩
      case measure => simp [intOf]; omega
    · obtain rfl : n = N := by omega
      go_wp2
      go_ret
      exact ⟨rfl, hb⟩


/-- No items: read anywhere. -/
theorem itemRow_none (w : World) : ItemRow w none [] := fun k x h => by simp at h
theorem confAt_later {w : World} {c : ConfD} {a1 a2 : Option Addr} (h : ConfAt w c a1 a2) {w' : World} (hb : Below w.heap.size w w') : ConfAt w' c a1 a2 := h.later hb

set_option maxHeartbeats 1600000 in
set_option maxRecDepth 100000 in
theorem eqHost_new (c : ConfD) (a1 : Option Addr) (c1 : Nat) (a2 : Option Addr) (c2 : Nat) (b1 : Option Addr) (d1 : Nat) (b2 : Option Addr) (d2 : Nat) (w : World) (ha : ConfAt w c a1 a2) (hb : ConfAt w c b1 b2) (h1 : c.own.length ≤ 1048576) (h2 : c.ways.length ≤ 1048576) :
    Calls Tryd.prog 66 #[.agg (newHostV c a1 c1 a2 c2), .agg (newHostV c b1 d1 b2 d2)] w fun e w' => e = .returned (.bool true) ∧ Below w.heap.size w w' := by
  have S0 : Seal _ := ⟨((St.start w).alloc (newHostV c a1 c1 a2 c2) 76).alloc (newHostV c b1 d1 b2 d2) 76⟩
  have C : Seal _ := ⟨eqConf_same c a1 c1 a2 c2 b1 d1 b2 d2 _ (ha.later S0.out.below) (hb.later S0.out.below) h1 h2⟩
  clear ha hb h1 h2
  go_enter Tryd.func66, Tryd.ntmps66
  go_wp2_with fail
  refine C.out.mono ?_
  rintro e w1 ⟨rfl, hb1⟩
  have S1 : Seal _ := ⟨S0.out.later hb1⟩
  have A1 := S1.out.two.head
  have B1 := S1.out.head
  have x3 := A1.c 3 _ rfl
  have x4 := A1.c 4 _ rfl
  have y3 := B1.c 3 _ rfl
  have y4 := B1.c 4 _ rfl
  clear hb1 S0 A1 B1 C
  try simp only [World.size_alloc] at *
  go_wp2_with fail
  refine (eqSpool_same ⟨0, []⟩ none none 0 0 _ (itemRow_none _) (itemRow_none _) (by decide)).mono ?_
  rintro e w2 ⟨rfl, hb2⟩
  have S2 : Seal _ := ⟨S1.out.later hb2⟩
  have A2 := S2.out.two.head
  have B2 := S2.out.head
  have x5 := A2.c 5 _ rfl
  have x6 := A2.c 6 _ rfl
  have y5 := B2.c 5 _ rfl
  have y6 := B2.c 6 _ rfl
  clear hb2 S1 A2 B2 x3 x4 y3 y4
  have N1 : ∀ W : World, Calls Tryd.prog 138 #[.slice none 0 0, .slice none 0 0] W fun e w' => e = .returned (.bool true) ∧ w' = W := by
    intro W
    go_enter Tryd.func138, Tryd.ntmps138
    go_wp2
    go_loop [5] (fun i => i = .int .i64 0) (fun _ => 0)
    case atStart => exact rfl
    case round =>
      subst hrel
      go_wp2
      go_ret
      exact ⟨rfl, rfl⟩
  have N2 : ∀ W : World, Calls Tryd.prog 139 #[.slice none 0 0, .slice none 0 0] W fun e w' => e = .returned (.bool true) ∧ w' = W := by
    intro W
    go_enter Tryd.func139, Tryd.ntmps139
    go_wp2
    go_loop [5] (fun i => i = .int .i64 0) (fun _ => 0)
    case atStart => exact rfl
    case round =>
      subst hrel
      go_wp2
      go_ret
      exact ⟨rfl, rfl⟩
  have M1 : Seal _ := ⟨N1⟩
  have M2 : Seal _ := ⟨N2⟩
  clear N1 N2
  go_wp2_with fail
  refine (M1.out _).mono ?_
  rintro e w3 ⟨rfl, rfl⟩
  go_wp2_with fail
  refine (M2.out _).mono ?_
  rintro e w4 ⟨rfl, rfl⟩
  go_wp2
  go_ret
  exact ⟨rfl, S2.out.below⟩
end Go.Proofs.YtgjkoegpdfcadaaDoor
