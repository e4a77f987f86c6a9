/- Contracts: where a mail lies in a spool, and one whom it is for, by the model. -/
import Derived.Test.YtfffocfcnigogaaGreatDoorSpoolAdds
import Derived.Deep.RegionHeld3
namespace Go.Proofs.YtfffocfcnigogaaGreatDoor
open Go Go.RowKit

/-! ### plain facts -/
/-- The first of a row that is wanted, or -1. -/
def findR {α : Type} (f : α → Bool) (xs : List α) : Int := if xs.findIdx f < xs.length then (xs.findIdx f : Int) else -1
theorem findR_hit {α : Type} {f : α → Bool} {xs : List α} {k : Nat} {x : α} (hx : xs[k]? = some x) (hf : f x = true) (hn : ∀ j y, j < k → xs[j]? = some y → f y = false) : findR f xs = k := by
  obtain ⟨hk, e⟩ := List.getElem?_eq_some_iff.1 hx
  have h : xs.findIdx f = k := (List.findIdx_eq hk).2 ⟨by rw [e]; exact hf, fun j hj => hn j _ hj (List.getElem?_eq_getElem (by omega))⟩
  unfold findR
  rw [h, if_pos hk]
theorem findR_none {α : Type} {f : α → Bool} {xs : List α} (hn : ∀ j y, j < xs.length → xs[j]? = some y → f y = false) : findR f xs = -1 := by
  have h : xs.findIdx f = xs.length := List.findIdx_eq_length.2 fun y hy => by
    obtain ⟨j, hj⟩ := List.getElem?_of_mem hy
    exact hn j y (List.getElem?_eq_some_iff.1 hj).1 hj
  unfold findR
  rw [h, if_neg (by omega)]
theorem findR_cases {α : Type} (f : α → Bool) (xs : List α) : findR f xs = -1 ∨ ∃ (k : Nat) (x : α), findR f xs = k ∧ xs[k]? = some x ∧ f x = true := by
  unfold findR
  by_cases h : xs.findIdx f < xs.length
  · rw [if_pos h]
    have hi := (List.findIdx_eq (p := f) h).1 rfl
    exact .inr ⟨_, _, rfl, List.getElem?_eq_getElem h, hi.1⟩
  · rw [if_neg h]; exact .inl rfl
def idB (i : Int) (x : ItemD) : Bool := x.id == i
def toB1 (u d : ByteArray) (r : RcptD) : Bool := (r.u.toList == u.toList) && (r.d.toList == d.toList)
theorem ret_k {a b : Int} (h : a = b) : Ending.returned (.int .i64 a) = .returned (.int .i64 b) := by rw [h]

set_option maxHeartbeats 1600000 in
set_option maxRecDepth 100000 in
theorem l5At_any (s : SpoolD) (ao : Option Addr) (cap : Nat) (i : Int) (w : World) (hat : ItemRow w ao s.items) (hl : s.items.length ≤ 1048576) :
    Calls Tryz.prog 101 #[.agg (spoolV s ao cap), .int .i64 i] w fun e w' => e = .returned (.int .i64 (findR (idB i) s.items)) ∧ Below w.heap.size w w' := by
  have S0 : Seal _ := ⟨(St.start w).alloc (spoolV s ao cap) 25⟩
  have HA : Seal _ := ⟨hat.below itemP_stays S0.out.below (Nat.le_refl _)⟩
  have g1 := S0.out.head.c 1 _ rfl
  obtain ⟨B, hB⟩ : ∃ B, w.heap.size = B := ⟨_, rfl⟩
  clear hat
  go_enter Tryz.func101, Tryz.ntmps101
  go_wp2
  go_loop [5] (fun i' => ∃ k : Nat, k ≤ s.items.length ∧ i' = .int .i64 k ∧ Seal (∀ j y, j < k → s.items[j]? = some y → idB i y = false)) (fun i' => s.items.length - (intOf i').toNat)
  case atStart => exact ⟨0, Nat.zero_le _, rfl, ⟨fun j y hj => by omega⟩⟩
  case round =>
    obtain ⟨k, hk, rfl, HN⟩ := hrel
    by_cases hlt : k < s.items.length
    · obtain ⟨x, hx⟩ : ∃ x, s.items[k]? = some x := ⟨_, List.getElem?_eq_getElem hlt⟩
      obtain ⟨b, off, p, rfl, c0, _, _, _, _, _⟩ := itemAt HA.out hx
      have HX : Seal _ := ⟨hx⟩
      clear hx
      cases he : (x.id == i)
      · have HN2 : Seal (∀ j y, j < k + 1 → s.items[j]? = some y → idB i y = false) := ⟨fun j y hj hy => by
          rcases Nat.lt_or_eq_of_le (Nat.le_of_lt_succ hj) with h | h
          · exact HN.out j y h hy
          · subst h; rw [HX.out] at hy; rw [← Option.some.inj hy]; exact he⟩
        go_wp2
        go_round
        case rel => exact ⟨k + 1, by omega, by go_num, HN2⟩
        case measure => simp [intOf]; omega
      · have hm : Seal (findR (idB i) s.items = k) := ⟨findR_hit HX.out he HN.out⟩
        go_wp2
        go_ret
        exact ⟨ret_k hm.out.symm, by rw [← hB]; exact S0.out.below⟩
    · have hm : Seal (findR (idB i) s.items = -1) := ⟨findR_none fun j y hj hy => HN.out j y (by omega) hy⟩
      go_wp2
      go_ret
      exact ⟨ret_k hm.out.symm, by rw [← hB]; exact S0.out.below⟩

set_option maxHeartbeats 1600000 in
set_option maxRecDepth 100000 in
theorem l5Rcpt_any (x : ItemD) (p : ItemV) (u d : ByteArray) (w : World) (hat : RcptRow w p.a1 x.rc) (hl : x.rc.length ≤ 1048576) :
    Calls Tryz.prog 102 #[.agg (itemV x p), .agg #[.string u, .string d]] w fun e w' => e = .returned (.int .i64 (findR (toB1 u d) x.rc)) ∧ Below w.heap.size w w' := by
  have S0 : Seal (Pt w ((w.alloc (.cells (itemV x p) 43)).alloc (.cells #[.string u, .string d] 27)) [[Res.cells (w.heap.size + 1) [.string u, .string d]], [Res.cells w.heap.size (itemL x p)]]) := ⟨by
    have h := ((Pt.start w).alloc (itemV x p) 43).alloc #[.string u, .string d] 27
    simp only [World.size_alloc] at h
    exact h⟩
  have HA : Seal _ := ⟨hat⟩
  have g0 := (S0.out.cellsM 1 rfl).c 3 _ rfl
  clear hat
  go_enter Tryz.func102, Tryz.ntmps102
  go_wp2
  clear g0
  go_loopw [5] (fun i' wr => ∃ k : Nat, k ≤ x.rc.length ∧ i' = .int .i64 k ∧ Seal (∀ j y, j < k → x.rc[j]? = some y → toB1 u d y = false) ∧ Seal (Pt w wr [[Res.cells (w.heap.size + 1) [.string u, .string d]], [Res.cells (w.heap.size) [.int .i64 x.id, .string x.fu, .string x.fd, .slice p.a1 x.rc.length p.c1, .slice p.a2 x.body.length p.c2]]])) (fun i' _ => x.rc.length - (intOf i').toNat)
  case atStart => exact ⟨0, Nat.zero_le _, rfl, ⟨fun j y hj => by omega⟩, S0⟩
  case round =>
    obtain ⟨k, hk, rfl, HN, S⟩ := hrel
    clear S0
    have S1 := S
    clear S
    have g0 := (S1.out.cellsM 1 rfl).c 3 _ rfl
    by_cases hlt : k < x.rc.length
    · obtain ⟨r, hx⟩ : ∃ r, x.rc[k]? = some r := ⟨_, List.getElem?_eq_getElem hlt⟩
      obtain ⟨b, off, ha, c0, c1, _, _⟩ := rcptAt HA.out hx
      have HX : Seal _ := ⟨hx⟩
      have hi0 : (0 : Int) ≤ (k : Int) := by omega
      have hi1 : (k : Int) < (x.rc.length : Int) := by omega
      clear hx
      obtain ⟨pa, pc, pb, pd⟩ := p
      dsimp only at ha
      subst ha
      by_cases h1 : ¬ r.u.toList = u.toList
      · skip
        have HE : Seal (toB1 u d r = false) := ⟨by unfold toB1; rw [beq_eq_false_iff_ne.2 h1]; rfl⟩
        go_upto_region 4 with fail
        clear g0
        have S2 : Seal (Pt w wr.drew [[Res.cells (w.heap.size + 1) [.string u, .string d]], [Res.cells (w.heap.size) [.int .i64 x.id, .string x.fu, .string x.fd, .slice (some ⟨b, off, none⟩) x.rc.length pc, .slice pb x.body.length pd]]]) := ⟨S1.out.drew⟩
        refine wp_region_held_drew (S := (fun w' => w'.cell? ⟨w.heap.size, 3, none⟩ = some (.slice (some ⟨b, off, none⟩) x.rc.length pc) ∧ w'.cell? ⟨b, off + k * 4, none⟩ = some (.string r.u) ∧ w'.cell? ⟨b, off + k * 4 + 1, none⟩ = some (.string r.d) ∧ w'.cell? ⟨w.heap.size + 1, 0, none⟩ = some (.string u) ∧ w'.cell? ⟨w.heap.size + 1, 1, none⟩ = some (.string d))) (by kernel_rfl) ⟨(S2.out.cellsM 1 rfl).c 3 _ rfl, (heldc c0 S2.out.below), (heldc c1 S2.out.below), (S2.out.cellsM 0 rfl).c 0 _ rfl, (S2.out.cellsM 0 rfl).c 1 _ rfl⟩ (fun hHeld => ?_)
        (refine wpAnyH_take (i := 0) (v := ?_) rfl (by kernel_rfl) (by kernel_rfl) (by kernel_rfl) (fun _ _ _ h => h) (Or.inl ⟨by rfl, ?_⟩) (by assumption) ?_; rotate_left; (intro w hSw; (try dsimp only at hSw); go_split_ands; go_simp; first | done | with_reducible rfl); rotate_left; simp only [Act.put, List.getElem_toArray, List.getElem_cons_zero, List.setIfInBounds_toArray, List.set_cons_succ, List.set_cons_zero])
        (refine wpAnyH_take (i := 1) (v := ?_) rfl (by kernel_rfl) (by kernel_rfl) (by kernel_rfl) (fun _ _ _ h => h) (Or.inl ⟨by rfl, ?_⟩) (by assumption) ?_; rotate_left; (intro w hSw; (try dsimp only at hSw); go_split_ands; go_simp; first | done | with_reducible rfl); rotate_left; simp only [Act.put, List.getElem_toArray, List.getElem_cons_succ, List.getElem_cons_zero, List.setIfInBounds_toArray, List.set_cons_succ, List.set_cons_zero])
        (refine wpAnyH_take (i := 2) (v := ?_) rfl (by kernel_rfl) (by kernel_rfl) (by kernel_rfl) (fun _ _ _ h => h) (Or.inl ⟨by rfl, ?_⟩) (by assumption) ?_; rotate_left; (intro w hSw; (try dsimp only at hSw); go_split_ands; go_simp; first | done | with_reducible rfl); rotate_left; simp only [Act.put, List.getElem_toArray, List.getElem_cons_succ, List.getElem_cons_zero, List.setIfInBounds_toArray, List.set_cons_succ, List.set_cons_zero])
        (refine wpAnyH_take (i := 3) (v := ?_) rfl (by kernel_rfl) (by kernel_rfl) (by kernel_rfl) (fun _ _ _ h => h) (Or.inl ⟨by rfl, ?_⟩) (by assumption) ?_; rotate_left; (intro w hSw; (try dsimp only at hSw); go_split_ands; go_simp; first | done | with_reducible rfl); rotate_left; simp only [Act.put, List.getElem_toArray, List.getElem_cons_succ, List.getElem_cons_zero, List.setIfInBounds_toArray, List.set_cons_succ, List.set_cons_zero])
        (refine wpAnyH_take (i := 4) (v := ?_) rfl (by kernel_rfl) (by kernel_rfl) (by kernel_rfl) (fun _ _ _ h => h) (Or.inl ⟨by rfl, ?_⟩) (by assumption) ?_; rotate_left; (intro w hSw; (try dsimp only at hSw); go_split_ands; go_simp; first | done | with_reducible rfl); rotate_left; simp only [Act.put, List.getElem_toArray, List.getElem_cons_succ, List.getElem_cons_zero, List.setIfInBounds_toArray, List.set_cons_succ, List.set_cons_zero])
        (refine wpAnyH_take (i := 5) (v := ?_) rfl (by kernel_rfl) (by kernel_rfl) (by kernel_rfl) (fun _ _ _ h => h) (Or.inl ⟨by rfl, ?_⟩) (by assumption) ?_; rotate_left; (intro w hSw; (try dsimp only at hSw); go_split_ands; go_simp; first | done | with_reducible rfl); rotate_left; simp only [Act.put, List.getElem_toArray, List.getElem_cons_succ, List.getElem_cons_zero, List.setIfInBounds_toArray, List.set_cons_succ, List.set_cons_zero])
        (refine wpAnyH_take (i := 6) (v := ?_) rfl (by kernel_rfl) (by kernel_rfl) (by kernel_rfl) (fun _ _ _ h => h) (Or.inl ⟨by rfl, ?_⟩) (by assumption) ?_; rotate_left; (intro w hSw; (try dsimp only at hSw); go_split_ands; go_simp; first | done | with_reducible rfl); rotate_left; simp only [Act.put, List.getElem_toArray, List.getElem_cons_succ, List.getElem_cons_zero, List.setIfInBounds_toArray, List.set_cons_succ, List.set_cons_zero])
        (refine wpAnyH_take (i := 7) (v := ?_) rfl (by kernel_rfl) (by kernel_rfl) (by kernel_rfl) (fun _ _ _ h => h) (Or.inl ⟨by rfl, ?_⟩) (by assumption) ?_; rotate_left; (intro w hSw; (try dsimp only at hSw); go_split_ands; go_simp; first | done | with_reducible rfl); rotate_left; simp only [Act.put, List.getElem_toArray, List.getElem_cons_succ, List.getElem_cons_zero, List.setIfInBounds_toArray, List.set_cons_succ, List.set_cons_zero])
        refine wpAnyH_done (by kernel_rfl) ?_ _
        have HN2 : Seal (∀ j y, j < k + 1 → x.rc[j]? = some y → toB1 u d y = false) := ⟨fun j y hj hy => by
          rcases Nat.lt_or_eq_of_le (Nat.le_of_lt_succ hj) with h | h
          · exact HN.out j y h hy
          · subst h; rw [HX.out] at hy; rw [← Option.some.inj hy]; exact HE.out⟩
        have SZ : Seal (Pt w _ [[Res.cells (w.heap.size + 1) [.string u, .string d]], [Res.cells (w.heap.size) [.int .i64 x.id, .string x.fu, .string x.fd, .slice (some ⟨b, off, none⟩) x.rc.length pc, .slice pb x.body.length pd]]]) := S2
        go_wp2
        go_roundw
        case rel => exact ⟨k + 1, by omega, by go_num, HN2, SZ⟩
        case measure => simp [intOf]; omega
      rw [Classical.not_not] at h1
      by_cases h2 : ¬ r.d.toList = d.toList
      · skip
        have HE : Seal (toB1 u d r = false) := ⟨by unfold toB1; rw [beq_eq_false_iff_ne.2 h2, Bool.and_false]⟩
        go_upto_region 4 with fail
        clear g0
        have S2 : Seal (Pt w wr.drew [[Res.cells (w.heap.size + 1) [.string u, .string d]], [Res.cells (w.heap.size) [.int .i64 x.id, .string x.fu, .string x.fd, .slice (some ⟨b, off, none⟩) x.rc.length pc, .slice pb x.body.length pd]]]) := ⟨S1.out.drew⟩
        refine wp_region_held_drew (S := (fun w' => w'.cell? ⟨w.heap.size, 3, none⟩ = some (.slice (some ⟨b, off, none⟩) x.rc.length pc) ∧ w'.cell? ⟨b, off + k * 4, none⟩ = some (.string r.u) ∧ w'.cell? ⟨b, off + k * 4 + 1, none⟩ = some (.string r.d) ∧ w'.cell? ⟨w.heap.size + 1, 0, none⟩ = some (.string u) ∧ w'.cell? ⟨w.heap.size + 1, 1, none⟩ = some (.string d))) (by kernel_rfl) ⟨(S2.out.cellsM 1 rfl).c 3 _ rfl, (heldc c0 S2.out.below), (heldc c1 S2.out.below), (S2.out.cellsM 0 rfl).c 0 _ rfl, (S2.out.cellsM 0 rfl).c 1 _ rfl⟩ (fun hHeld => ?_)
        (refine wpAnyH_take (i := 0) (v := ?_) rfl (by kernel_rfl) (by kernel_rfl) (by kernel_rfl) (fun _ _ _ h => h) (Or.inl ⟨by rfl, ?_⟩) (by assumption) ?_; rotate_left; (intro w hSw; (try dsimp only at hSw); go_split_ands; go_simp; first | done | with_reducible rfl); rotate_left; simp only [Act.put, List.getElem_toArray, List.getElem_cons_zero, List.setIfInBounds_toArray, List.set_cons_succ, List.set_cons_zero])
        (refine wpAnyH_take (i := 1) (v := ?_) rfl (by kernel_rfl) (by kernel_rfl) (by kernel_rfl) (fun _ _ _ h => h) (Or.inl ⟨by rfl, ?_⟩) (by assumption) ?_; rotate_left; (intro w hSw; (try dsimp only at hSw); go_split_ands; go_simp; first | done | with_reducible rfl); rotate_left; simp only [Act.put, List.getElem_toArray, List.getElem_cons_succ, List.getElem_cons_zero, List.setIfInBounds_toArray, List.set_cons_succ, List.set_cons_zero])
        (refine wpAnyH_take (i := 2) (v := ?_) rfl (by kernel_rfl) (by kernel_rfl) (by kernel_rfl) (fun _ _ _ h => h) (Or.inl ⟨by rfl, ?_⟩) (by assumption) ?_; rotate_left; (intro w hSw; (try dsimp only at hSw); go_split_ands; go_simp; first | done | with_reducible rfl); rotate_left; simp only [Act.put, List.getElem_toArray, List.getElem_cons_succ, List.getElem_cons_zero, List.setIfInBounds_toArray, List.set_cons_succ, List.set_cons_zero])
        (refine wpAnyH_take (i := 3) (v := ?_) rfl (by kernel_rfl) (by kernel_rfl) (by kernel_rfl) (fun _ _ _ h => h) (Or.inl ⟨by rfl, ?_⟩) (by assumption) ?_; rotate_left; (intro w hSw; (try dsimp only at hSw); go_split_ands; go_simp; first | done | with_reducible rfl); rotate_left; simp only [Act.put, List.getElem_toArray, List.getElem_cons_succ, List.getElem_cons_zero, List.setIfInBounds_toArray, List.set_cons_succ, List.set_cons_zero])
        (refine wpAnyH_take (i := 4) (v := ?_) rfl (by kernel_rfl) (by kernel_rfl) (by kernel_rfl) (fun _ _ _ h => h) (Or.inl ⟨by rfl, ?_⟩) (by assumption) ?_; rotate_left; (intro w hSw; (try dsimp only at hSw); go_split_ands; go_simp; first | done | with_reducible rfl); rotate_left; simp only [Act.put, List.getElem_toArray, List.getElem_cons_succ, List.getElem_cons_zero, List.setIfInBounds_toArray, List.set_cons_succ, List.set_cons_zero])
        (refine wpAnyH_take (i := 5) (v := ?_) rfl (by kernel_rfl) (by kernel_rfl) (by kernel_rfl) (fun _ _ _ h => h) (Or.inl ⟨by rfl, ?_⟩) (by assumption) ?_; rotate_left; (intro w hSw; (try dsimp only at hSw); go_split_ands; go_simp; first | done | with_reducible rfl); rotate_left; simp only [Act.put, List.getElem_toArray, List.getElem_cons_succ, List.getElem_cons_zero, List.setIfInBounds_toArray, List.set_cons_succ, List.set_cons_zero])
        (refine wpAnyH_take (i := 6) (v := ?_) rfl (by kernel_rfl) (by kernel_rfl) (by kernel_rfl) (fun _ _ _ h => h) (Or.inl ⟨by rfl, ?_⟩) (by assumption) ?_; rotate_left; (intro w hSw; (try dsimp only at hSw); go_split_ands; go_simp; first | done | with_reducible rfl); rotate_left; simp only [Act.put, List.getElem_toArray, List.getElem_cons_succ, List.getElem_cons_zero, List.setIfInBounds_toArray, List.set_cons_succ, List.set_cons_zero])
        (refine wpAnyH_take (i := 7) (v := ?_) rfl (by kernel_rfl) (by kernel_rfl) (by kernel_rfl) (fun _ _ _ h => h) (Or.inl ⟨by rfl, ?_⟩) (by assumption) ?_; rotate_left; (intro w hSw; (try dsimp only at hSw); go_split_ands; go_simp; first | done | with_reducible rfl); rotate_left; simp only [Act.put, List.getElem_toArray, List.getElem_cons_succ, List.getElem_cons_zero, List.setIfInBounds_toArray, List.set_cons_succ, List.set_cons_zero])
        refine wpAnyH_done (by kernel_rfl) ?_ _
        have HN2 : Seal (∀ j y, j < k + 1 → x.rc[j]? = some y → toB1 u d y = false) := ⟨fun j y hj hy => by
          rcases Nat.lt_or_eq_of_le (Nat.le_of_lt_succ hj) with h | h
          · exact HN.out j y h hy
          · subst h; rw [HX.out] at hy; rw [← Option.some.inj hy]; exact HE.out⟩
        have SZ : Seal (Pt w _ [[Res.cells (w.heap.size + 1) [.string u, .string d]], [Res.cells (w.heap.size) [.int .i64 x.id, .string x.fu, .string x.fd, .slice (some ⟨b, off, none⟩) x.rc.length pc, .slice pb x.body.length pd]]]) := S2
        go_wp2
        go_roundw
        case rel => exact ⟨k + 1, by omega, by go_num, HN2, SZ⟩
        case measure => simp [intOf]; omega
      rw [Classical.not_not] at h2
      have HE : Seal (toB1 u d r = true) := ⟨by unfold toB1; rw [h1, h2, beq_self_eq_true, beq_self_eq_true]; rfl⟩
      go_upto_region 4 with fail
      clear g0
      have S2 : Seal (Pt w wr.drew [[Res.cells (w.heap.size + 1) [.string u, .string d]], [Res.cells (w.heap.size) [.int .i64 x.id, .string x.fu, .string x.fd, .slice (some ⟨b, off, none⟩) x.rc.length pc, .slice pb x.body.length pd]]]) := ⟨S1.out.drew⟩
      refine wp_region_held_drew (S := (fun w' => w'.cell? ⟨w.heap.size, 3, none⟩ = some (.slice (some ⟨b, off, none⟩) x.rc.length pc) ∧ w'.cell? ⟨b, off + k * 4, none⟩ = some (.string r.u) ∧ w'.cell? ⟨b, off + k * 4 + 1, none⟩ = some (.string r.d) ∧ w'.cell? ⟨w.heap.size + 1, 0, none⟩ = some (.string u) ∧ w'.cell? ⟨w.heap.size + 1, 1, none⟩ = some (.string d))) (by kernel_rfl) ⟨(S2.out.cellsM 1 rfl).c 3 _ rfl, (heldc c0 S2.out.below), (heldc c1 S2.out.below), (S2.out.cellsM 0 rfl).c 0 _ rfl, (S2.out.cellsM 0 rfl).c 1 _ rfl⟩ (fun hHeld => ?_)
      (refine wpAnyH_take (i := 0) (v := ?_) rfl (by kernel_rfl) (by kernel_rfl) (by kernel_rfl) (fun _ _ _ h => h) (Or.inl ⟨by rfl, ?_⟩) (by assumption) ?_; rotate_left; (intro w hSw; (try dsimp only at hSw); go_split_ands; go_simp; first | done | with_reducible rfl); rotate_left; simp only [Act.put, List.getElem_toArray, List.getElem_cons_zero, List.setIfInBounds_toArray, List.set_cons_succ, List.set_cons_zero])
      (refine wpAnyH_take (i := 1) (v := ?_) rfl (by kernel_rfl) (by kernel_rfl) (by kernel_rfl) (fun _ _ _ h => h) (Or.inl ⟨by rfl, ?_⟩) (by assumption) ?_; rotate_left; (intro w hSw; (try dsimp only at hSw); go_split_ands; go_simp; first | done | with_reducible rfl); rotate_left; simp only [Act.put, List.getElem_toArray, List.getElem_cons_succ, List.getElem_cons_zero, List.setIfInBounds_toArray, List.set_cons_succ, List.set_cons_zero])
      (refine wpAnyH_take (i := 2) (v := ?_) rfl (by kernel_rfl) (by kernel_rfl) (by kernel_rfl) (fun _ _ _ h => h) (Or.inl ⟨by rfl, ?_⟩) (by assumption) ?_; rotate_left; (intro w hSw; (try dsimp only at hSw); go_split_ands; go_simp; first | done | with_reducible rfl); rotate_left; simp only [Act.put, List.getElem_toArray, List.getElem_cons_succ, List.getElem_cons_zero, List.setIfInBounds_toArray, List.set_cons_succ, List.set_cons_zero])
      (refine wpAnyH_take (i := 3) (v := ?_) rfl (by kernel_rfl) (by kernel_rfl) (by kernel_rfl) (fun _ _ _ h => h) (Or.inl ⟨by rfl, ?_⟩) (by assumption) ?_; rotate_left; (intro w hSw; (try dsimp only at hSw); go_split_ands; go_simp; first | done | with_reducible rfl); rotate_left; simp only [Act.put, List.getElem_toArray, List.getElem_cons_succ, List.getElem_cons_zero, List.setIfInBounds_toArray, List.set_cons_succ, List.set_cons_zero])
      (refine wpAnyH_take (i := 4) (v := ?_) rfl (by kernel_rfl) (by kernel_rfl) (by kernel_rfl) (fun _ _ _ h => h) (Or.inl ⟨by rfl, ?_⟩) (by assumption) ?_; rotate_left; (intro w hSw; (try dsimp only at hSw); go_split_ands; go_simp; first | done | with_reducible rfl); rotate_left; simp only [Act.put, List.getElem_toArray, List.getElem_cons_succ, List.getElem_cons_zero, List.setIfInBounds_toArray, List.set_cons_succ, List.set_cons_zero])
      (refine wpAnyH_take (i := 5) (v := ?_) rfl (by kernel_rfl) (by kernel_rfl) (by kernel_rfl) (fun _ _ _ h => h) (Or.inl ⟨by rfl, ?_⟩) (by assumption) ?_; rotate_left; (intro w hSw; (try dsimp only at hSw); go_split_ands; go_simp; first | done | with_reducible rfl); rotate_left; simp only [Act.put, List.getElem_toArray, List.getElem_cons_succ, List.getElem_cons_zero, List.setIfInBounds_toArray, List.set_cons_succ, List.set_cons_zero])
      (refine wpAnyH_take (i := 6) (v := ?_) rfl (by kernel_rfl) (by kernel_rfl) (by kernel_rfl) (fun _ _ _ h => h) (Or.inl ⟨by rfl, ?_⟩) (by assumption) ?_; rotate_left; (intro w hSw; (try dsimp only at hSw); go_split_ands; go_simp; first | done | with_reducible rfl); rotate_left; simp only [Act.put, List.getElem_toArray, List.getElem_cons_succ, List.getElem_cons_zero, List.setIfInBounds_toArray, List.set_cons_succ, List.set_cons_zero])
      (refine wpAnyH_take (i := 7) (v := ?_) rfl (by kernel_rfl) (by kernel_rfl) (by kernel_rfl) (fun _ _ _ h => h) (Or.inl ⟨by rfl, ?_⟩) (by assumption) ?_; rotate_left; (intro w hSw; (try dsimp only at hSw); go_split_ands; go_simp; first | done | with_reducible rfl); rotate_left; simp only [Act.put, List.getElem_toArray, List.getElem_cons_succ, List.getElem_cons_zero, List.setIfInBounds_toArray, List.set_cons_succ, List.set_cons_zero])
      refine wpAnyH_done (by kernel_rfl) ?_ _
      have hm : Seal (findR (toB1 u d) x.rc = k) := ⟨findR_hit HX.out HE.out HN.out⟩
      have SZ : Seal (Pt w _ [[Res.cells (w.heap.size + 1) [.string u, .string d]], [Res.cells (w.heap.size) [.int .i64 x.id, .string x.fu, .string x.fd, .slice (some ⟨b, off, none⟩) x.rc.length pc, .slice pb x.body.length pd]]]) := S2
      go_wp2
      go_ret
      exact ⟨ret_k hm.out.symm, SZ.out.below⟩
    · have hm : Seal (findR (toB1 u d) x.rc = -1) := ⟨findR_none fun j y hj hy => HN.out j y (by omega) hy⟩
      go_wp2
      go_ret
      exact ⟨ret_k hm.out.symm, S1.out.below⟩
end Go.Proofs.YtfffocfcnigogaaGreatDoor
