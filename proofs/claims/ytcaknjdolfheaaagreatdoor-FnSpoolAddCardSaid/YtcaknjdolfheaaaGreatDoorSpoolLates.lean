/- Pause, SpoolAt, SpoolSet, SpoolLaterS, SpoolLaterI. -/
import Derived.Test.YtcaknjdolfheaaaGreatDoorTk
import Derived.Test.YtcaknjdolfheaaaGreatDoorProg
import Derived.WalkKit
import Derived.Lib.Hide
import Derived.Outline
import Derived.Laws.Shifts
import Derived.Laws.ShiftsVar
import Derived.Laws.ShiftsVarLaws
import Derived.IntWalk
import Derived.Below
import Derived.Test.YtcaknjdolfheaaaGreatDoorAddrs
import Derived.Test.YtcaknjdolfheaaaGreatDoorSpoolAdds
import Derived.Deep.RegionHeld3
import Derived.Deep.DeepCutAuto
namespace Go.Proofs.YtcaknjdolfheaaaGreatDoor
open Go Go.RowKit

def pauseZ (n : Int) : Int := if n = 1 then 2 else if n = 2 then 4 else if n = 3 then 8 else if n = 4 then 16 else -1
theorem pauseZ_out {n : Int} (h : n < 1 ∨ 4 < n) : pauseZ n = -1 := by unfold pauseZ; rw [if_neg (by omega), if_neg (by omega), if_neg (by omega), if_neg (by omega)]
theorem ret_ip {a b : Int} (h : a = b) : Ending.returned (.int .i64 a) = .returned (.int .i64 b) := by rw [h]

theorem implSpoolPause_any (n : Int) (w : World) :
    Calls Tryz.prog 206 #[.int .i64 n] w fun e w' => e = .returned (.int .i64 (pauseZ n)) ∧ w = w' := by
  rcases (show n < 1 ∨ 4 < n ∨ n = 1 ∨ n = 2 ∨ n = 3 ∨ n = 4 by omega) with h | h | rfl | rfl | rfl | rfl
  · have hm := Lib.hid (pauseZ_out (Or.inl h))
    go_enter Tryz.func206, Tryz.ntmps206
    go_wp2
    go_ret
    exact ⟨ret_ip hm.out.symm, rfl⟩
  · have hm := Lib.hid (pauseZ_out (Or.inr h))
    have h1 : ¬ n < 1 := by omega
    go_enter Tryz.func206, Tryz.ntmps206
    go_wp2
    go_ret
    exact ⟨ret_ip hm.out.symm, rfl⟩
  all_goals
    go_enter Tryz.func206, Tryz.ntmps206
    go_wp2
    go_ret
    exact ⟨rfl, rfl⟩

theorem l5Pause_in (N : Nat) (h1 : 1 ≤ N) (h4 : N ≤ 4) (w : World) :
    Calls Tryz.prog 199 #[.int .i64 (N : Int)] w fun e w' => e = .returned (.int .i64 (pauseZ N)) ∧ w = w' := by
  go_enter Tryz.func199, Tryz.ntmps199
  go_wp2
  go_loop [3, 4] (fun v i => ∃ k : Nat, 1 ≤ k ∧ k ≤ N ∧ i = .int .i64 k ∧ v = .int .i64 (pauseZ k)) (fun _ i => N - (intOf i).toNat)
  case atStart => exact ⟨1, Nat.le_refl _, h1, rfl, rfl⟩
  case round =>
    obtain ⟨k, hk1, hk, rfl, rfl⟩ := hrel
    by_cases hlt : k < N
    · obtain rfl | rfl | rfl : k = 1 ∨ k = 2 ∨ k = 3 := by omega
      all_goals
        go_wp2
        go_round
        case rel => exact ⟨_, by omega, hlt, rfl, congrArg (Value.int IntKind.i64) (by decide +kernel)⟩
        case measure => simp [intOf]; omega
    · obtain rfl : k = N := by omega
      go_wp2
      go_ret
      exact ⟨rfl, rfl⟩

end Go.Proofs.YtcaknjdolfheaaaGreatDoor
namespace Go.Proofs.YtcaknjdolfheaaaGreatDoor
open Go Go.RowKit

/-! ### plain facts -/
/-- The first of a row that is wanted, or -1. -/
def findR {α : Type} (f : α → Bool) (xs : List α) : Int := if xs.findIdx f < xs.length then (xs.findIdx f : Int) else -1
theorem findR_hit {α : Type} {f : α → Bool} {xs : List α} {k : Nat} {x : α} (hx : xs[k]? = some x) (hf : f x = true) (hn : ∀ j y, j < k → xs[j]? = some y → f y = false) : findR f xs = k := by
  obtain ⟨hk, e⟩ := List.getElem?_eq_some_iff.1 hx
  have h : xs.findIdx f = k := (List.findIdx_eq hk).2 ⟨by rw [e]; exact hf, fun j hj => hn j _ hj (List.getElem?_eq_getElem (by omega))⟩
  unfold findR
  rw [h, if_pos hk]
theorem findR_none {α : Type} {f : α → Bool} {xs : List α} (hn : ∀ j y, j < xs.length → xs[j]? = some y → f y = false) : findR f xs = -1 := by
  have h : xs.findIdx f = xs.length := List.findIdx_eq_length.2 fun y hy => by
    obtain ⟨j, hj⟩ := List.getElem?_of_mem hy
    exact hn j y (List.getElem?_eq_some_iff.1 hj).1 hj
  unfold findR
  rw [h, if_neg (by omega)]
theorem findR_cases {α : Type} (f : α → Bool) (xs : List α) : findR f xs = -1 ∨ ∃ (k : Nat) (x : α), findR f xs = k ∧ xs[k]? = some x ∧ f x = true := by
  unfold findR
  by_cases h : xs.findIdx f < xs.length
  · rw [if_pos h]
    have hi := (List.findIdx_eq (p := f) h).1 rfl
    exact .inr ⟨_, _, rfl, List.getElem?_eq_getElem h, hi.1⟩
  · rw [if_neg h]; exact .inl rfl
def idB (i : Int) (x : ItemD) : Bool := x.id == i
def toB1 (u d : ByteArray) (r : RcptD) : Bool := (r.u.toList == u.toList) && (r.d.toList == d.toList)
theorem ret_k {a b : Int} (h : a = b) : Ending.returned (.int .i64 a) = .returned (.int .i64 b) := by rw [h]

set_option maxHeartbeats 1600000 in
set_option maxRecDepth 100000 in
theorem l5At_any (s : SpoolD) (ao : Option Addr) (cap : Nat) (i : Int) (w : World) (hat : ItemRow w ao s.items) (hl : s.items.length ≤ 1048576) :
    Calls Tryz.prog 207 #[.agg (spoolV s ao cap), .int .i64 i] w fun e w' => e = .returned (.int .i64 (findR (idB i) s.items)) ∧ Below w.heap.size w w' := by
  have S0 : Seal _ := ⟨(St.start w).alloc (spoolV s ao cap) 25⟩
  have HA : Seal _ := ⟨hat.below itemP_stays S0.out.below (Nat.le_refl _)⟩
  have g1 := S0.out.head.c 1 _ rfl
  obtain ⟨B, hB⟩ : ∃ B, w.heap.size = B := ⟨_, rfl⟩
  clear hat
  go_enter Tryz.func207, Tryz.ntmps207
  go_wp2
  go_loop [5] (fun i' => ∃ k : Nat, k ≤ s.items.length ∧ i' = .int .i64 k ∧ Seal (∀ j y, j < k → s.items[j]? = some y → idB i y = false)) (fun i' => s.items.length - (intOf i').toNat)
  case atStart => exact ⟨0, Nat.zero_le _, rfl, ⟨fun j y hj => by omega⟩⟩
  case round =>
    obtain ⟨k, hk, rfl, HN⟩ := hrel
    by_cases hlt : k < s.items.length
    · obtain ⟨x, hx⟩ : ∃ x, s.items[k]? = some x := ⟨_, List.getElem?_eq_getElem hlt⟩
      obtain ⟨b, off, p, rfl, c0, _, _, _, _, _⟩ := itemAt HA.out hx
      have HX : Seal _ := ⟨hx⟩
      clear hx
      cases he : (x.id == i)
      · have HN2 : Seal (∀ j y, j < k + 1 → s.items[j]? = some y → idB i y = false) := ⟨fun j y hj hy => by
          rcases Nat.lt_or_eq_of_le (Nat.le_of_lt_succ hj) with h | h
          · exact HN.out j y h hy
          · subst h; rw [HX.out] at hy; rw [← Option.some.inj hy]; exact he⟩
        go_wp2
        go_round
        case rel => exact ⟨k + 1, by omega, by go_num, HN2⟩
        case measure => simp [intOf]; omega
      · have hm : Seal (findR (idB i) s.items = k) := ⟨findR_hit HX.out he HN.out⟩
        go_wp2
        go_ret
        exact ⟨ret_k hm.out.symm, by rw [← hB]; exact S0.out.below⟩
    · have hm : Seal (findR (idB i) s.items = -1) := ⟨findR_none fun j y hj hy => HN.out j y (by omega) hy⟩
      go_wp2
      go_ret
      exact ⟨ret_k hm.out.symm, by rw [← hB]; exact S0.out.below⟩

set_option maxHeartbeats 1600000 in
set_option maxRecDepth 100000 in
theorem l5Rcpt_any (x : ItemD) (p : ItemV) (u d : ByteArray) (w : World) (hat : RcptRow w p.a1 x.rc) (hl : x.rc.length ≤ 1048576) :
    Calls Tryz.prog 208 #[.agg (itemV x p), .agg #[.string u, .string d]] w fun e w' => e = .returned (.int .i64 (findR (toB1 u d) x.rc)) ∧ Below w.heap.size w w' := by
  have S0 : Seal (Pt w ((w.alloc (.cells (itemV x p) 43)).alloc (.cells #[.string u, .string d] 27)) [[Res.cells (w.heap.size + 1) [.string u, .string d]], [Res.cells w.heap.size (itemL x p)]]) := ⟨by
    have h := ((Pt.start w).alloc (itemV x p) 43).alloc #[.string u, .string d] 27
    simp only [World.size_alloc] at h
    exact h⟩
  have HA : Seal _ := ⟨hat⟩
  have g0 := (S0.out.cellsM 1 rfl).c 3 _ rfl
  clear hat
  go_enter Tryz.func208, Tryz.ntmps208
  go_wp2
  clear g0
  go_loopw [5] (fun i' wr => ∃ k : Nat, k ≤ x.rc.length ∧ i' = .int .i64 k ∧ Seal (∀ j y, j < k → x.rc[j]? = some y → toB1 u d y = false) ∧ Seal (Pt w wr [[Res.cells (w.heap.size + 1) [.string u, .string d]], [Res.cells (w.heap.size) [.int .i64 x.id, .string x.fu, .string x.fd, .slice p.a1 x.rc.length p.c1, .slice p.a2 x.body.length p.c2]]])) (fun i' _ => x.rc.length - (intOf i').toNat)
  case atStart => exact ⟨0, Nat.zero_le _, rfl, ⟨fun j y hj => by omega⟩, S0⟩
  case round =>
    obtain ⟨k, hk, rfl, HN, S⟩ := hrel
    clear S0
    have S1 := S
    clear S
    have g0 := (S1.out.cellsM 1 rfl).c 3 _ rfl
    by_cases hlt : k < x.rc.length
    · obtain ⟨r, hx⟩ : ∃ r, x.rc[k]? = some r := ⟨_, List.getElem?_eq_getElem hlt⟩
      obtain ⟨b, off, ha, c0, c1, _, _⟩ := rcptAt HA.out hx
      have HX : Seal _ := ⟨hx⟩
      have hi0 : (0 : Int) ≤ (k : Int) := by omega
      have hi1 : (k : Int) < (x.rc.length : Int) := by omega
      clear hx
      obtain ⟨pa, pc, pb, pd⟩ := p
      dsimp only at ha
      subst ha
      by_cases h1 : ¬ r.u.toList = u.toList
      · skip
        have HE : Seal (toB1 u d r = false) := ⟨by unfold toB1; rw [beq_eq_false_iff_ne.2 h1]; rfl⟩
        go_upto_region 4 with fail
        clear g0
        have S2 : Seal (Pt w wr.drew [[Res.cells (w.heap.size + 1) [.string u, .string d]], [Res.cells (w.heap.size) [.int .i64 x.id, .string x.fu, .string x.fd, .slice (some ⟨b, off, none⟩) x.rc.length pc, .slice pb x.body.length pd]]]) := ⟨S1.out.drew⟩
        refine wp_region_held_drew (S := (fun w' => w'.cell? ⟨w.heap.size, 3, none⟩ = some (.slice (some ⟨b, off, none⟩) x.rc.length pc) ∧ w'.cell? ⟨b, off + k * 4, none⟩ = some (.string r.u) ∧ w'.cell? ⟨b, off + k * 4 + 1, none⟩ = some (.string r.d) ∧ w'.cell? ⟨w.heap.size + 1, 0, none⟩ = some (.string u) ∧ w'.cell? ⟨w.heap.size + 1, 1, none⟩ = some (.string d))) (by kernel_rfl) ⟨(S2.out.cellsM 1 rfl).c 3 _ rfl, (heldc c0 S2.out.below), (heldc c1 S2.out.below), (S2.out.cellsM 0 rfl).c 0 _ rfl, (S2.out.cellsM 0 rfl).c 1 _ rfl⟩ (fun hHeld => ?_)
        refine tkH 0 (by assumption) (h := ?_)
        refine tkH 1 (by assumption) (h := ?_)
        refine tkH 2 (by assumption) (h := ?_)
        refine tkH 3 (by assumption) (h := ?_)
        refine tkH 4 (by assumption) (h := ?_)
        refine tkH 5 (by assumption) (h := ?_)
        refine tkH 6 (by assumption) (h := ?_)
        refine tkH 7 (by assumption) (h := ?_)
        refine wpAnyH_done (by kernel_rfl) ?_ _
        have HN2 : Seal (∀ j y, j < k + 1 → x.rc[j]? = some y → toB1 u d y = false) := ⟨fun j y hj hy => by
          rcases Nat.lt_or_eq_of_le (Nat.le_of_lt_succ hj) with h | h
          · exact HN.out j y h hy
          · subst h; rw [HX.out] at hy; rw [← Option.some.inj hy]; exact HE.out⟩
        have SZ : Seal (Pt w _ [[Res.cells (w.heap.size + 1) [.string u, .string d]], [Res.cells (w.heap.size) [.int .i64 x.id, .string x.fu, .string x.fd, .slice (some ⟨b, off, none⟩) x.rc.length pc, .slice pb x.body.length pd]]]) := S2
        go_wp2
        go_roundw
        case rel => exact ⟨k + 1, by omega, by go_num, HN2, SZ⟩
        case measure => simp [intOf]; omega
      rw [Classical.not_not] at h1
      by_cases h2 : ¬ r.d.toList = d.toList
      · skip
        have HE : Seal (toB1 u d r = false) := ⟨by unfold toB1; rw [beq_eq_false_iff_ne.2 h2, Bool.and_false]⟩
        go_upto_region 4 with fail
        clear g0
        have S2 : Seal (Pt w wr.drew [[Res.cells (w.heap.size + 1) [.string u, .string d]], [Res.cells (w.heap.size) [.int .i64 x.id, .string x.fu, .string x.fd, .slice (some ⟨b, off, none⟩) x.rc.length pc, .slice pb x.body.length pd]]]) := ⟨S1.out.drew⟩
        refine wp_region_held_drew (S := (fun w' => w'.cell? ⟨w.heap.size, 3, none⟩ = some (.slice (some ⟨b, off, none⟩) x.rc.length pc) ∧ w'.cell? ⟨b, off + k * 4, none⟩ = some (.string r.u) ∧ w'.cell? ⟨b, off + k * 4 + 1, none⟩ = some (.string r.d) ∧ w'.cell? ⟨w.heap.size + 1, 0, none⟩ = some (.string u) ∧ w'.cell? ⟨w.heap.size + 1, 1, none⟩ = some (.string d))) (by kernel_rfl) ⟨(S2.out.cellsM 1 rfl).c 3 _ rfl, (heldc c0 S2.out.below), (heldc c1 S2.out.below), (S2.out.cellsM 0 rfl).c 0 _ rfl, (S2.out.cellsM 0 rfl).c 1 _ rfl⟩ (fun hHeld => ?_)
        refine tkH 0 (by assumption) (h := ?_)
        refine tkH 1 (by assumption) (h := ?_)
        refine tkH 2 (by assumption) (h := ?_)
        refine tkH 3 (by assumption) (h := ?_)
        refine tkH 4 (by assumption) (h := ?_)
        refine tkH 5 (by assumption) (h := ?_)
        refine tkH 6 (by assumption) (h := ?_)
        refine tkH 7 (by assumption) (h := ?_)
        refine wpAnyH_done (by kernel_rfl) ?_ _
        have HN2 : Seal (∀ j y, j < k + 1 → x.rc[j]? = some y → toB1 u d y = false) := ⟨fun j y hj hy => by
          rcases Nat.lt_or_eq_of_le (Nat.le_of_lt_succ hj) with h | h
          · exact HN.out j y h hy
          · subst h; rw [HX.out] at hy; rw [← Option.some.inj hy]; exact HE.out⟩
        have SZ : Seal (Pt w _ [[Res.cells (w.heap.size + 1) [.string u, .string d]], [Res.cells (w.heap.size) [.int .i64 x.id, .string x.fu, .string x.fd, .slice (some ⟨b, off, none⟩) x.rc.length pc, .slice pb x.body.length pd]]]) := S2
        go_wp2
        go_roundw
        case rel => exact ⟨k + 1, by omega, by go_num, HN2, SZ⟩
        case measure => simp [intOf]; omega
      rw [Classical.not_not] at h2
      have HE : Seal (toB1 u d r = true) := ⟨by unfold toB1; rw [h1, h2, beq_self_eq_true, beq_self_eq_true]; rfl⟩
      go_upto_region 4 with fail
      clear g0
      have S2 : Seal (Pt w wr.drew [[Res.cells (w.heap.size + 1) [.string u, .string d]], [Res.cells (w.heap.size) [.int .i64 x.id, .string x.fu, .string x.fd, .slice (some ⟨b, off, none⟩) x.rc.length pc, .slice pb x.body.length pd]]]) := ⟨S1.out.drew⟩
      refine wp_region_held_drew (S := (fun w' => w'.cell? ⟨w.heap.size, 3, none⟩ = some (.slice (some ⟨b, off, none⟩) x.rc.length pc) ∧ w'.cell? ⟨b, off + k * 4, none⟩ = some (.string r.u) ∧ w'.cell? ⟨b, off + k * 4 + 1, none⟩ = some (.string r.d) ∧ w'.cell? ⟨w.heap.size + 1, 0, none⟩ = some (.string u) ∧ w'.cell? ⟨w.heap.size + 1, 1, none⟩ = some (.string d))) (by kernel_rfl) ⟨(S2.out.cellsM 1 rfl).c 3 _ rfl, (heldc c0 S2.out.below), (heldc c1 S2.out.below), (S2.out.cellsM 0 rfl).c 0 _ rfl, (S2.out.cellsM 0 rfl).c 1 _ rfl⟩ (fun hHeld => ?_)
      refine tkH 0 (by assumption) (h := ?_)
      refine tkH 1 (by assumption) (h := ?_)
      refine tkH 2 (by assumption) (h := ?_)
      refine tkH 3 (by assumption) (h := ?_)
      refine tkH 4 (by assumption) (h := ?_)
      refine tkH 5 (by assumption) (h := ?_)
      refine tkH 6 (by assumption) (h := ?_)
      refine tkH 7 (by assumption) (h := ?_)
      refine wpAnyH_done (by kernel_rfl) ?_ _
      have hm : Seal (findR (toB1 u d) x.rc = k) := ⟨findR_hit HX.out HE.out HN.out⟩
      have SZ : Seal (Pt w _ [[Res.cells (w.heap.size + 1) [.string u, .string d]], [Res.cells (w.heap.size) [.int .i64 x.id, .string x.fu, .string x.fd, .slice (some ⟨b, off, none⟩) x.rc.length pc, .slice pb x.body.length pd]]]) := S2
      go_wp2
      go_ret
      exact ⟨ret_k hm.out.symm, SZ.out.below⟩
    · have hm : Seal (findR (toB1 u d) x.rc = -1) := ⟨findR_none fun j y hj hy => HN.out j y (by omega) hy⟩
      go_wp2
      go_ret
      exact ⟨ret_k hm.out.symm, S1.out.below⟩
end Go.Proofs.YtcaknjdolfheaaaGreatDoor
namespace Go.Proofs.YtcaknjdolfheaaaGreatDoor
open Go Go.RowKit

theorem rcpt_at {w : World} {g c : Nat} {xs : List RcptD} (h : (rcptsR (some ⟨g, 0, none⟩) c xs).P w) {k : Nat} {r : RcptD} (hr : xs[k]? = some r) (j : Nat) (hj : j < 4) {v : Value} (hv : (rcptL r)[j]? = some v) : w.cell? ⟨g, k * 4 + j, none⟩ = some v ∧ w.frozen? ⟨g, k * 4 + j, none⟩ = false := by
  have h0 : w.ownsRow 0 105 4 (.slice (some ⟨g, 0, none⟩) xs.length c) xs.length (rcptE.all xs (ones xs)) := h
  have hk := (List.getElem?_eq_some_iff.1 hr).1
  have hlt : k * 4 + j < xs.length * 4 := by omega
  refine ⟨?_, h0.frozenAt _⟩
  rw [h0.cellAt _ hlt]
  have hp : (ones xs)[k]? = some () := by rw [List.getElem?_replicate, if_pos hk]
  exact (rcptE.all_get hr hp hj).trans hv
theorem rcpt_set {X : Nat → Prop} {w0 w : World} {g c : Nat} {xs : List RcptD} {l : List Res} (h : StX X w0 w (rcptsR (some ⟨g, 0, none⟩) c xs :: l)) {k : Nat} {r : RcptD} (hr : xs[k]? = some r) (j : Nat) (hj : j < 4) (v : Value) (r' : RcptD) (e : rcptL r' = (rcptL r).set j v) :
    StX X w0 (w.setCell ⟨g, k * 4 + j, none⟩ v) (rcptsR (some ⟨g, 0, none⟩) c (xs.set k r') :: l) := by
  have hk := (List.getElem?_eq_some_iff.1 hr).1
  have hx := take_drop_at hr
  have hset : xs.set k r' = xs.take k ++ r' :: xs.drop (k + 1) := by rw [List.set_eq_take_append_cons_drop, if_pos hk]
  have hu : ∀ n : Nat, n = xs.length → List.replicate n () = List.replicate k () ++ () :: List.replicate (xs.length - (k + 1)) () := fun n hn => by
    rw [← List.replicate_succ, List.replicate_append_replicate]
    congr 1
    omega
  have s : StX X w0 w (Res.row 105 rcptE.size (.slice (some ⟨g, 0, none⟩) xs.length c) xs.length (rcptE.all (xs.take k ++ r :: xs.drop (k + 1)) (List.replicate k () ++ () :: List.replicate (xs.length - (k + 1)) ())) :: l) := by
    rw [← hx, ← hu xs.length rfl]
    exact h
  have s2 := s.setElem rcptE (by simp; omega) (i := k) (by simp; omega) (j := j) hj v r' e
  rw [← hset, ← hu (xs.set k r').length (by simp)] at s2
  have hl : (xs.set k r').length = xs.length := by simp
  show StX X w0 _ (Res.row 105 4 (.slice (some ⟨g, 0, none⟩) (xs.set k r').length c) (xs.set k r').length (rcptE.all (xs.set k r') (List.replicate (xs.set k r').length ())) :: l)
  rw [hl] at s2 ⊢
  exact s2
abbrev itemRw (g c n : Nat) (xs : List ItemD) (ps : List ItemV) : Res := Res.row 43 5 (.slice (some ⟨g, 0, none⟩) n c) n (itemE.all xs ps)
theorem item_at {w : World} {g c n : Nat} {xs : List ItemD} {ps : List ItemV} (h : (itemRw g c n xs ps).P w) (hn : n = xs.length) {k : Nat} {x : ItemD} {p : ItemV} (hx : xs[k]? = some x) (hp : ps[k]? = some p) (j : Nat) (hj : j < 5) {v : Value} (hv : (itemL x p)[j]? = some v) : w.cell? ⟨g, k * 5 + j, none⟩ = some v ∧ w.frozen? ⟨g, k * 5 + j, none⟩ = false := by
  have h0 : w.ownsRow 0 43 5 (.slice (some ⟨g, 0, none⟩) n c) n (itemE.all xs ps) := h
  have hk := (List.getElem?_eq_some_iff.1 hx).1
  have hlt : k * 5 + j < n * 5 := by omega
  refine ⟨?_, h0.frozenAt _⟩
  rw [h0.cellAt _ hlt]
  exact (itemE.all_get hx hp hj).trans hv
theorem item_set {X : Nat → Prop} {w0 w : World} {g c n : Nat} {xs : List ItemD} {ps : List ItemV} {l : List Res} (h : StX X w0 w (itemRw g c n xs ps :: l)) {k : Nat} {x : ItemD} {p : ItemV} (hx : xs[k]? = some x) (hp : ps[k]? = some p) (y : ItemD) (q : ItemV) :
    StX X w0 (setCells w g (k * 5) 0 (itemL y q)) (itemRw g c n (xs.set k y) (ps.set k q) :: l) := by
  have hk := (List.getElem?_eq_some_iff.1 hx).1
  have hk2 := (List.getElem?_eq_some_iff.1 hp).1
  have s2 := h.setAll (k * 5) 0 (itemL y q)
  have e1 := take_drop_at hx
  have e2 := take_drop_at hp
  have ht : (ps.take k).length = (xs.take k).length := by simp; omega
  have ha : (itemE.all (xs.take k) (ps.take k)).length = k * 5 := by
    rw [itemE.all_length ht]
    show (xs.take k).length * 5 = k * 5
    simp; omega
  have ev : setVals (itemE.all xs ps) (k * 5) 0 (itemL y q) = itemE.all (xs.set k y) (ps.set k q) := by
    rw [List.set_eq_take_append_cons_drop, if_pos hk, List.set_eq_take_append_cons_drop, if_pos hk2, itemE.all_split ht]
    have h4 : itemE.all xs ps = itemE.all (xs.take k) (ps.take k) ++ (itemL x p ++ itemE.all (xs.drop (k + 1)) (ps.drop (k + 1))) := by
      have := itemE.all_split (B := xs.drop (k + 1)) (PB := ps.drop (k + 1)) ht x p
      rw [← e1, ← e2] at this
      exact this
    rw [h4, ← ha]
    exact setVals_mid (itemE.all (xs.take k) (ps.take k)) [] (itemL y q) (itemL x p) _ rfl
  rw [ev] at s2
  exact s2
/-- What an element's place led to goes, what the new one leads to comes. -/
theorem ress_set {xs : List ItemD} {ps : List ItemV} {k : Nat} {x : ItemD} {p : ItemV} (hl : ps.length = xs.length) (hx : xs[k]? = some x) (hp : ps[k]? = some p) (y : ItemD) (q : ItemV) :
    itemE.ress xs ps = itemE.ress (xs.take k) (ps.take k) ++ (itemE.res x p ++ itemE.ress (xs.drop (k + 1)) (ps.drop (k + 1))) ∧ itemE.ress (xs.set k y) (ps.set k q) = itemE.ress (xs.take k) (ps.take k) ++ (itemE.res y q ++ itemE.ress (xs.drop (k + 1)) (ps.drop (k + 1))) := by
  have hk := (List.getElem?_eq_some_iff.1 hx).1
  have ht : (ps.take k).length = (xs.take k).length := by simp; omega
  constructor
  · have := itemE.ress_split (B := xs.drop (k + 1)) (PB := ps.drop (k + 1)) ht x p
    rw [← take_drop_at hx, ← take_drop_at hp] at this
    exact this
  · rw [List.set_eq_take_append_cons_drop, if_pos hk, List.set_eq_take_append_cons_drop, if_pos (by omega)]
    exact itemE.ress_split ht y q
end Go.Proofs.YtcaknjdolfheaaaGreatDoor
namespace Go.Proofs.YtcaknjdolfheaaaGreatDoor
open Go Go.RowKit

/-! ### plain facts -/
def nextR (r : RcptD) (now : Int) : Int := now + pauseZ (r.tries + 1)
def lateR (r : RcptD) (now : Int) : RcptD := ⟨r.u, r.d, r.tries + 1, nextR r now⟩
def lateI (x : ItemD) (k : Nat) (r : RcptD) (now : Int) : ItemD := ⟨x.id, x.fu, x.fd, x.rc.set k (lateR r now), x.body⟩
def lateD (s : SpoolD) (i : Nat) (y : ItemD) : SpoolD := ⟨s.last, s.items.set i y⟩
def mayLate (r : RcptD) (now : Int) : Bool := decide (r.tries + 1 < 4) && decide (nextR r now ≤ 9999)
theorem pause_in {n : Int} (h1 : 1 ≤ n) (h4 : n ≤ 4) : 2 ≤ pauseZ n ∧ pauseZ n ≤ 16 := by
  rcases (show n = 1 ∨ n = 2 ∨ n = 3 ∨ n = 4 by omega) with rfl | rfl | rfl | rfl <;> decide
theorem l5Pause_Z (n : Int) (h1 : 1 ≤ n) (h4 : n ≤ 4) (w : World) : Calls Tryz.prog 199 #[.int .i64 n] w fun e w' => e = .returned (.int .i64 (pauseZ n)) ∧ w = w' := by
  obtain ⟨N, rfl⟩ := Int.eq_ofNat_of_zero_le (by omega : 0 ≤ n)
  exact l5Pause_in N (by omega) (by omega) w

theorem perm_pull {α : Type} (A R B l : List α) : ((A ++ (R ++ B)) ++ l).Perm (R ++ ((A ++ B) ++ l)) := by
  rw [← List.append_assoc R]
  refine List.Perm.append_right l ?_
  rw [← List.append_assoc, ← List.append_assoc]
  exact List.perm_append_comm.append_right B
theorem perm_put {α : Type} (A R B l : List α) : (R ++ ((A ++ B) ++ l)).Perm ((A ++ (R ++ B)) ++ l) := (perm_pull A R B l).symm

set_option maxHeartbeats 12800000 in
set_option maxRecDepth 100000 in
theorem l5Later_no {X : Nat → Prop} (l : List Res) (s : SpoolD) (ao : Option Addr) (cap : Nat) (ps : List ItemV) (hl : ps.length = s.items.length) (i k : Nat) (x : ItemD) (r : RcptD) (hx : s.items[i]? = some x) (hr : x.rc[k]? = some r) (now : Int) (w0 w : World) (h : StX X w0 w (itemsR ao cap s.items ps ++ l)) (hz : itemN x ≤ 1048576) (h0 : 0 ≤ r.tries) (h1 : r.tries ≤ 3) (n0 : 0 ≤ now) (n1 : now ≤ 9999) (hno : mayLate r now = false) :
    Calls Tryz.prog 148 #[.agg (spoolV s ao cap), .int .i64 i, .int .i64 k, .int .i64 now] w fun e w' => e = .returned (.tuple #[.agg (spoolV s ao cap), .bool false]) ∧ StX X w0 w' (itemsR ao cap s.items ps ++ l) := by
  have HS : Seal _ := ⟨h⟩
  have HL : Seal _ := ⟨hl⟩
  have HX : Seal _ := ⟨hx⟩
  have HR : Seal _ := ⟨hr⟩
  have HZ : Seal _ := ⟨hz⟩
  obtain ⟨P, hP⟩ : ∃ P, pauseZ (r.tries + 1) = P := ⟨_, rfl⟩
  have HP : Seal _ := ⟨hP⟩
  obtain ⟨hP1, hP2⟩ : 2 ≤ P ∧ P ≤ 16 := hP ▸ pause_in (by omega) (by omega)
  have CP : Seal (∀ W, Calls Tryz.prog 199 #[.int .i64 (r.tries + 1)] W fun e w' => e = .returned (.int .i64 P) ∧ W = w') := ⟨fun W => HP.out ▸ l5Pause_Z (r.tries + 1) (by omega) (by omega) W⟩
  have hik := (List.getElem?_eq_some_iff.1 hx).1
  have hkk := (List.getElem?_eq_some_iff.1 hr).1
  obtain ⟨p, hp⟩ : ∃ p, ps[i]? = some p := ⟨_, List.getElem?_eq_getElem (by omega)⟩
  have HPI : Seal (∃ p, ps[i]? = some p) := ⟨⟨p, hp⟩⟩
  have CC : Seal (∀ W, Below w.heap.size w W → Calls Tryz.prog 121 #[.agg (itemV x p)] W fun e w' => ∃ q, e = .returned (.agg (itemV x q)) ∧ St W w' (itemE.res x q)) := ⟨fun W hW => l5CopyItem_any _ x p w0 W (HS.out.later hW) (fun r hr => List.mem_append_left _ (List.mem_cons_of_mem _ (itemE.mem_ress hx hp hr))) HZ.out⟩
  have S0 : Seal (Pt w ((w.alloc (.cells (spoolV s ao cap) 25)).alloc (.cells #[.int .i64 0, .slice none 0 0] 25)) [[Res.cells (w.heap.size + 1) [.int .i64 0, .slice none 0 0]], [Res.cells w.heap.size [.int .i64 s.last, .slice ao s.items.length cap]]]) := ⟨by
    have h := ((Pt.start w).alloc (spoolV s ao cap) 25).alloc #[.int .i64 0, .slice none 0 0] 25
    simp only [World.size_alloc] at h
    exact h⟩
  obtain ⟨g, rfl, c0, c1, c2, c3, c4⟩ := itemCells (StX.later HS.out S0.out.below) hx hp
  have hi0 : (0 : Int) ≤ (i : Int) := by omega
  have hi1 : (i : Int) < (s.items.length : Int) := by omega
  have hk0 : (0 : Int) ≤ (k : Int) := by omega
  have hk1 : (k : Int) < (x.rc.length : Int) := by omega
  have hw1 : IntKind.i64.wrap (r.tries + 1) = r.tries + 1 := IntWalk.i64_in _ (by omega)
  have hw2 : IntKind.i64.wrap (now + P) = now + P := IntWalk.i64_in _ (by omega)
  have u1 := (S0.out.cellsM 1 rfl).c 1 _ rfl
  clear h hl hx hr hz hp hP
  go_enter Tryz.func148, Tryz.ntmps148
  go_wp2_with fail
  refine (CC.out _ S0.out.below).mono ?_
  rintro e w1 ⟨⟨qa, qc, qb, qd⟩, rfl, hk⟩
  obtain ⟨g2, rfl⟩ : ∃ g2, qa = some ⟨g2, 0, none⟩ := by
    rcases slice_or (hk.get List.mem_cons_self : (rcptsR qa qc x.rc).P w1) with h | h
    · omega
    · exact h
  obtain ⟨L, hL⟩ : ∃ L, w1.heap.size = L := ⟨_, rfl⟩
  have S1 : Seal (Pt w (w1.alloc (.cells #[.int .i64 x.id, .string x.fu, .string x.fd, .slice (some ⟨g2, 0, none⟩) x.rc.length qc, .slice qb x.body.length qd] 43)) [[Res.cells L [.int .i64 x.id, .string x.fu, .string x.fd, .slice (some ⟨g2, 0, none⟩) x.rc.length qc, .slice qb x.body.length qd]], [rcptsR (some ⟨g2, 0, none⟩) qc x.rc, strsR qb qd x.body], [Res.cells (w.heap.size + 1) [.int .i64 0, .slice none 0 0]], [Res.cells w.heap.size [.int .i64 s.last, .slice (some ⟨g, 0, none⟩) s.items.length cap]]]) := ⟨hL ▸ Pt.alloc (Pt.join S0.out hk) #[.int .i64 x.id, .string x.fu, .string x.fd, .slice (some ⟨g2, 0, none⟩) x.rc.length qc, .slice qb x.body.length qd] 43⟩
  have t2 := (rcpt_at (S1.out.nth 1 rfl _ List.mem_cons_self) HR.out 2 (by decide) rfl).1
  have x3 := (S1.out.cellsM 0 rfl).c 3 _ rfl
  clear hk S0 CC c0 c1 c2 c3 c4 u1
  go_wp2_with fail
  refine (CP.out _).mono ?_
  rintro e w2 ⟨rfl, rfl⟩
  clear CP t2 x3 hL
  have hbad : ¬ (r.tries + 1 < 4) ∨ 9999 < now + P := by
    unfold mayLate nextR at hno
    rw [HP.out, Bool.and_eq_false_iff, decide_eq_false_iff_not, decide_eq_false_iff_not] at hno
    omega
  clear hno
  have r0 := (S1.out.cellsM 2 rfl).c 0 _ rfl
  have r1 := (S1.out.cellsM 2 rfl).c 1 _ rfl
  have u0 := (S1.out.cellsM 3 rfl).c 0 _ rfl
  have u1 := (S1.out.cellsM 3 rfl).c 1 _ rfl
  have f0 := (S1.out.cellsM 2 rfl).f 0 (by simp)
  have f1 := (S1.out.cellsM 2 rfl).f 1 (by simp)
  rcases hbad with hb4 | hb4
  · go_wp2
    refine bodyPost_ret (v := .tuple #[.agg #[.int .i64 s.last, .slice (some ⟨g, 0, none⟩) s.items.length cap], .bool false]) (by simp [results, Tryz.results148, go_sem, r0, r1]) rfl ⟨rfl, ?_⟩
    exact StX.later HS.out (((S1.out.bring 2 rfl).set 0 (.int .i64 s.last) (by simp)).set 1 (.slice (some ⟨g, 0, none⟩) s.items.length cap) (by simp)).below
  · by_cases h4 : r.tries + 1 < 4
    · go_wp2
      refine bodyPost_ret (v := .tuple #[.agg #[.int .i64 s.last, .slice (some ⟨g, 0, none⟩) s.items.length cap], .bool false]) (by simp [results, Tryz.results148, go_sem, r0, r1]) rfl ⟨rfl, ?_⟩
      exact StX.later HS.out (((S1.out.bring 2 rfl).set 0 (.int .i64 s.last) (by simp)).set 1 (.slice (some ⟨g, 0, none⟩) s.items.length cap) (by simp)).below
    · go_wp2
      refine bodyPost_ret (v := .tuple #[.agg #[.int .i64 s.last, .slice (some ⟨g, 0, none⟩) s.items.length cap], .bool false]) (by simp [results, Tryz.results148, go_sem, r0, r1]) rfl ⟨rfl, ?_⟩
      exact StX.later HS.out (((S1.out.bring 2 rfl).set 0 (.int .i64 s.last) (by simp)).set 1 (.slice (some ⟨g, 0, none⟩) s.items.length cap) (by simp)).below

set_option maxHeartbeats 12800000 in
set_option maxRecDepth 100000 in
theorem l5Later_yes {X : Nat → Prop} (l : List Res) (s : SpoolD) (ao : Option Addr) (cap : Nat) (ps : List ItemV) (hl : ps.length = s.items.length) (hn : s.items.length ≤ 1048576) (i k : Nat) (x : ItemD) (r : RcptD) (hx : s.items[i]? = some x) (hr : x.rc[k]? = some r) (now : Int) (w0 w : World) (h : StX X w0 w (itemsR ao cap s.items ps ++ l)) (hz : itemN x ≤ 1048576) (h0 : 0 ≤ r.tries) (h1 : r.tries ≤ 3) (n0 : 0 ≤ now) (n1 : now ≤ 9999) (hyes : mayLate r now = true) :
    Calls Tryz.prog 148 #[.agg (spoolV s ao cap), .int .i64 i, .int .i64 k, .int .i64 now] w fun e w' => ∃ bo c q, e = .returned (.tuple #[.agg #[.int .i64 s.last, .slice bo s.items.length c], .bool true]) ∧ StX X w0 w' (itemsR bo c (s.items.set i (lateI x k r now)) (ps.set i q) ++ l) := by
  obtain ⟨i0, hi, hz0, hz1, hz2⟩ := info_parts infoItem
  have HS : Seal _ := ⟨h⟩
  have HL : Seal _ := ⟨hl⟩
  have HX : Seal _ := ⟨hx⟩
  have HR : Seal _ := ⟨hr⟩
  have HZ : Seal _ := ⟨hz⟩
  obtain ⟨P, hP⟩ : ∃ P, pauseZ (r.tries + 1) = P := ⟨_, rfl⟩
  have HP : Seal _ := ⟨hP⟩
  obtain ⟨hP1, hP2⟩ : 2 ≤ P ∧ P ≤ 16 := hP ▸ pause_in (by omega) (by omega)
  have CP : Seal (∀ W, Calls Tryz.prog 199 #[.int .i64 (r.tries + 1)] W fun e w' => e = .returned (.int .i64 P) ∧ W = w') := ⟨fun W => HP.out ▸ l5Pause_Z (r.tries + 1) (by omega) (by omega) W⟩
  have hik := (List.getElem?_eq_some_iff.1 hx).1
  have hkk := (List.getElem?_eq_some_iff.1 hr).1
  obtain ⟨p, hp⟩ : ∃ p, ps[i]? = some p := ⟨_, List.getElem?_eq_getElem (by omega)⟩
  have HPI : Seal (∃ p, ps[i]? = some p) := ⟨⟨p, hp⟩⟩
  have CC : Seal (∀ W, Below w.heap.size w W → Calls Tryz.prog 121 #[.agg (itemV x p)] W fun e w' => ∃ q, e = .returned (.agg (itemV x q)) ∧ St W w' (itemE.res x q)) := ⟨fun W hW => l5CopyItem_any _ x p w0 W (HS.out.later hW) (fun r hr => List.mem_append_left _ (List.mem_cons_of_mem _ (itemE.mem_ress hx hp hr))) HZ.out⟩
  have S0 : Seal (Pt w ((w.alloc (.cells (spoolV s ao cap) 25)).alloc (.cells #[.int .i64 0, .slice none 0 0] 25)) [[Res.cells (w.heap.size + 1) [.int .i64 0, .slice none 0 0]], [Res.cells w.heap.size [.int .i64 s.last, .slice ao s.items.length cap]]]) := ⟨by
    have h := ((Pt.start w).alloc (spoolV s ao cap) 25).alloc #[.int .i64 0, .slice none 0 0] 25
    simp only [World.size_alloc] at h
    exact h⟩
  obtain ⟨g, rfl, c0, c1, c2, c3, c4⟩ := itemCells (StX.later HS.out S0.out.below) hx hp
  have hi0 : (0 : Int) ≤ (i : Int) := by omega
  have hi1 : (i : Int) < (s.items.length : Int) := by omega
  have hk0 : (0 : Int) ≤ (k : Int) := by omega
  have hk1 : (k : Int) < (x.rc.length : Int) := by omega
  have hw1 : IntKind.i64.wrap (r.tries + 1) = r.tries + 1 := IntWalk.i64_in _ (by omega)
  have hw2 : IntKind.i64.wrap (now + P) = now + P := IntWalk.i64_in _ (by omega)
  have u1 := (S0.out.cellsM 1 rfl).c 1 _ rfl
  clear h hl hx hr hz hp hP
  go_enter Tryz.func148, Tryz.ntmps148
  go_wp2_with fail
  refine (CC.out _ S0.out.below).mono ?_
  rintro e w1 ⟨⟨qa, qc, qb, qd⟩, rfl, hk⟩
  obtain ⟨g2, rfl⟩ : ∃ g2, qa = some ⟨g2, 0, none⟩ := by
    rcases slice_or (hk.get List.mem_cons_self : (rcptsR qa qc x.rc).P w1) with h | h
    · omega
    · exact h
  obtain ⟨L, hL⟩ : ∃ L, w1.heap.size = L := ⟨_, rfl⟩
  have S1 : Seal (Pt w (w1.alloc (.cells #[.int .i64 x.id, .string x.fu, .string x.fd, .slice (some ⟨g2, 0, none⟩) x.rc.length qc, .slice qb x.body.length qd] 43)) [[Res.cells L [.int .i64 x.id, .string x.fu, .string x.fd, .slice (some ⟨g2, 0, none⟩) x.rc.length qc, .slice qb x.body.length qd]], [rcptsR (some ⟨g2, 0, none⟩) qc x.rc, strsR qb qd x.body], [Res.cells (w.heap.size + 1) [.int .i64 0, .slice none 0 0]], [Res.cells w.heap.size [.int .i64 s.last, .slice (some ⟨g, 0, none⟩) s.items.length cap]]]) := ⟨hL ▸ Pt.alloc (Pt.join S0.out hk) #[.int .i64 x.id, .string x.fu, .string x.fd, .slice (some ⟨g2, 0, none⟩) x.rc.length qc, .slice qb x.body.length qd] 43⟩
  have t2 := (rcpt_at (S1.out.nth 1 rfl _ List.mem_cons_self) HR.out 2 (by decide) rfl).1
  have x3 := (S1.out.cellsM 0 rfl).c 3 _ rfl
  clear hk S0 CC c0 c1 c2 c3 c4 u1
  go_wp2_with fail
  refine (CP.out _).mono ?_
  rintro e w2 ⟨rfl, rfl⟩
  clear CP t2 x3 hL
  have hgood : r.tries + 1 < 4 ∧ now + P ≤ 9999 := by
    unfold mayLate nextR at hyes
    rw [HP.out, Bool.and_eq_true, decide_eq_true_eq, decide_eq_true_eq] at hyes
    exact hyes
  obtain ⟨hg1, hg2⟩ := hgood
  clear hyes
  go_upto_region 6 with fail
  generalize w1.alloc (.cells #[.int .i64 x.id, .string x.fu, .string x.fd, .slice (some ⟨g2, 0, none⟩) x.rc.length qc, .slice qb x.body.length qd] 43) = W1 at *
  -- the copy is changed
  have k2 := rcpt_at (S1.out.nth 1 rfl _ List.mem_cons_self) HR.out 2 (by decide) rfl
  have k3 := rcpt_at (S1.out.nth 1 rfl _ List.mem_cons_self) HR.out 3 (by decide) rfl
  obtain ⟨k2a, k2b⟩ := k2
  obtain ⟨k3a, k3b⟩ := k3
  have x3 := (S1.out.cellsM 0 rfl).c 3 _ rfl
  have x3l := (S1.out.cellsM 0 rfl).lt
  have hne : g2 ≠ L := by
    intro e
    have h5 := (S1.out.bring 1 rfl).apart
    have h6 := List.rel_of_pairwise_cons h5 (a' := Res.cells L [.int .i64 x.id, .string x.fu, .string x.fd, .slice (some ⟨g2, 0, none⟩) x.rc.length qc, .slice qb x.body.length qd]) (by simp)
    exact h6 g2 rfl e
  have S2 : Seal (Pt w ((W1.setCell ⟨g2, k * 4 + 2, none⟩ (.int .i64 (r.tries + 1))).setCell ⟨g2, k * 4 + 3, none⟩ (.int .i64 (now + P))) [[rcptsR (some ⟨g2, 0, none⟩) qc (x.rc.set k (lateR r now)), strsR qb qd x.body], [Res.cells L [.int .i64 x.id, .string x.fu, .string x.fd, .slice (some ⟨g2, 0, none⟩) x.rc.length qc, .slice qb x.body.length qd]], [Res.cells (w.heap.size + 1) [.int .i64 0, .slice none 0 0]], [Res.cells w.heap.size [.int .i64 s.last, .slice (some ⟨g, 0, none⟩) s.items.length cap]]]) := ⟨by
    have a := rcpt_set (r' := ⟨r.u, r.d, r.tries + 1, r.next⟩) (S1.out.bring 1 rfl) HR.out 2 (by decide) (.int .i64 (r.tries + 1)) rfl
    have b := rcpt_set (r := ⟨r.u, r.d, r.tries + 1, r.next⟩) (r' := lateR r now) a (by rw [List.getElem?_set_self (List.getElem?_eq_some_iff.1 HR.out).1]) 3 (by decide) (.int .i64 (now + P)) (by unfold lateR nextR; rw [HP.out]; rfl)
    rw [List.set_set] at b
    exact b⟩
  go_upto_region 8 with fail
  clear S1 k2a k2b k3a k3b x3 x3l hne
  generalize (W1.setCell ⟨g2, k * 4 + 2, none⟩ (.int .i64 (r.tries + 1))).setCell ⟨g2, k * 4 + 3, none⟩ (.int .i64 (now + P)) = W2 at *
  -- the row of items is copied
  have S3 : Seal (Pt w (W2.alloc (.cells #[] 43)) [[Res.row 43 5 (.slice (some ⟨W2.heap.size, 0, none⟩) 0 0) 0 []], [rcptsR (some ⟨g2, 0, none⟩) qc (x.rc.set k (lateR r now)), strsR qb qd x.body], [Res.cells L [.int .i64 x.id, .string x.fu, .string x.fd, .slice (some ⟨g2, 0, none⟩) x.rc.length qc, .slice qb x.body.length qd]], [Res.cells (w.heap.size + 1) [.int .i64 0, .slice none 0 0]], [Res.cells w.heap.size [.int .i64 s.last, .slice (some ⟨g, 0, none⟩) s.items.length cap]]]) := ⟨Pt.built S2.out #[] 43 5 0 (by decide) rfl⟩
  have OW : Seal _ := ⟨Pt.row1 S3.out 0 rfl⟩
  have NW : Seal _ := ⟨own_news (HS.out.later S3.out.below).head⟩
  have HAL : Seal ((itemE.all s.items ps).length = s.items.length * 5) := ⟨itemE.all_length HL.out⟩
  have u1 := (S3.out.cellsM 4 rfl).c 1 _ rfl
  have ul := (S3.out.cellsM 4 rfl).lt
  clear S2
  go_wp2_with (at_builtin; refine wpList_append_own_at _ rfl _ _ 23 rfl 0 43 i0 (.agg #[.int .i64 0, .string ByteArray.empty, .string ByteArray.empty, .slice none 0 0, .slice none 0 0]) 5 88 Tryz.underlying23 hi hz0 hz1 hz2 rfl (by decide) _ 0 [] rfl OW.out ⟨g, 0, none⟩ s.items.length cap (itemE.all s.items ps) rfl HAL.out ?c1 ?c2 ?c3 ?c4 ?c5 ?_)
  case c1 => exact NW.out
  case c2 => exact items_all_one _ _
  case c3 => unfold maxLen; omega
  case c4 => omega
  case c5 => exact Nat.zero_le _
  intro v' w5 hown hg _ hat
  have s4 := Pt.app S3.out hown hg (by first | exact hat | (rw [World.size_alloc]; exact hat))
  obtain ⟨bo, c, rfl, _⟩ := row_value (Pt.row1 s4 0 rfl)
  have hsl := slice_or (Pt.row1 s4 0 rfl)
  obtain ⟨g3, rfl⟩ : ∃ g3, bo = some ⟨g3, 0, none⟩ := by
    rcases hsl with h | h
    · omega
    · exact h
  have S4 : Seal (Pt w w5 [[itemRw g3 c s.items.length s.items ps], [rcptsR (some ⟨g2, 0, none⟩) qc (x.rc.set k (lateR r now)), strsR qb qd x.body], [Res.cells L [.int .i64 x.id, .string x.fu, .string x.fd, .slice (some ⟨g2, 0, none⟩) x.rc.length qc, .slice qb x.body.length qd]], [Res.cells (w.heap.size + 1) [.int .i64 0, .slice none 0 0]], [Res.cells w.heap.size [.int .i64 s.last, .slice (some ⟨g, 0, none⟩) s.items.length cap]]]) := ⟨s4⟩
  clear s4 hsl hown hg hat OW NW S3 u1 ul
  have u1 := (S4.out.cellsM 4 rfl).c 1 _ rfl
  have uf := (S4.out.cellsM 4 rfl).f 1 (by simp)
  have S5 : Seal (Pt w (w5.setCell ⟨w.heap.size, 1, none⟩ (.slice (some ⟨g3, 0, none⟩) s.items.length c)) [[itemRw g3 c s.items.length s.items ps], [Res.cells w.heap.size [.int .i64 s.last, .slice (some ⟨g3, 0, none⟩) s.items.length c]], [rcptsR (some ⟨g2, 0, none⟩) qc (x.rc.set k (lateR r now)), strsR qb qd x.body], [Res.cells L [.int .i64 x.id, .string x.fu, .string x.fd, .slice (some ⟨g2, 0, none⟩) x.rc.length qc, .slice qb x.body.length qd]], [Res.cells (w.heap.size + 1) [.int .i64 0, .slice none 0 0]]]) := ⟨((S4.out.bring 4 rfl).set 1 (.slice (some ⟨g3, 0, none⟩) s.items.length c) (by simp)).bring 1 rfl⟩
  go_upto_region 9 with fail
  clear S4 u1 uf
  generalize w5.setCell ⟨w.heap.size, 1, none⟩ (.slice (some ⟨g3, 0, none⟩) s.items.length c) = W6 at *
  -- the item's place is written
  obtain ⟨p0, hp0⟩ := HPI.out
  have e0 := item_at (S5.out.nth 0 rfl _ List.mem_cons_self) rfl HX.out hp0 0 (by decide) rfl
  have e1 := item_at (S5.out.nth 0 rfl _ List.mem_cons_self) rfl HX.out hp0 1 (by decide) rfl
  have e2 := item_at (S5.out.nth 0 rfl _ List.mem_cons_self) rfl HX.out hp0 2 (by decide) rfl
  have e3 := item_at (S5.out.nth 0 rfl _ List.mem_cons_self) rfl HX.out hp0 3 (by decide) rfl
  have e4 := item_at (S5.out.nth 0 rfl _ List.mem_cons_self) rfl HX.out hp0 4 (by decide) rfl
  obtain ⟨e0a, e0b⟩ := e0
  obtain ⟨e1a, e1b⟩ := e1
  obtain ⟨e2a, e2b⟩ := e2
  obtain ⟨e3a, e3b⟩ := e3
  obtain ⟨e4a, e4b⟩ := e4
  simp only [Nat.add_zero] at e0a e0b
  have S6 : Seal (Pt w (((((W6.setCell ⟨g3, i * 5, none⟩ (.int .i64 x.id)).setCell ⟨g3, i * 5 + 1, none⟩ (.string x.fu)).setCell ⟨g3, i * 5 + 2, none⟩ (.string x.fd)).setCell ⟨g3, i * 5 + 3, none⟩ (.slice (some ⟨g2, 0, none⟩) x.rc.length qc)).setCell ⟨g3, i * 5 + 4, none⟩ (.slice qb x.body.length qd)) [[itemRw g3 c s.items.length (s.items.set i (lateI x k r now)) (ps.set i ⟨some ⟨g2, 0, none⟩, qc, qb, qd⟩)], [Res.cells w.heap.size [.int .i64 s.last, .slice (some ⟨g3, 0, none⟩) s.items.length c]], [rcptsR (some ⟨g2, 0, none⟩) qc (x.rc.set k (lateR r now)), strsR qb qd x.body], [Res.cells L [.int .i64 x.id, .string x.fu, .string x.fd, .slice (some ⟨g2, 0, none⟩) x.rc.length qc, .slice qb x.body.length qd]], [Res.cells (w.heap.size + 1) [.int .i64 0, .slice none 0 0]]]) := ⟨by
    have h := item_set S5.out HX.out hp0 (lateI x k r now) ⟨some ⟨g2, 0, none⟩, qc, qb, qd⟩
    have e9 : itemL (lateI x k r now) ⟨some ⟨g2, 0, none⟩, qc, qb, qd⟩ = [.int .i64 x.id, .string x.fu, .string x.fd, .slice (some ⟨g2, 0, none⟩) x.rc.length qc, .slice qb x.body.length qd] := by
      show [Value.int .i64 x.id, .string x.fu, .string x.fd, .slice (some ⟨g2, 0, none⟩) (x.rc.set k (lateR r now)).length qc, .slice qb x.body.length qd] = _
      rw [List.length_set]
    rw [e9] at h
    exact h⟩
  have u0 := (S5.out.cellsM 1 rfl).c 0 _ rfl
  have u1 := (S5.out.cellsM 1 rfl).c 1 _ rfl
  have ul := (S5.out.cellsM 1 rfl).lt
  have x0 := (S5.out.cellsM 3 rfl).c 0 _ rfl
  have x1 := (S5.out.cellsM 3 rfl).c 1 _ rfl
  have x2 := (S5.out.cellsM 3 rfl).c 2 _ rfl
  have x3 := (S5.out.cellsM 3 rfl).c 3 _ rfl
  have x4 := (S5.out.cellsM 3 rfl).c 4 _ rfl
  have xl := (S5.out.cellsM 3 rfl).lt
  go_upto_region 10 with fail
  clear S5 u0 u1 ul x0 x1 x2 x3 x4 xl e0a e0b e1a e1b e2a e2b e3a e3b e4a e4b
  generalize ((((W6.setCell ⟨g3, i * 5, none⟩ (.int .i64 x.id)).setCell ⟨g3, i * 5 + 1, none⟩ (.string x.fu)).setCell ⟨g3, i * 5 + 2, none⟩ (.string x.fd)).setCell ⟨g3, i * 5 + 3, none⟩ (.slice (some ⟨g2, 0, none⟩) x.rc.length qc)).setCell ⟨g3, i * 5 + 4, none⟩ (.slice qb x.body.length qd) = W7 at *
  have u0 := (S6.out.cellsM 1 rfl).c 0 _ rfl
  have u1 := (S6.out.cellsM 1 rfl).c 1 _ rfl
  have ul := (S6.out.cellsM 1 rfl).lt
  have r0 := (S6.out.cellsM 4 rfl).c 0 _ rfl
  have r1 := (S6.out.cellsM 4 rfl).c 1 _ rfl
  have f0 := (S6.out.cellsM 4 rfl).f 0 (by simp)
  have f1 := (S6.out.cellsM 4 rfl).f 1 (by simp)
  go_wp2
  refine bodyPost_ret (v := .tuple #[.agg #[.int .i64 s.last, .slice (some ⟨g3, 0, none⟩) s.items.length c], .bool true]) (by simp [results, Tryz.results148, go_sem, r0, r1]) rfl ⟨some ⟨g3, 0, none⟩, c, ⟨some ⟨g2, 0, none⟩, qc, qb, qd⟩, rfl, ?_⟩
  have s7 := ((S6.out.bring 4 rfl).set 0 (.int .i64 s.last) (by simp)).set 1 (.slice (some ⟨g3, 0, none⟩) s.items.length c) (by simp)
  have s8 := (s7.tail.bring 2 rfl).bring 1 rfl
  have k5 : St w _ [itemRw g3 c s.items.length (s.items.set i (lateI x k r now)) (ps.set i ⟨some ⟨g2, 0, none⟩, qc, qb, qd⟩), rcptsR (some ⟨g2, 0, none⟩) qc (x.rc.set k (lateR r now)), strsR qb qd x.body] := Pt.prefix (As := [[itemRw g3 c s.items.length (s.items.set i (lateI x k r now)) (ps.set i ⟨some ⟨g2, 0, none⟩, qc, qb, qd⟩)], [rcptsR (some ⟨g2, 0, none⟩) qc (x.rc.set k (lateR r now)), strsR qb qd x.body]]) (Bs := [[Res.cells w.heap.size [.int .i64 s.last, .slice (some ⟨g3, 0, none⟩) s.items.length c]], [Res.cells L [.int .i64 x.id, .string x.fu, .string x.fd, .slice (some ⟨g2, 0, none⟩) x.rc.length qc, .slice qb x.body.length qd]]]) s8
  obtain ⟨ra, rb⟩ := ress_set HL.out HX.out hp0 (lateI x k r now) ⟨some ⟨g2, 0, none⟩, qc, qb, qd⟩
  have h9 : StX X w0 w (itemE.ress s.items ps ++ l) := StX.tail HS.out
  rw [ra] at h9
  have h10 : StX X w0 w ((itemE.ress (s.items.take i) (ps.take i) ++ itemE.ress (s.items.drop (i + 1)) (ps.drop (i + 1))) ++ l) := by
    have h11 : StX X w0 w (itemE.res x p0 ++ ((itemE.ress (s.items.take i) (ps.take i) ++ itemE.ress (s.items.drop (i + 1)) (ps.drop (i + 1))) ++ l)) := h9.perm (perm_pull _ _ _ _)
    exact h11.drop
  have k6 := StX.join h10 k5
  have hlen : (s.items.set i (lateI x k r now)).length = s.items.length := List.length_set
  have er : itemsR (some ⟨g3, 0, none⟩) c (s.items.set i (lateI x k r now)) (ps.set i ⟨some ⟨g2, 0, none⟩, qc, qb, qd⟩) = itemRw g3 c s.items.length (s.items.set i (lateI x k r now)) (ps.set i ⟨some ⟨g2, 0, none⟩, qc, qb, qd⟩) :: (itemE.ress (s.items.take i) (ps.take i) ++ ([rcptsR (some ⟨g2, 0, none⟩) qc (x.rc.set k (lateR r now)), strsR qb qd x.body] ++ itemE.ress (s.items.drop (i + 1)) (ps.drop (i + 1)))) := by
    unfold itemsR Elem.row
    rw [rb, hlen]
    rfl
  rw [er]
  refine k6.perm (List.Perm.cons _ ?_)
  exact perm_put _ _ _ _
end Go.Proofs.YtcaknjdolfheaaaGreatDoor
namespace Go.Proofs.YtcaknjdolfheaaaGreatDoor
open Go Go.RowKit

/-! ### plain facts -/
def hitAt {α : Type} (f : α → Bool) (xs : List α) (k : Nat) : Bool := match xs[k]? with
  | some x => f x
  | none => false
theorem hitAt_of {α : Type} {f : α → Bool} {xs : List α} {k : Nat} {x : α} (h : xs[k]? = some x) : hitAt f xs k = f x := by unfold hitAt; rw [h]
theorem findR_hitAt {α : Type} {f : α → Bool} {xs : List α} {k : Nat} (hk : k < xs.length) (hq : hitAt f xs k = true) (hn : ∀ j, j < k → hitAt f xs j = false) : findR f xs = k := by
  obtain ⟨x, hx⟩ : ∃ x, xs[k]? = some x := ⟨_, List.getElem?_eq_getElem hk⟩
  rw [hitAt_of hx] at hq
  exact findR_hit hx hq fun j y hj hy => by have := hn j hj; rwa [hitAt_of hy] at this
theorem findR_noAt {α : Type} {f : α → Bool} {xs : List α} (hn : ∀ j, j < xs.length → hitAt f xs j = false) : findR f xs = -1 :=
  findR_none fun j y hj hy => by have := hn j hj; rwa [hitAt_of hy] at this
def findK (s : SpoolD) (i : Int) (u d : ByteArray) : Int × Int × Bool :=
  if findR (idB i) s.items < 0 then (0, 0, false) else match s.items[(findR (idB i) s.items).toNat]? with
  | none => (0, 0, false)
  | some x => if findR (toB1 u d) x.rc < 0 then (0, 0, false) else (findR (idB i) s.items, findR (toB1 u d) x.rc, true)
theorem findK_noid {s : SpoolD} {i : Int} {u d : ByteArray} (h : findR (idB i) s.items = -1) : findK s i u d = (0, 0, false) := by unfold findK; rw [h]; rfl
theorem findK_norc {s : SpoolD} {i : Int} {u d : ByteArray} {a : Nat} {x : ItemD} (h : findR (idB i) s.items = a) (hx : s.items[a]? = some x) (h2 : findR (toB1 u d) x.rc = -1) : findK s i u d = (0, 0, false) := by
  unfold findK
  rw [h, if_neg (by omega), Int.toNat_natCast, hx]
  dsimp only
  rw [h2]
  rfl
theorem findK_at {s : SpoolD} {i : Int} {u d : ByteArray} {a k : Nat} {x : ItemD} (h : findR (idB i) s.items = a) (hx : s.items[a]? = some x) (h2 : findR (toB1 u d) x.rc = k) : findK s i u d = ((a : Int), (k : Int), true) := by
  unfold findK
  rw [h, if_neg (by omega), Int.toNat_natCast, hx]
  dsimp only
  rw [h2, if_neg (by omega)]
theorem try_late {r : RcptD} {now : Int} (h0 : 0 ≤ r.tries) (h1 : r.tries ≤ 3) (n0 : 0 ≤ now) : tryB (lateR r now) = mayLate r now := by
  have hp := pause_in (n := r.tries + 1) (by omega) (by omega)
  unfold tryB mayLate lateR nextR
  dsimp only
  rw [Bool.eq_iff_iff]
  simp only [Bool.and_eq_true, decide_eq_true_eq]
  omega
theorem all_same {xs : List ItemD} {ps : List ItemV} {k : Nat} {x : ItemD} {p : ItemV} (hl : ps.length = xs.length) (hx : xs[k]? = some x) (hp : ps[k]? = some p) (y : ItemD) (e : itemL y p = itemL x p) : itemE.all (xs.set k y) ps = itemE.all xs ps := by
  have hk := (List.getElem?_eq_some_iff.1 hx).1
  have ht : (ps.take k).length = (xs.take k).length := by simp; omega
  have h1 := itemE.all_split (B := xs.drop (k + 1)) (PB := ps.drop (k + 1)) ht x p
  have h2 := itemE.all_split (B := xs.drop (k + 1)) (PB := ps.drop (k + 1)) ht y p
  rw [← take_drop_at hx, ← take_drop_at hp] at h1
  rw [← take_drop_at hp] at h2
  rw [List.set_eq_take_append_cons_drop, if_pos hk, h2, h1]
  show _ ++ (itemL y p ++ _) = _ ++ (itemL x p ++ _)
  rw [e]
theorem set_self' {α : Type} {ps : List α} {k : Nat} {p : α} (hp : ps[k]? = some p) : ps.set k p = ps := by
  obtain ⟨h, e⟩ := List.getElem?_eq_some_iff.1 hp
  rw [← e]
  exact List.set_getElem_self h

/-! ### the finders -/
theorem placeOne_any (a : Addr) (i : Int) (x : ItemD) (p : ItemV) (w : World) (hc : w.cell? a = some (.int .i64 i)) :
    Calls Tryz.prog 228 #[.agg (itemV x p), .pointer (some a)] w fun e w' => e = .returned (.bool (idB i x)) ∧ Below w.heap.size w w' := by
  have b0 : Seal (Below w.heap.size w (w.alloc (.cells (itemV x p) 43))) := ⟨(Below.refl _ _).alloc (Nat.le_refl _) _⟩
  have c1 := heldc hc b0.out
  clear hc
  go_enter Tryz.func228, Tryz.ntmps228
  go_wp2
  go_ret
  exact ⟨rfl, b0.out⟩
theorem findOne_any (b : Nat) (u d : ByteArray) (x : RcptD) (w : World) (hc : w.cell? ⟨b, 0, none⟩ = some (.string u)) (hc2 : w.cell? ⟨b, 1, none⟩ = some (.string d)) :
    Calls Tryz.prog 203 #[.agg (rcptV x), .pointer (some ⟨b, 0, none⟩)] w fun e w' => e = .returned (.bool (toB1 u d x)) ∧ Below w.heap.size w w' := by
  have b0 : Seal (Below w.heap.size w (w.alloc (.cells (rcptV x) 105))) := ⟨(Below.refl _ _).alloc (Nat.le_refl _) _⟩
  have c1 := heldc hc b0.out
  have c2 := heldc hc2 b0.out
  clear hc hc2
  go_enter Tryz.func203, Tryz.ntmps203
  go_wp2
  all_goals (go_ret; exact ⟨ret_b (by unfold toB1; simp [*]), b0.out⟩)

set_option maxHeartbeats 1600000 in
set_option maxRecDepth 100000 in
theorem place_any (s : SpoolD) (ao : Option Addr) (cap : Nat) (i : Int) (w : World) (hat : ItemRow w ao s.items) (hl : s.items.length ≤ 1048576) :
    Calls Tryz.prog 202 #[.agg (spoolV s ao cap), .int .i64 i] w fun e w' => e = .returned (.int .i64 (findR (idB i) s.items)) ∧ Below w.heap.size w w' := by
  have s0 := ((St.start w).alloc (spoolV s ao cap) 25).alloc #[.int .i64 i] 3
  simp only [World.size_alloc] at s0
  have S0 : Seal _ := ⟨s0⟩
  have CF : Seal (∀ W, St w W [Res.cells (w.heap.size + 1) [.int .i64 i], Res.cells w.heap.size [.int .i64 s.last, .slice ao s.items.length cap]] → Calls Tryz.prog 125 #[.slice ao s.items.length cap, .func (.func 228) #[] #[.pointer (some ⟨w.heap.size + 1, 0, none⟩)]] W (FindPost s.items.length (hitAt (idB i) s.items) (fun _ W => St w W [Res.cells (w.heap.size + 1) [.int .i64 i], Res.cells w.heap.size [.int .i64 s.last, .slice ao s.items.length cap]]) (fun _ W => St w W [Res.cells (w.heap.size + 1) [.int .i64 i], Res.cells w.heap.size [.int .i64 s.last, .slice ao s.items.length cap]]))) := ⟨fun W hW =>
    findItem_any 228 ⟨w.heap.size + 1, 0, none⟩ ao cap s.items (hitAt (idB i) s.items) _ _ W (enters_of Tryz.func228 (by kernel_rfl) rfl) hl hW (fun k W W' h hb => h.later hb) w hat (fun k W h => h.below)
      (fun k y p W hy _ h => by
        refine (placeOne_any ⟨w.heap.size + 1, 0, none⟩ i y p W (h.head.c 0 _ rfl)).mono ?_
        rintro e w1 ⟨rfl, hb1⟩
        rw [hitAt_of hy]
        exact ⟨rfl, fun _ => h.later hb1, fun _ => h.later hb1⟩)⟩
  clear hat s0
  go_enter Tryz.func202, Tryz.ntmps202
  go_wp2_with fail
  refine (items_any s ao cap _).mono ?_
  rintro e w1 ⟨rfl, hb1⟩
  have S1 : Seal _ := ⟨S0.out.later hb1⟩
  clear hb1 S0
  go_wp2_with fail
  refine (CF.out _ S1.out).mono ?_
  rintro e w2 ⟨r, rfl, h⟩
  rcases h with ⟨k, hk, rfl, hq, hn, hs⟩ | ⟨rfl, hn, hs⟩
  · have hm : Seal (findR (idB i) s.items = k) := ⟨findR_hitAt hk hq hn⟩
    have B1 : Seal _ := ⟨hs.below⟩
    clear hs hq hn CF S1
    go_wp2
    go_ret
    exact ⟨ret_k hm.out.symm, B1.out⟩
  · have hm : Seal (findR (idB i) s.items = -1) := ⟨findR_noAt hn⟩
    have B1 : Seal _ := ⟨hs.below⟩
    clear hs hn CF S1
    go_wp2
    go_ret
    exact ⟨ret_k hm.out.symm, B1.out⟩

theorem ret_findK {a b : Int × Int × Bool} (h : a = b) : Ending.returned (.tuple #[.int .i64 a.1, .int .i64 a.2.1, .bool a.2.2]) = .returned (.tuple #[.int .i64 b.1, .int .i64 b.2.1, .bool b.2.2]) := by rw [h]

set_option maxHeartbeats 1600000 in
set_option maxRecDepth 100000 in
theorem implFind_any (s : SpoolD) (ao : Option Addr) (cap : Nat) (i : Int) (u d : ByteArray) (w : World) (hat : ItemRow w ao s.items) (hz : spoolN s ≤ 1048576) :
    Calls Tryz.prog 154 #[.agg (spoolV s ao cap), .int .i64 i, .agg #[.string u, .string d]] w fun e w' => e = .returned (.tuple #[.int .i64 (findK s i u d).1, .int .i64 (findK s i u d).2.1, .bool (findK s i u d).2.2]) ∧ Below w.heap.size w w' := by
  obtain ⟨z1, z2⟩ := spoolN_parts hz
  have HA : Seal _ := ⟨hat⟩
  have HZ : Seal _ := ⟨z2⟩
  have s0 := ((St.start w).alloc (spoolV s ao cap) 25).alloc #[.string u, .string d] 27
  simp only [World.size_alloc] at s0
  have S0 : Seal _ := ⟨s0⟩
  have C1 : Seal _ := ⟨place_any s ao cap i _ (hat.below itemP_stays s0.below (Nat.le_refl _)) z1⟩
  clear hat hz z2 s0
  rcases findR_cases (idB i) s.items with hno | ⟨a, x, hat, hx, _⟩
  · have hm : Seal (findK s i u d = (0, 0, false)) := ⟨findK_noid hno⟩
    rw [hno] at C1
    clear hno
    go_enter Tryz.func154, Tryz.ntmps154
    go_wp2_with fail
    refine C1.out.mono ?_
    rintro e w1 ⟨rfl, hb1⟩
    have S1 : Seal _ := ⟨S0.out.later hb1⟩
    clear hb1 S0 C1
    go_wp2
    refine bodyPost_ret (v := .tuple #[.int .i64 0, .int .i64 0, .bool false]) (by simp [results, Tryz.results154, go_sem]) rfl ⟨by rw [hm.out], S1.out.below⟩
  have HX : Seal _ := ⟨hx⟩
  obtain ⟨b, off, p, rfl, c0, c1, c2, c3, c4, ia⟩ := itemAt HA.out hx
  have IA : Seal _ := ⟨ia⟩
  have HAT : Seal _ := ⟨hat⟩
  rw [hat] at C1
  have ha0 : (0 : Int) ≤ (a : Int) := by omega
  have hxl := (List.getElem?_eq_some_iff.1 hx).1
  have ha1 : (a : Int) < (s.items.length : Int) := by omega
  have ha2 : decide ((a : Int) < 0) = false := by rw [decide_eq_false_iff_not]; omega
  have z3 : x.rc.length ≤ 1048576 := (itemN_parts (HZ.out x (List.mem_of_getElem? hx))).2.2.1
  have CF : Seal (∀ W, St w W [Res.cells (w.heap.size + 1) [.string u, .string d], Res.cells w.heap.size [.int .i64 s.last, .slice (some ⟨b, off, none⟩) s.items.length cap]] → Calls Tryz.prog 131 #[.slice p.a1 x.rc.length p.c1, .func (.func 203) #[] #[.pointer (some ⟨w.heap.size + 1, 0, none⟩)]] W (FindPost x.rc.length (hitAt (toB1 u d) x.rc) (fun _ W => St w W [Res.cells (w.heap.size + 1) [.string u, .string d], Res.cells w.heap.size [.int .i64 s.last, .slice (some ⟨b, off, none⟩) s.items.length cap]]) (fun _ W => St w W [Res.cells (w.heap.size + 1) [.string u, .string d], Res.cells w.heap.size [.int .i64 s.last, .slice (some ⟨b, off, none⟩) s.items.length cap]]))) := ⟨fun W hW =>
    findRcpt_any 203 ⟨w.heap.size + 1, 0, none⟩ p.a1 p.c1 x.rc (hitAt (toB1 u d) x.rc) _ _ W (enters_of Tryz.func203 (by kernel_rfl) rfl) z3 hW (fun k W W' h hb => h.later hb) w IA.out.rc (fun k W h => h.below)
      (fun k y W hy h => by
        refine (findOne_any (w.heap.size + 1) u d y W (h.head.c 0 _ rfl) (h.head.c 1 _ rfl)).mono ?_
        rintro e w1 ⟨rfl, hb1⟩
        rw [hitAt_of hy]
        exact ⟨rfl, fun _ => h.later hb1, fun _ => h.later hb1⟩)⟩
  clear hat hx
  go_enter Tryz.func154, Tryz.ntmps154
  go_wp2_with fail
  refine C1.out.mono ?_
  rintro e w1 ⟨rfl, hb1⟩
  have S1 : Seal _ := ⟨S0.out.later hb1⟩
  have d0 := heldc c0 S1.out.below
  have d1 := heldc c1 S1.out.below
  have d2 := heldc c2 S1.out.below
  have d3 := heldc c3 S1.out.below
  have d4 := heldc c4 S1.out.below
  have g1 := S1.out.tail.head.c 1 _ rfl
  clear hb1 S0 C1 c0 c1 c2 c3 c4
  go_wp2_with fail
  refine (recipients_any x p _).mono ?_
  rintro e w2 ⟨rfl, hb1⟩
  have S2 : Seal _ := ⟨S1.out.later hb1⟩
  clear hb1 S1 d0 d1 d2 d3 d4 g1
  go_wp2_with fail
  refine (CF.out _ S2.out).mono ?_
  rintro e w3 ⟨r, rfl, h⟩
  rcases h with ⟨k, hk, rfl, hq, hn, hs⟩ | ⟨rfl, hn, hs⟩
  · have hm : Seal (findK s i u d = ((a : Int), (k : Int), true)) := ⟨findK_at HAT.out HX.out (findR_hitAt hk hq hn)⟩
    have B1 : Seal _ := ⟨hs.below⟩
    clear hs hq hn CF S2
    go_wp2
    refine bodyPost_ret (v := .tuple #[.int .i64 a, .int .i64 k, .bool true]) (by simp [results, Tryz.results154, go_sem]) rfl ⟨by rw [hm.out], B1.out⟩
  · have hm : Seal (findK s i u d = (0, 0, false)) := ⟨findK_norc HAT.out HX.out (findR_noAt hn)⟩
    have B1 : Seal _ := ⟨hs.below⟩
    clear hs hn CF S2
    go_wp2
    refine bodyPost_ret (v := .tuple #[.int .i64 0, .int .i64 0, .bool false]) (by simp [results, Tryz.results154, go_sem]) rfl ⟨by rw [hm.out], B1.out⟩

theorem rcptLater_any (r : RcptD) (now : Int) (w : World) (h0 : 0 ≤ r.tries) (h1 : r.tries ≤ 3) (n0 : 0 ≤ now) (n1 : now ≤ 9999) :
    Calls Tryz.prog 156 #[.agg (rcptV r), .int .i64 now] w fun e w' => e = .returned (.agg (rcptV (lateR r now))) ∧ Below w.heap.size w w' := by
  obtain ⟨P, hP⟩ : ∃ P, pauseZ (r.tries + 1) = P := ⟨_, rfl⟩
  have HP : Seal _ := ⟨hP⟩
  obtain ⟨hP1, hP2⟩ : 2 ≤ P ∧ P ≤ 16 := hP ▸ pause_in (by omega) (by omega)
  have CP : Seal (∀ W, Calls Tryz.prog 206 #[.int .i64 (r.tries + 1)] W fun e w' => e = .returned (.int .i64 P) ∧ W = w') := ⟨fun W => HP.out ▸ implSpoolPause_any (r.tries + 1) W⟩
  have hw1 : IntKind.i64.wrap (r.tries + 1) = r.tries + 1 := IntWalk.i64_in _ (by omega)
  have hw2 : IntKind.i64.wrap (now + P) = now + P := IntWalk.i64_in _ (by omega)
  have hm : Seal (lateR r now = ⟨r.u, r.d, r.tries + 1, now + P⟩) := ⟨by unfold lateR nextR; rw [HP.out]⟩
  have B : Seal (∀ c d : Array Value, Below w.heap.size w ((w.alloc (.cells c 105)).alloc (.cells d 105))) := ⟨fun c d => ((Below.refl _ _).alloc (Nat.le_refl _) _).alloc (by rw [World.size_alloc]; omega) _⟩
  clear hP
  go_enter Tryz.func156, Tryz.ntmps156
  go_wp2_with fail
  refine (CP.out _).mono ?_
  rintro e w2 ⟨rfl, rfl⟩
  go_wp2
  have s4 := ((St.start w).alloc #[.string r.u, .string r.d, .int .i64 (r.tries + 1), .int .i64 (now + P)] 105).alloc #[.string r.u, .string r.d, .int .i64 (r.tries + 1), .int .i64 (now + P)] 105
  simp only [World.size_alloc] at s4
  have r0 := s4.head.c 0 _ rfl
  have r1 := s4.head.c 1 _ rfl
  have r2 := s4.head.c 2 _ rfl
  have r3 := s4.head.c 3 _ rfl
  refine bodyPost_ret (v := .agg #[.string r.u, .string r.d, .int .i64 (r.tries + 1), .int .i64 (now + P)]) (by simp [results, Tryz.results156, go_sem, r0, r1, r2, r3]) rfl ⟨by rw [hm.out], B.out _ _⟩
theorem Pt.open {w0 W : World} {bo : Option Addr} {c : Nat} {xs : List ItemD} {qs : List ItemV} {Ls : List (List Res)} (h : Pt w0 W (itemsR bo c xs qs :: Ls)) (hl : qs.length = xs.length) {a : Nat} {x : ItemD} {q : ItemV} (hx : xs[a]? = some x) (hq : qs[a]? = some q) :
    Pt w0 W ([Res.row 43 5 (.slice bo xs.length c) xs.length (itemE.all xs qs)] :: itemE.ress (xs.take a) (qs.take a) :: [rcptsR q.a1 q.c1 x.rc] :: [strsR q.a2 q.c2 x.body] :: itemE.ress (xs.drop (a + 1)) (qs.drop (a + 1)) :: Ls) := by
  have e := (ress_set hl hx hq x q).1
  have e2 : itemsR bo c xs qs = Res.row 43 5 (.slice bo xs.length c) xs.length (itemE.all xs qs) :: (itemE.ress (xs.take a) (qs.take a) ++ ([rcptsR q.a1 q.c1 x.rc, strsR q.a2 q.c2 x.body] ++ itemE.ress (xs.drop (a + 1)) (qs.drop (a + 1)))) := by
    unfold itemsR Elem.row
    rw [e]
    rfl
  rw [e2] at h
  unfold Pt at h ⊢
  simpa only [List.flatten_cons, List.append_assoc, List.cons_append, List.nil_append] using h
end Go.Proofs.YtcaknjdolfheaaaGreatDoor
