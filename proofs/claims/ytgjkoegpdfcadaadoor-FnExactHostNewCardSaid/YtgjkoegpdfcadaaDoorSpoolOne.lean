/- Contracts: what the program asks of one item of a spool. -/
import Derived.Test.YtgjkoegpdfcadaaDoorSpoolD
import Derived.Deep.RegionWith
import Derived.Laws.EntriesVeiled
namespace Go.Proofs.YtgjkoegpdfcadaaDoor
open Go Go.RowKit

theorem row_value {w : World} {B : Nat} {e : TypeId} {size : Nat} {v : Value} {n : Nat} {xs : List Value} (h : w.ownsRow B e size v n xs) : ∃ ao cap, v = .slice ao n cap ∧ n ≤ cap := by
  rcases h.2 with ⟨hv, hn⟩ | ⟨g, cap, cur, hv, _, _, hc, _⟩
  · subst hn
    exact ⟨none, 0, hv, Nat.le_refl _⟩
  · exact ⟨_, cap, hv, hc⟩

theorem isTime_any (n : Int) (w : World) :
    Calls Tryd.prog 100 #[.int .i64 n] w fun e w' => e = .returned (.bool (inB n 0 9999)) ∧ w = w' := by
  rcases (show n < 0 ∨ (0 ≤ n ∧ n ≤ 9999) ∨ (0 ≤ n ∧ 9999 < n) by omega) with h | ⟨h, h'⟩ | ⟨h, h'⟩
  · have hm : Seal (inB n 0 9999 = false) := ⟨inB_false (by omega)⟩
    go_enter Tryd.func100, Tryd.ntmps100
    go_wp2
    go_ret
    exact ⟨ret_b hm.out.symm, rfl⟩
  · have hm : Seal (inB n 0 9999 = true) := ⟨inB_true (by omega)⟩
    go_enter Tryd.func100, Tryd.ntmps100
    go_wp2
    go_ret
    exact ⟨ret_b (by first | exact hm.out.symm | (rw [hm.out]; exact decide_eq_true (by omega))), rfl⟩
  · have hm : Seal (inB n 0 9999 = false) := ⟨inB_false (by omega)⟩
    go_enter Tryd.func100, Tryd.ntmps100
    go_wp2
    go_ret
    exact ⟨ret_b (by first | exact hm.out.symm | (rw [hm.out]; exact decide_eq_false (by omega))), rfl⟩

set_option maxRecDepth 100000 in
theorem rcptValid_any (x : RcptD) (w : World) :
    Calls Tryd.prog 102 #[.agg (rcptV x)] w fun e w' => e = .returned (.bool (tryB x)) ∧ Below w.heap.size w w' := by
  have S0 : Seal _ := ⟨(St.start w).alloc (rcptV x) 66⟩
  by_cases h : 0 ≤ x.tries ∧ x.tries ≤ 3
  · obtain ⟨h1, h2⟩ := h
    have hm : Seal (tryB x = inB x.next 0 9999) := ⟨by unfold tryB; rw [decide_eq_true ⟨h1, h2⟩]; rfl⟩
    go_enter Tryd.func102, Tryd.ntmps102
    go_wp2_with fail
    refine (isTime_any _ _).mono ?_
    rintro e w1 ⟨rfl, rfl⟩
    rw [← hm.out]
    go_wp2
    go_ret
    exact ⟨rfl, S0.out.below⟩
  · have hm : Seal (tryB x = false) := ⟨by unfold tryB; rw [decide_eq_false h]; rfl⟩
    by_cases h1 : 0 ≤ x.tries
    · have h2 : 3 < x.tries := by omega
      clear h
      go_enter Tryd.func102, Tryd.ntmps102
      go_wp2
      go_ret
      exact ⟨ret_b hm.out.symm, S0.out.below⟩
    · clear h
      go_enter Tryd.func102, Tryd.ntmps102
      go_wp2
      go_ret
      exact ⟨ret_b hm.out.symm, S0.out.below⟩

theorem recipients_any (x : ItemD) (p : ItemV) (w : World) :
    Calls Tryd.prog 179 #[.agg (itemV x p)] w fun e w' => e = .returned (.slice p.a1 x.rc.length p.c1) ∧ Below w.heap.size w w' := by
  have S0 : Seal _ := ⟨(St.start w).alloc (itemV x p) 64⟩
  go_enter Tryd.func179, Tryd.ntmps179
  go_wp2
  go_ret
  exact ⟨rfl, S0.out.below⟩

set_option maxRecDepth 100000 in
theorem mailOne_any (x : RcptD) (w : World) :
    Calls Tryd.prog 240 #[.agg (rcptV x)] w fun e w' => e = .returned (.agg #[.string x.u, .string x.d]) ∧ Below w.heap.size w w' := by
  go_enter Tryd.func240, Tryd.ntmps240
  go_wp2
  exact bodyPost_ret (v := .agg #[.string x.u, .string x.d]) (by simp [results, Tryd.results240, go_sem]) rfl ⟨rfl, ((Below.refl _ _).alloc (Nat.le_refl _) _).alloc (by simp) _⟩

/-- The addresses of the first k, as cells. -/
def firstPairs (xs : List RcptD) (k : Nat) : List Value := pairCells ((xs.take k).map rcptPair)
theorem rcptPairs_snoc {xs : List RcptD} {k : Nat} {x : RcptD} (hx : xs[k]? = some x) : firstPairs xs (k + 1) = firstPairs xs k ++ [.string x.u, .string x.d] := by
  unfold firstPairs
  obtain ⟨hk, e⟩ := List.getElem?_eq_some_iff.1 hx
  rw [List.take_succ_eq_append_getElem hk, e, List.map_append]
  unfold pairCells
  rw [List.flatMap_append]
  rfl

set_option maxHeartbeats 1600000 in
set_option maxRecDepth 100000 in
theorem eachMail_any (ao : Option Addr) (cap : Nat) (xs : List RcptD) (w : World) (hr : RcptRow w ao xs) (hl : xs.length ≤ 1048576) :
    Calls Tryd.prog 239 #[.slice ao xs.length cap, .func (.func 240) #[] #[]] w fun e w' => ∃ bo c, xs.length ≤ c ∧ e = .returned (.slice bo xs.length c) ∧ St w w' [Res.row 37 2 (.slice bo xs.length c) xs.length (pairCells (xs.map rcptPair))] := by
  obtain ⟨i0, hi, hz0, hz1, hz2⟩ := info_parts infoAddr
  have HR : Seal _ := ⟨hr⟩
  clear hr
  go_enter Tryd.func239, Tryd.ntmps239
  go_wp2
  go_loopw [5, 10] (fun v i wr => ∃ k : Nat, k ≤ xs.length ∧ i = .int .i64 k ∧ Seal (St w wr [Res.row 37 2 v k (firstPairs xs k)])) (fun _ i _ => xs.length - (intOf i).toNat)
  case atStart => exact ⟨0, Nat.zero_le _, rfl, ⟨(St.start w).nothing _ _⟩⟩
  case round =>
    obtain ⟨k, hk, rfl, S⟩ := hrel
    by_cases hlt : k < xs.length
    · obtain ⟨x, hx⟩ : ∃ x, xs[k]? = some x := ⟨_, List.getElem?_eq_getElem hlt⟩
      obtain ⟨b, off, rfl, c0, c1, c2, c3⟩ := rcptAt (HR.out.below rcptP_stays S.out.below (Nat.le_refl _)) hx
      have HX : Seal _ := ⟨rcptPairs_snoc hx⟩
      have S1 : Seal _ := ⟨S.out.more (.cells (rcptV x) 66)⟩
      clear hx S
      go_wp2_with fail
      refine (mailOne_any x _).mono ?_
      rintro e w1 ⟨rfl, hb1⟩
      have S2 : Seal _ := ⟨(S1.out.later hb1).more (.cells #[.string x.u, .string x.d] 37)⟩
      have OW : Seal _ := ⟨S2.out.head⟩
      clear hb1 S1 c0 c1 c2 c3
      go_wp2_with (at_builtin; refine wpList_append_own_at _ rfl _ _ 39 rfl 0 37 i0 (.agg #[.string ByteArray.empty, .string ByteArray.empty]) 2 32 Tryd.underlying39 hi hz0 hz1 hz2 rfl (by decide) _ _ _ rfl OW.out ⟨w1.heap.size, 0, none⟩ 1 1 [.string x.u, .string x.d] rfl rfl ?c1 ?c2 ?c3 ?c4 ?c5 ?_)
      case c1 =>
        intro j u hj
        match j, hj with
        | 0, hj => simp at hj; subst hj; simp [Addr.add]
        | 1, hj => simp at hj; subst hj; simp [Addr.add]
      case c2 => intro u hu; simp at hu; rcases hu with rfl | rfl <;> rfl
      case c3 => unfold maxLen; omega
      case c4 => omega
      case c5 => exact Nat.zero_le _
      · intro v' w2 hown hg _ hat
        have S3 : Seal _ := ⟨S2.out.app hown hg (by rw [World.size_alloc]; exact hat)⟩
        rw [← HX.out] at S3
        clear hown hg hat OW S2 HX
        go_wp2
        go_roundw
        case rel => exact ⟨k + 1, by omega, by go_num, S3⟩
        case measure => simp [intOf]; omega
    · obtain rfl : k = xs.length := by omega
      have hown := S.out.head
      obtain ⟨bo, c, rfl, hc⟩ := row_value hown
      unfold firstPairs at S
      rw [List.take_length] at S
      clear hown
      go_wp2
      go_ret
      exact ⟨_, _, hc, rfl, S.out⟩
end Go.Proofs.YtgjkoegpdfcadaaDoor
