/- Contracts: the first element of a queue that is wanted. -/
import Derived.Test.YtgjkoegpdfcadaaDoorSpoolOne
namespace Go.Proofs.YtgjkoegpdfcadaaDoor
open Go Go.RowKit

/-- The first place that is wanted, or -1: what the world is like then. -/
def FindPost (n : Nat) (q : Nat → Bool) (I : Nat → World → Prop) (J : Nat → World → Prop) (e : Ending) (w : World) : Prop :=
  ∃ r : Int, e = .returned (.int .i64 r) ∧ ((∃ k, k < n ∧ r = k ∧ q k = true ∧ (∀ j, j < k → q j = false) ∧ J k w) ∨ (r = -1 ∧ (∀ j, j < n → q j = false) ∧ I n w))
theorem itemAtB {w0 w : World} {ao : Option Addr} {xs : List ItemD} (h : ItemRow w0 ao xs) (hb : Below w0.heap.size w0 w) {k : Nat} {x : ItemD} (hx : xs[k]? = some x) :
    ∃ b off p, ao = some ⟨b, off, none⟩ ∧ w.cell? ⟨b, off + k * 5, none⟩ = some (.int .i64 x.id) ∧ w.cell? ⟨b, off + k * 5 + 1, none⟩ = some (.string x.fu) ∧ w.cell? ⟨b, off + k * 5 + 2, none⟩ = some (.string x.fd) ∧ w.cell? ⟨b, off + k * 5 + 3, none⟩ = some (.slice p.a1 x.rc.length p.c1) ∧ w.cell? ⟨b, off + k * 5 + 4, none⟩ = some (.slice p.a2 x.body.length p.c2) ∧ ItemAt w0 x p := by
  obtain ⟨b, off, p, e, c0, c1, c2, c3, c4, ia⟩ := itemAt h hx
  exact ⟨b, off, p, e, heldc c0 hb, heldc c1 hb, heldc c2 hb, heldc c3 hb, heldc c4 hb, ia⟩
theorem none_succ {q : Nat → Bool} {k : Nat} (h : ∀ j, j < k → q j = false) (hk : q k = false) : ∀ j, j < k + 1 → q j = false := fun j hj => by
  rcases Nat.lt_or_eq_of_le (Nat.le_of_lt_succ hj) with h1 | h1
  · exact h j h1
  · rw [h1]; exact hk

set_option maxHeartbeats 1600000 in
set_option maxRecDepth 100000 in
theorem findRcpt_any (f : Nat) (a : Addr) (ao : Option Addr) (cap : Nat) (xs : List RcptD) (q : Nat → Bool) (I : Nat → World → Prop) (J : Nat → World → Prop) (w : World) (hf : ∀ args w, (callFunc f args).run Tryd.prog w = .ok (.enter f args) w) (hl : xs.length ≤ 1048576)
    (hI : I 0 w) (hmore : ∀ k W W', I k W → Below W.heap.size W W' → I k W') (w0 : World) (hrow : RcptRow w0 ao xs) (hbel : ∀ k W, I k W → Below w0.heap.size w0 W)
    (hcall : ∀ k x W, xs[k]? = some x → I k W → Calls Tryd.prog f #[.agg (rcptV x), .pointer (some a)] W fun e W' => e = .returned (.bool (q k)) ∧ (q k = true → J k W') ∧ (q k = false → I (k + 1) W')) :
    Calls Tryd.prog 180 #[.slice ao xs.length cap, .func (.func f) #[] #[.pointer (some a)]] w (FindPost xs.length q I J) := by
  have HC : Seal _ := ⟨hcall⟩
  have HI : Seal _ := ⟨hI⟩
  clear hcall hI
  go_enter Tryd.func180, Tryd.ntmps180
  go_wp2
  go_loopw [9] (fun i wr => ∃ k : Nat, k ≤ xs.length ∧ i = .int .i64 k ∧ Seal (∀ j, j < k → q j = false) ∧ Seal (I k wr)) (fun i _ => xs.length - (intOf i).toNat)
  case atStart => exact ⟨0, Nat.zero_le _, rfl, ⟨fun j hj => by omega⟩, HI⟩
  case round =>
    obtain ⟨k, hk, rfl, HN, S⟩ := hrel
    clear HI
    by_cases hlt : k < xs.length
    · obtain ⟨x, hx⟩ : ∃ x, xs[k]? = some x := ⟨_, List.getElem?_eq_getElem hlt⟩
      obtain ⟨b, off, rfl, c0, c1, c2, c3⟩ := rcptAt (hrow.below rcptP_stays (hbel k wr S.out) (Nat.le_refl _)) hx
      have HX : Seal _ := ⟨hx⟩

      clear hx
      have C : Seal _ := ⟨(HC.out k x _ HX.out (hmore k _ _ S.out (Below.alloc (Below.refl _ _) (Nat.le_refl _) (.cells (rcptV x) 66))))⟩
      obtain ⟨v, hv⟩ : ∃ v, q k = v := ⟨_, rfl⟩
      have HV : Seal _ := ⟨hv⟩
      rw [hv] at C
      clear hv hmore hrow hbel
      go_wp2_with fail
      refine C.out.mono ?_
      rintro e w1 ⟨rfl, h1, h2⟩
      cases v
      · have S1 : Seal _ := ⟨h2 rfl⟩
        have HN2 : Seal _ := ⟨none_succ HN.out HV.out⟩
        clear h1 h2 C
        go_wp2
        go_roundw
        case rel => exact ⟨k + 1, by omega, by go_num, HN2, S1⟩
        case measure => simp [intOf]; omega
      · have S1 : Seal _ := ⟨h1 rfl⟩
        clear h1 h2 C
        go_wp2
        go_ret
        exact ⟨_, rfl, .inl ⟨k, hlt, rfl, HV.out, HN.out, S1.out⟩⟩
    · obtain rfl : k = xs.length := by omega
      go_wp2
      go_ret
      exact ⟨_, rfl, .inr ⟨rfl, HN.out, S.out⟩⟩

set_option maxHeartbeats 1600000 in
set_option maxRecDepth 100000 in
theorem findItem_any (f : Nat) (a : Addr) (ao : Option Addr) (cap : Nat) (xs : List ItemD) (q : Nat → Bool) (I : Nat → World → Prop) (J : Nat → World → Prop) (w : World) (hf : ∀ args w, (callFunc f args).run Tryd.prog w = .ok (.enter f args) w) (hl : xs.length ≤ 1048576)
    (hI : I 0 w) (hmore : ∀ k W W', I k W → Below W.heap.size W W' → I k W') (w0 : World) (hrow : ItemRow w0 ao xs) (hbel : ∀ k W, I k W → Below w0.heap.size w0 W)
    (hcall : ∀ k x p W, xs[k]? = some x → ItemAt w0 x p → I k W → Calls Tryd.prog f #[.agg (itemV x p), .pointer (some a)] W fun e W' => e = .returned (.bool (q k)) ∧ (q k = true → J k W') ∧ (q k = false → I (k + 1) W')) :
    Calls Tryd.prog 185 #[.slice ao xs.length cap, .func (.func f) #[] #[.pointer (some a)]] w (FindPost xs.length q I J) := by
  have HC : Seal _ := ⟨hcall⟩
  have HI : Seal _ := ⟨hI⟩
  clear hcall hI
  go_enter Tryd.func185, Tryd.ntmps185
  go_wp2
  go_loopw [9] (fun i wr => ∃ k : Nat, k ≤ xs.length ∧ i = .int .i64 k ∧ Seal (∀ j, j < k → q j = false) ∧ Seal (I k wr)) (fun i _ => xs.length - (intOf i).toNat)
  case atStart => exact ⟨0, Nat.zero_le _, rfl, ⟨fun j hj => by omega⟩, HI⟩
  case round =>
    obtain ⟨k, hk, rfl, HN, S⟩ := hrel
    clear HI
    by_cases hlt : k < xs.length
    · obtain ⟨x, hx⟩ : ∃ x, xs[k]? = some x := ⟨_, List.getElem?_eq_getElem hlt⟩
      obtain ⟨b, off, p, rfl, c0, c1, c2, c3, c4, ia⟩ := itemAtB hrow (hbel k wr S.out) hx
      have HX : Seal _ := ⟨hx⟩
      have IA : Seal _ := ⟨ia⟩
      clear hx ia
      have C : Seal _ := ⟨(HC.out k x p _ HX.out IA.out (hmore k _ _ S.out (Below.alloc (Below.refl _ _) (Nat.le_refl _) (.cells (itemV x p) 64))))⟩
      obtain ⟨v, hv⟩ : ∃ v, q k = v := ⟨_, rfl⟩
      have HV : Seal _ := ⟨hv⟩
      rw [hv] at C
      clear hv hmore hrow hbel
      go_wp2_with fail
      refine C.out.mono ?_
      rintro e w1 ⟨rfl, h1, h2⟩
      cases v
      · have S1 : Seal _ := ⟨h2 rfl⟩
        have HN2 : Seal _ := ⟨none_succ HN.out HV.out⟩
        clear h1 h2 C
        go_wp2
        go_roundw
        case rel => exact ⟨k + 1, by omega, by go_num, HN2, S1⟩
        case measure => simp [intOf]; omega
      · have S1 : Seal _ := ⟨h1 rfl⟩
        clear h1 h2 C
        go_wp2
        go_ret
        exact ⟨_, rfl, .inl ⟨k, hlt, rfl, HV.out, HN.out, S1.out⟩⟩
    · obtain rfl : k = xs.length := by omega
      go_wp2
      go_ret
      exact ⟨_, rfl, .inr ⟨rfl, HN.out, S.out⟩⟩
end Go.Proofs.YtgjkoegpdfcadaaDoor
