/- Contracts: the first rule of a queue that is wanted; whether rules are ok, of the program. -/
import Derived.Test.YtgniokkiejoccaaGreatDoorRuleOkI
import Derived.Laws.EntriesVeiled
namespace Go.Proofs.YtgniokkiejoccaaGreatDoor
open Go Go.RowKit

/-- The first place that is wanted, or -1: what the world is like then. -/
def FindPost (n : Nat) (q : Nat → Bool) (I : Nat → World → Prop) (J : Nat → World → Prop) (e : Ending) (w : World) : Prop :=
  ∃ r : Int, e = .returned (.int .i64 r) ∧ ((∃ k, k < n ∧ r = k ∧ q k = true ∧ (∀ j, j < k → q j = false) ∧ J k w) ∨ (r = -1 ∧ (∀ j, j < n → q j = false) ∧ I n w))
theorem none_succ {q : Nat → Bool} {k : Nat} (h : ∀ j, j < k → q j = false) (hk : q k = false) : ∀ j, j < k + 1 → q j = false := fun j hj => by
  rcases Nat.lt_or_eq_of_le (Nat.le_of_lt_succ hj) with h1 | h1
  · exact h j h1
  · rw [h1]; exact hk

set_option maxHeartbeats 1600000 in
set_option maxRecDepth 100000 in
theorem findRule_any (f : Nat) (a : Addr) (ao : Option Addr) (cap : Nat) (xs : List RuleD) (q : Nat → Bool) (I : Nat → World → Prop) (J : Nat → World → Prop) (w : World) (hf : ∀ args w, (callFunc f args).run Tryz.prog w = .ok (.enter f args) w) (hl : xs.length ≤ 1048576)
    (hI : I 0 w) (hmore : ∀ k W W', I k W → Below W.heap.size W W' → I k W') (w0 : World) (hrow : RuleRow w0 ao xs) (hbel : ∀ k W, I k W → Below w0.heap.size w0 W)
    (hcall : ∀ k x W, xs[k]? = some x → I k W → Calls Tryz.prog f #[.agg (ruleV x), .pointer (some a)] W fun e W' => e = .returned (.bool (q k)) ∧ (q k = true → J k W') ∧ (q k = false → I (k + 1) W')) :
    Calls Tryz.prog 52 #[.slice ao xs.length cap, .func (.func f) #[] #[.pointer (some a)]] w (FindPost xs.length q I J) := by
  have HC : Seal _ := ⟨hcall⟩
  have HI : Seal _ := ⟨hI⟩
  clear hcall hI
  go_enter Tryz.func52, Tryz.ntmps52
  go_wp2
  go_loopw [9] (fun i wr => ∃ k : Nat, k ≤ xs.length ∧ i = .int .i64 k ∧ Seal (∀ j, j < k → q j = false) ∧ Seal (I k wr)) (fun i _ => xs.length - (intOf i).toNat)
  case atStart => exact ⟨0, Nat.zero_le _, rfl, ⟨fun j hj => by omega⟩, HI⟩
  case round =>
    obtain ⟨k, hk, rfl, HN, S⟩ := hrel
    clear HI
    by_cases hlt : k < xs.length
    · obtain ⟨x, hx⟩ : ∃ x, xs[k]? = some x := ⟨_, List.getElem?_eq_getElem hlt⟩
      obtain ⟨b, off, rfl, c0, c1, c2, c3, c4⟩ := ruleAt (hrow.below ruleP_stays (hbel k wr S.out) (Nat.le_refl _)) hx
      have HX : Seal _ := ⟨hx⟩

      clear hx
      have C : Seal _ := ⟨(HC.out k x _ HX.out (hmore k _ _ S.out (Below.alloc (Below.refl _ _) (Nat.le_refl _) (.cells (ruleV x) 56))))⟩
      obtain ⟨v, hv⟩ : ∃ v, q k = v := ⟨_, rfl⟩
      have HV : Seal _ := ⟨hv⟩
      rw [hv] at C
      clear hv hmore hrow hbel
      go_wp2_with fail
      refine C.out.mono ?_
      rintro e w1 ⟨rfl, h1, h2⟩
      cases v
      · have S1 : Seal _ := ⟨h2 rfl⟩
        have HN2 : Seal _ := ⟨none_succ HN.out HV.out⟩
        clear h1 h2 C
        go_wp2
        go_roundw
        case rel => exact ⟨k + 1, by omega, by go_num, HN2, S1⟩
        case measure => simp [intOf]; omega
      · have S1 : Seal _ := ⟨h1 rfl⟩
        clear h1 h2 C
        go_wp2
        go_ret
        exact ⟨_, rfl, .inl ⟨k, hlt, rfl, HV.out, HN.out, S1.out⟩⟩
    · obtain rfl : k = xs.length := by omega
      go_wp2
      go_ret
      exact ⟨_, rfl, .inr ⟨rfl, HN.out, S.out⟩⟩

set_option maxRecDepth 100000 in
theorem everyOneRule_any (a : Addr) (x : RuleD) (w : World) (hm : HasMax w) (hz : ruleN x ≤ 1048576) (hc : w.cell? a = some (.func (.func 48) #[] #[])) :
    Calls Tryz.prog 60 #[.agg (ruleV x), .pointer (some a)] w fun e w' => e = .returned (.bool (!ruleB x)) ∧ Below w.heap.size w w' := by
  have b0 : Seal (Below w.heap.size w (w.alloc (.cells (ruleV x) 56))) := ⟨(Below.refl _ _).alloc (Nat.le_refl _) _⟩
  have c1 := heldc hc b0.out
  have HM : Seal _ := ⟨hm.below b0.out (Nat.le_refl _)⟩
  obtain ⟨v, hv⟩ : ∃ v, ruleB x = v := ⟨_, rfl⟩
  have HV : Seal _ := ⟨hv⟩
  rw [hv]
  clear hc hv hm
  go_enter Tryz.func60, Tryz.ntmps60
  go_wp2_with fail
  refine (ruleValid_any x _ HM.out hz).mono ?_
  rintro e w1 ⟨rfl, hb1⟩
  rw [HV.out]
  have B1 : Seal _ := ⟨b0.out.trans (hb1.mono b0.out.size)⟩
  clear hb1
  go_wp2
  go_ret
  exact ⟨rfl, B1.out⟩

/-- Which place does not meet what is asked. -/
def badAt {α : Type} (f : α → Bool) (xs : List α) (k : Nat) : Bool := match xs[k]? with
  | some x => !f x
  | none => false
theorem badAt_of {α : Type} {f : α → Bool} {xs : List α} {k : Nat} {x : α} (h : xs[k]? = some x) : badAt f xs k = !f x := by unfold badAt; rw [h]
theorem all_of_none {α : Type} {f : α → Bool} {xs : List α} (h : ∀ j, j < xs.length → badAt f xs j = false) : xs.all f = true := by
  rw [List.all_eq_true]
  intro x hx
  obtain ⟨k, hk⟩ := List.getElem?_of_mem hx
  have := h k (List.getElem?_eq_some_iff.1 hk).1
  rw [badAt_of hk] at this
  simpa using this
theorem not_all_of {α : Type} {f : α → Bool} {xs : List α} {k : Nat} (hk : k < xs.length) (h : badAt f xs k = true) : xs.all f = false := by
  obtain ⟨x, hx⟩ : ∃ x, xs[k]? = some x := ⟨_, List.getElem?_eq_getElem hk⟩
  rw [badAt_of hx] at h
  exact list_all_miss hx (by simpa using h)

set_option maxHeartbeats 1600000 in
set_option maxRecDepth 100000 in
theorem everyRule_any (ao : Option Addr) (cap : Nat) (xs : List RuleD) (w : World) (hm : HasMax w) (hr : RuleRow w ao xs) (hl : xs.length ≤ 1048576) (hz : ∀ x ∈ xs, ruleN x ≤ 1048576) :
    Calls Tryz.prog 47 #[.slice ao xs.length cap, .func (.func 48) #[] #[]] w fun e w' => e = .returned (.bool (xs.all ruleB)) ∧ Below w.heap.size w w' := by
  have S0 : Seal (St w (w.alloc (.cells #[.func (.func 48) #[] #[]] 75)) [Res.cells w.heap.size [.func (.func 48) #[] #[]]]) := ⟨(St.start w).alloc #[.func (.func 48) #[] #[]] 75⟩
  have HR : Seal _ := ⟨hr⟩
  have C : Seal _ := ⟨findRule_any 60 ⟨w.heap.size, 0, none⟩ ao cap xs (badAt ruleB xs) (fun _ W => St w W [Res.cells w.heap.size [.func (.func 48) #[] #[]]]) (fun _ W => St w W [Res.cells w.heap.size [.func (.func 48) #[] #[]]]) _
    (enters_of Tryz.func60 (by kernel_rfl) rfl) hl S0.out (fun k W W' h hb => h.later hb) w hr (fun k W h => h.below)
    (fun k x W hx h => by
      refine (everyOneRule_any ⟨w.heap.size, 0, none⟩ x W (hm.below h.below (Nat.le_refl _)) (hz x (List.mem_of_getElem? hx)) (h.head.c 0 _ rfl)).mono ?_
      rintro e w1 ⟨rfl, hb1⟩
      rw [badAt_of hx]
      exact ⟨rfl, fun _ => h.later hb1, fun _ => h.later hb1⟩)⟩
  clear hr
  go_enter Tryz.func47, Tryz.ntmps47
  go_wp2_with fail
  refine C.out.mono ?_
  rintro e w1 ⟨r, rfl, h⟩
  rcases h with ⟨k, hk, rfl, hq, _, hs⟩ | ⟨rfl, hn, hs⟩
  · have hm : Seal (xs.all ruleB = false) := ⟨not_all_of hk hq⟩
    have B1 : Seal _ := ⟨hs.below⟩
    clear hs hq C
    go_wp2
    go_ret
    exact ⟨ret_b hm.out.symm, B1.out⟩
  · have hm : Seal (xs.all ruleB = true) := ⟨all_of_none hn⟩
    have B1 : Seal _ := ⟨hs.below⟩
    clear hs hn C
    go_wp2
    go_ret
    exact ⟨ret_b hm.out.symm, B1.out⟩

set_option maxHeartbeats 800000 in
set_option maxRecDepth 100000 in
theorem implSieveOk_any (ao : Option Addr) (cap : Nat) (xs : List RuleD) (w : World) (hm : HasMax w) (hr : RuleRow w ao xs) (hl : xs.length ≤ 1048576) (hz : ∀ x ∈ xs, ruleN x ≤ 1048576) :
    Calls Tryz.prog 27 #[.slice ao xs.length cap] w fun e w' => e = .returned (.bool (rulesB xs)) ∧ Below w.heap.size w w' := by
  have C : Seal _ := ⟨everyRule_any ao cap xs w hm hr hl hz⟩
  obtain ⟨v, hv⟩ : ∃ v, xs.all ruleB = v := ⟨_, rfl⟩
  rw [hv] at C
  have HV : Seal _ := ⟨hv⟩
  clear hv hm hr hz
  by_cases h5 : xs.length ≤ 5
  · have hq : Seal (rulesB xs = v) := ⟨by unfold rulesB; rw [decide_eq_true h5, HV.out]; rfl⟩
    go_enter Tryz.func27, Tryz.ntmps27
    go_wp2_with fail
    refine C.out.mono ?_
    rintro e w1 ⟨rfl, hb1⟩
    have B1 : Seal _ := ⟨hb1⟩
    clear hb1 C
    go_wp2
    go_ret
    exact ⟨ret_b hq.out.symm, B1.out⟩
  · have hq : Seal (rulesB xs = false) := ⟨by unfold rulesB; rw [decide_eq_false h5]; rfl⟩
    clear C
    go_enter Tryz.func27, Tryz.ntmps27
    go_wp2
    go_ret
    exact ⟨ret_b hq.out.symm, Below.refl _ _⟩
end Go.Proofs.YtgniokkiejoccaaGreatDoor
