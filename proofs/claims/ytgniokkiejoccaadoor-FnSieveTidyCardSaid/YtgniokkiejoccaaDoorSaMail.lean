/- Contracts: the laws' comparisons of rows of texts, of addresses, of mails. -/
import Derived.Test.YtgniokkiejoccaaDoorMails
import Derived.Test.YtgniokkiejoccaaDoorBasis
import Derived.Deep.QuietTactic
import Derived.BigQuiet
namespace Go.Proofs.YtgniokkiejoccaaDoor
open Go Go.RowKit

theorem saTextsEq (ao bo : Option Addr) (c1 c2 : Nat) (xs : List ByteArray) (w : World) (ha : StrRow w ao xs) (hb : StrRow w bo xs) (hl : xs.length ≤ 1048576) :
    Calls Tryd.prog 19 #[.slice ao xs.length c1, .slice bo xs.length c2] w fun e w' => e = .returned (.bool true) ∧ Below w.heap.size w w' := by
  have HA := Lib.hid ha
  have HB := Lib.hid hb
  clear ha hb
  go_enter Tryd.func19, Tryd.ntmps19
  go_wp2
  go_loopw [5] (fun i wr => ∃ k n : Nat, k ≤ xs.length ∧ i = .int .i64 k ∧ wr = w.drewN n) (fun i _ => xs.length - (intOf i).toNat)
  case atStart => exact ⟨0, 0, Nat.zero_le _, rfl, rfl⟩
  case round =>
    obtain ⟨k, n, hk, rfl, rfl⟩ := hrel
    by_cases hlt : k < xs.length
    · obtain ⟨x, hx⟩ : ∃ x, xs[k]? = some x := ⟨_, List.getElem?_eq_getElem hlt⟩
      obtain ⟨b, off, rfl, hcell⟩ := HA.out k x hx
      obtain ⟨b', off', rfl, hcell'⟩ := HB.out k x hx
      clear hx
      go_wp2
      go_quiet (fail)
      go_wp2
      exact ⟨⟨k + 1, n + nq, by omega, by go_num, rfl⟩, by simp [intOf]; omega⟩
    · go_wp2
      go_ret
      exact ⟨rfl, below_drewN _ w n⟩

theorem saAddrsEq (ao bo : Option Addr) (c1 c2 : Nat) (ps : List Pair) (w : World) (ha : PairRow w ao ps) (hb : PairRow w bo ps) (hl : ps.length ≤ 1048576) :
    Calls Tryd.prog 20 #[.slice ao ps.length c1, .slice bo ps.length c2] w fun e w' => e = .returned (.bool true) ∧ Below w.heap.size w w' := by
  have HA := Lib.hid ha
  have HB := Lib.hid hb
  clear ha hb
  go_enter Tryd.func20, Tryd.ntmps20
  go_wp2
  go_loopw [5] (fun i wr => ∃ k n : Nat, k ≤ ps.length ∧ i = .int .i64 k ∧ wr = w.drewN n) (fun i _ => ps.length - (intOf i).toNat)
  case atStart => exact ⟨0, 0, Nat.zero_le _, rfl, rfl⟩
  case round =>
    obtain ⟨k, n, hk, rfl, rfl⟩ := hrel
    by_cases hlt : k < ps.length
    · obtain ⟨p, hp⟩ : ∃ p, ps[k]? = some p := ⟨_, List.getElem?_eq_getElem hlt⟩
      obtain ⟨b, off, rfl, hc1, hc2⟩ := HA.out k p hp
      obtain ⟨b', off', rfl, hc1', hc2'⟩ := HB.out k p hp
      clear hp
      go_wp2
      go_quiet (fail)
      go_wp2
      exact ⟨⟨k + 1, n + nq, by omega, by go_num, rfl⟩, by simp [intOf]; omega⟩
    · go_wp2
      go_ret
      exact ⟨rfl, below_drewN _ w n⟩

theorem saMailEq (m : MailD) (a1 : Option Addr) (c1 : Nat) (a2 : Option Addr) (c2 : Nat) (b1 : Option Addr) (d1 : Nat) (b2 : Option Addr) (d2 : Nat) (w : World) (ha : MailAt w m a1 a2) (hb : MailAt w m b1 b2) (h1 : m.rc.length ≤ 1048576) (h2 : m.body.length ≤ 1048576) :
    Calls Tryd.prog 18 #[.agg (mailV m a1 c1 a2 c2), .agg (mailV m b1 d1 b2 d2)] w fun e w' => e = .returned (.bool true) ∧ Below w.heap.size w w' := by
  have HA : Seal _ := ⟨ha⟩
  have HB : Seal _ := ⟨hb⟩
  have S0 : Seal _ := ⟨((St.start w).alloc (mailV m a1 c1 a2 c2) 29).alloc (mailV m b1 d1 b2 d2) 29⟩
  clear ha hb
  go_enter Tryd.func18, Tryd.ntmps18
  go_wp2_with fail
  refine (saAddrsEq a1 b1 c1 d1 m.rc _ (HA.out.rc.below S0.out.below (Nat.le_refl _)) (HB.out.rc.below S0.out.below (Nat.le_refl _)) h1).mono ?_
  rintro e w1 ⟨rfl, hb1⟩
  have S1 : Seal _ := ⟨S0.out.later hb1⟩
  have x2 := S1.out.head.c 3 _ rfl
  have y2 := S1.out.two.head.c 3 _ rfl
  simp only [World.size_alloc] at x2
  clear hb1 S0
  go_wp2_with fail
  refine (saTextsEq a2 b2 c2 d2 m.body _ (HA.out.body.below S1.out.below (Nat.le_refl _)) (HB.out.body.below S1.out.below (Nat.le_refl _)) h2).mono ?_
  rintro e w2 ⟨rfl, hb2⟩
  have S2 : Seal _ := ⟨S1.out.later hb2⟩
  clear hb2
  go_wp2
  go_ret
  exact ⟨rfl, S2.out.below⟩
end Go.Proofs.YtgniokkiejoccaaDoor
