/- Rules as data, and as they lie in memory. -/
import Derived.Test.YtgniokkiejoccaaGreatDoorRowMark
import Derived.Test.YtgniokkiejoccaaGreatDoorPlainRule
import Derived.Test.YtgniokkiejoccaaGreatDoorMails
namespace Go.Proofs.YtgniokkiejoccaaGreatDoor
open Go Go.RowKit

abbrev ruleL (x : RuleD) : List Value := [.int .i64 x.ask, .string x.txt, .int .i64 x.act, .string x.u, .string x.d]
abbrev ruleV (x : RuleD) : Array Value := #[.int .i64 x.ask, .string x.txt, .int .i64 x.act, .string x.u, .string x.d]
def ruleP (_ : World) (vs : List Value) (x : RuleD) : Prop := vs = ruleL x
theorem ruleP_stays : Stays ruleP := fun _ _ _ _ _ h _ _ => h
abbrev RuleRow (w : World) (ao : Option Addr) (xs : List RuleD) : Prop := RowOf 5 ruleP w ao xs
theorem ruleAt {w : World} {ao : Option Addr} {xs : List RuleD} (h : RuleRow w ao xs) {k : Nat} {x : RuleD} (hx : xs[k]? = some x) :
    ∃ b off, ao = some ⟨b, off, none⟩ ∧ w.cell? ⟨b, off + k * 5, none⟩ = some (.int .i64 x.ask) ∧ w.cell? ⟨b, off + k * 5 + 1, none⟩ = some (.string x.txt) ∧ w.cell? ⟨b, off + k * 5 + 2, none⟩ = some (.int .i64 x.act) ∧ w.cell? ⟨b, off + k * 5 + 3, none⟩ = some (.string x.u) ∧ w.cell? ⟨b, off + k * 5 + 4, none⟩ = some (.string x.d) := by
  obtain ⟨b, off, vs, e, _, hc, hp⟩ := h k x hx
  unfold ruleP at hp
  subst hp
  exact ⟨b, off, e, hc 0 _ rfl, hc 1 _ rfl, hc 2 _ rfl, hc 3 _ rfl, hc 4 _ rfl⟩
def ruleE : Elem RuleD Unit := ⟨5, fun x _ => ruleL x, fun _ _ => [], fun _ _ => rfl⟩
abbrev units1 {α : Type} (xs : List α) : List Unit := List.replicate xs.length ()
/-- The parts of memory that a row of rules is. -/
abbrev rulesR (ao : Option Addr) (cap : Nat) (xs : List RuleD) : Res := Res.row 56 5 (.slice ao xs.length cap) xs.length (ruleE.all xs (units1 xs))
theorem ruleE_ress (xs : List RuleD) (ps : List Unit) : ruleE.ress xs ps = [] := by
  unfold Elem.ress
  rw [List.flatten_eq_nil_iff]
  intro l hl
  obtain ⟨k, hk⟩ := List.getElem?_of_mem hl
  rw [List.getElem?_zipWith] at hk
  cases hx : xs[k]? with
  | none => rw [hx] at hk; cases hk
  | some x =>
    cases hp : ps[k]? with
    | none => rw [hx, hp] at hk; cases hk
    | some p => rw [hx, hp] at hk; exact (Option.some.inj hk).symm
theorem rules_read {w : World} {ao : Option Addr} {cap : Nat} {xs : List RuleD} (h : (rulesR ao cap xs).P w) : RuleRow w ao xs := by
  refine ruleE.reads (P := ruleP) (e := 56) (cap := cap) (ps := units1 xs) (fun _ _ _ _ => rfl) (by simp) fun r hr => ?_
  rcases List.mem_cons.1 hr with rfl | hr
  · exact h
  · rw [ruleE_ress] at hr
    cases hr
def ruleN (x : RuleD) : Nat := x.txt.size + (x.u.size + x.d.size)
/-- No text is longer than a machine bears. -/
structure RuleF (x : RuleD) : Prop where
  t : x.txt.size ≤ maxLen
  u : x.u.size ≤ maxLen
  d : x.d.size ≤ maxLen
theorem leftU_N (u d : ByteArray) (left : Int) : leftA u d left = leftN (u.size + d.size) left := by
  unfold leftA leftN
  by_cases h : (u.size : Int) + d.size ≤ left
  · rw [if_pos h, if_pos (by omega)]; omega
  · rw [if_neg h, if_neg (by omega)]
theorem ruleN_parts {x : RuleD} {n : Nat} (h : ruleN x ≤ n) : x.txt.size ≤ n ∧ x.u.size ≤ n ∧ x.d.size ≤ n := by
  unfold ruleN at h
  omega
theorem rulesN_parts {xs : List RuleD} {n : Nat} (h : rowN ruleN xs ≤ n) : xs.length ≤ n ∧ ∀ x ∈ xs, ruleN x ≤ n := by
  have h1 := rowN_length ruleN xs
  exact ⟨by omega, fun x hx => by have := rowN_mem ruleN hx; omega⟩
end Go.Proofs.YtgniokkiejoccaaGreatDoor
