/- Contracts: whether a mail is ok, of the program. -/
import Derived.Test.YtecjifbckjclfaaMailOk
import Derived.Deep.RegionWith
namespace Go.Proofs.Ytecjifbckjclfaa
open Go Go.RowKit

theorem PairRow.take {w : World} {ao : Option Addr} {ps : List Pair} (h : PairRow w ao ps) (k : Nat) : PairRow w ao (ps.take k) := by
  intro j p hp
  rw [List.getElem?_take] at hp
  split at hp
  · exact h j p hp
  · cases hp

def IndexPost (ps : List Pair) (p : Pair) (B : Nat) (w : World) (e : Ending) (w' : World) : Prop := ∃ n : Int, e = .returned (.int .i64 n) ∧ ((0 ≤ n ∧ p ∈ ps) ∨ (n = -1 ∧ p ∉ ps)) ∧ Below B w w'
theorem not_mem_take {α : Type} {ps : List α} {k : Nat} {p q : α} (hq : ps[k]? = some q) (h : p ∉ ps.take k) (hne : q ≠ p) : p ∉ ps.take (k + 1) := by
  obtain ⟨hk, e⟩ := List.getElem?_eq_some_iff.1 hq
  rw [List.take_succ_eq_append_getElem hk, e, List.mem_append, List.mem_singleton]
  rintro (h2 | h2)
  · exact h h2
  · exact hne h2.symm

theorem toB_new {ps : List Pair} {k : Nat} {p : Pair} (hp : ps[k]? = some p) (hm : p ∈ ps.take k) : toB ps = false := by
  obtain ⟨j, hj⟩ := List.getElem?_of_mem hm
  rw [List.getElem?_take] at hj
  split at hj
  · exact toB_twice hp hj (by assumption)
  · cases hj
theorem nodup_new {ps : List Pair} {k : Nat} {p : Pair} (hp : ps[k]? = some p) (h : (ps.take k).Nodup) (hm : p ∉ ps.take k) : (ps.take (k + 1)).Nodup :=
  nodup_succ hp h fun j hj e => hm (List.mem_of_getElem? (i := j) (by rw [List.getElem?_take, if_pos hj]; exact e))

theorem mailB_from {m : MailD} (h : senderB m.fu m.fd = false) : mailB m = false := by unfold mailB; rw [h]; rfl
theorem mailB_body {m : MailD} (h1 : senderB m.fu m.fd = true) (h2 : toB m.rc = true) : mailB m = bodyB m.body := by unfold mailB; rw [h1, h2]; rfl

end Go.Proofs.Ytecjifbckjclfaa
