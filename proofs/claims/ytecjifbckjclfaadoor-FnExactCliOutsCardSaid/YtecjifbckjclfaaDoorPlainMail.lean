/- Plain facts: mails. No program in this text. -/
import Derived.Test.YtecjifbckjclfaaDoorPlainAddr
namespace Go.Proofs.YtecjifbckjclfaaDoor
open Go

structure MailD where
  fu : ByteArray
  fd : ByteArray
  rc : List (ByteArray × ByteArray)
  body : List ByteArray
def senderB (u d : ByteArray) : Bool := nullB u d || addrB u d
def pairB (p : ByteArray × ByteArray) : Bool := addrB p.1 p.2
def toB (ps : List (ByteArray × ByteArray)) : Bool := decide (1 ≤ ps.length ∧ ps.length ≤ 4) && (ps.all pairB && decide ps.Nodup)
def mailB (m : MailD) : Bool := senderB m.fu m.fd && (toB m.rc && bodyB m.body)

theorem nodup_succ {α : Type} {ps : List α} {k : Nat} {p : α} (hp : ps[k]? = some p) (h : (ps.take k).Nodup) (hn : ∀ j, j < k → ps[j]? ≠ some p) : (ps.take (k + 1)).Nodup := by
  obtain ⟨hk, e⟩ := List.getElem?_eq_some_iff.1 hp
  rw [List.take_succ_eq_append_getElem hk, List.nodup_append]
  refine ⟨h, by simp, ?_⟩
  intro a ha b hb
  obtain ⟨j, hj, ej⟩ := List.getElem_of_mem ha
  rw [List.mem_singleton] at hb
  rw [List.length_take] at hj
  rw [List.getElem_take] at ej
  intro hab
  refine hn j (by omega) ?_
  rw [List.getElem?_eq_getElem (by omega), ej, hab, hb, e]
theorem nodup_miss {α : Type} {ps : List α} {j k : Nat} {p : α} (hp : ps[k]? = some p) (hj : ps[j]? = some p) (hjk : j < k) : ¬ ps.Nodup := by
  intro h
  obtain ⟨hk, e⟩ := List.getElem?_eq_some_iff.1 hp
  obtain ⟨hj', e'⟩ := List.getElem?_eq_some_iff.1 hj
  exact (List.pairwise_iff_getElem.1 h) j k hj' hk hjk (e'.trans e.symm)
theorem toB_miss {ps : List (ByteArray × ByteArray)} {k : Nat} {p : ByteArray × ByteArray} (hp : ps[k]? = some p) (hc : pairB p = false) : toB ps = false := by
  unfold toB; rw [list_all_miss hp hc]; simp
theorem toB_twice {ps : List (ByteArray × ByteArray)} {j k : Nat} {p : ByteArray × ByteArray} (hp : ps[k]? = some p) (hj : ps[j]? = some p) (hjk : j < k) : toB ps = false := by
  unfold toB; rw [decide_eq_false (nodup_miss hp hj hjk)]; simp
theorem toB_end {ps : List (ByteArray × ByteArray)} {k : Nat} (hk : ps.length ≤ k) (h : (ps.take k).all pairB = true) (hn : (ps.take k).Nodup) : toB ps = decide (1 ≤ ps.length ∧ ps.length ≤ 4) := by
  rw [List.take_of_length_le hk] at h hn
  unfold toB; rw [h, decide_eq_true hn]; simp
theorem toB_size {ps : List (ByteArray × ByteArray)} (h : ¬ (1 ≤ ps.length ∧ ps.length ≤ 4)) : toB ps = false := by
  unfold toB; rw [decide_eq_false h]; rfl
theorem mailB_to {m : MailD} (h : toB m.rc = false) : mailB m = false := by unfold mailB; rw [h]; simp
theorem senderB_false {u d : ByteArray} (h : senderB u d = false) : nullB u d = false ∧ addrB u d = false := by
  unfold senderB at h; simpa using h
theorem senderB_true {u d : ByteArray} (h : senderB u d = true) : addrB u d = true ∨ (nullB u d = true ∧ addrB u d = false) := by
  unfold senderB at h
  cases ha : addrB u d
  · rw [ha, Bool.or_false] at h; exact .inr ⟨h, rfl⟩
  · exact .inl rfl
end Go.Proofs.YtecjifbckjclfaaDoor
