/- Plain facts: a mail as it is written. No program in this text. -/
import Derived.Test.YtgbjdkmkgoidlaaPlainMail
import Derived.Test.YtgbjdkmkgoidlaaPlainDots
namespace Go.Proofs.Ytgbjdkmkgoidlaa
open Go

def fromL (u d : ByteArray) : List UInt8 := [102, 114, 111, 109, 32] ++ (putB u d).data.toList ++ [13, 10]
def toL (p : ByteArray × ByteArray) : List UInt8 := [116, 111, 32] ++ (putB p.1 p.2).data.toList ++ [13, 10]
def headL (m : MailD) (k : Nat) : List UInt8 := fromL m.fu m.fd ++ (m.rc.take k).flatMap toL
def mailL (m : MailD) : List UInt8 := headL m m.rc.length ++ [13, 10] ++ dotsAll m.body
def mailPutB (m : MailD) : ByteArray := if mailB m then ⟨(mailL m).toArray⟩ else { data := #[] }
theorem headL_zero (m : MailD) : headL m 0 = fromL m.fu m.fd := by simp [headL]
theorem headL_snoc {m : MailD} {k : Nat} {p : ByteArray × ByteArray} (hp : m.rc[k]? = some p) : headL m (k + 1) = headL m k ++ toL p := by
  obtain ⟨hk, e⟩ := List.getElem?_eq_some_iff.1 hp
  unfold headL
  rw [List.take_succ_eq_append_getElem hk, List.flatMap_append, e, List.append_assoc]; simp
theorem l1PutB_sender {u d : ByteArray} (h : senderB u d = true) : l1PutB u d = putB u d := by
  unfold l1PutB putB
  rcases senderB_true h with ha | ⟨hn, _⟩
  · rw [ha]; rfl
  · rw [hn]; rfl
theorem l1PutB_addr {u d : ByteArray} (h : addrB u d = true) : l1PutB u d = putB u d := by
  unfold l1PutB putB; rw [h]; rfl
theorem putB_size (u d : ByteArray) : (putB u d).size ≤ u.size + d.size + 5 := by
  unfold putB wireB
  split
  · show 2 ≤ _; omega
  · split
    · simp only [ByteArray.size_append]
      show 1 + u.size + 1 + d.size + 1 ≤ _; omega
    · exact Nat.zero_le _
theorem mailB_parts {m : MailD} (h : mailB m = true) : senderB m.fu m.fd = true ∧ m.rc.length ≤ 4 ∧ (∀ p ∈ m.rc, addrB p.1 p.2 = true) ∧ bodyB m.body = true := by
  unfold mailB toB at h
  simp only [Bool.and_eq_true, decide_eq_true_eq, List.all_eq_true] at h
  exact ⟨h.1, h.2.1.1.2, fun p hp => h.2.1.2.1 p hp, h.2.2⟩
theorem mailPutB_no {m : MailD} (h : mailB m = false) : mailPutB m = { data := #[] } := by unfold mailPutB; rw [h]; rfl
theorem mailPutB_yes {m : MailD} (h : mailB m = true) : mailPutB m = ⟨(mailL m).toArray⟩ := by unfold mailPutB; rw [h]; rfl
end Go.Proofs.Ytgbjdkmkgoidlaa
