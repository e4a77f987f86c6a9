/- Small facts on mails of a call's own. -/
import Derived.Test.YtfacdiimoncnnaaDoorMailFns
import Derived.Test.YtfacdiimoncnnaaDoorBasis
namespace Go.Proofs.YtfacdiimoncnnaaDoor
open Go Go.RowKit

theorem leftM_le {m : MailD} {left : Int} (h : 0 ≤ left) : leftM m left ≤ left := by
  unfold leftM
  split
  · omega
  · split
    · omega
    · have h1 := leftA_le m.fu m.fd h
      have h2 := leftP_le (ps := m.rc) (left := leftA m.fu m.fd left) (by omega)
      have h3 := leftB_le m.body (left := leftP m.rc (leftA m.fu m.fd left)) (by omega)
      omega
theorem MailOwn.low {w : World} {B : Nat} {m : MailD} {a1 : Option Addr} {c1 : Nat} {a2 : Option Addr} {c2 : Nat} (h : MailOwn w B m a1 c1 a2 c2) {k : Nat} (hk : k < B) (j : Nat) (v : Value) : MailOwn (w.setCell ⟨k, j, none⟩ v) B m a1 c1 a2 c2 := ⟨h.rc.low hk v, h.body.low hk v, h.ne⟩

theorem MailOwn.base {w : World} {B B' : Nat} {m : MailD} {a1 : Option Addr} {c1 : Nat} {a2 : Option Addr} {c2 : Nat} (h : MailOwn w B m a1 c1 a2 c2) (hB : B' ≤ B) : MailOwn w B' m a1 c1 a2 c2 := ⟨ownsRow_base h.rc hB, ownsRow_base h.body hB, h.ne⟩
end Go.Proofs.YtfacdiimoncnnaaDoor
