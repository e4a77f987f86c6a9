/- Contracts: the laws' helpers on a client's state: what is left of a size, copies, comparisons. -/
import Derived.Test.YtcaknjdolfheaaaGreatDoorMails
import Derived.Test.YtcaknjdolfheaaaGreatDoorBasis
import Derived.Test.YtcaknjdolfheaaaGreatDoorInts
namespace Go.Proofs.YtcaknjdolfheaaaGreatDoor
open Go Go.RowKit

structure CliD where
  nm : ByteArray
  m : MailD
  st : Int
  pos : Int
  outs : List Int
abbrev cliV (c : CliD) (a1 : Option Addr) (c1 : Nat) (a2 : Option Addr) (c2 : Nat) (a3 : Option Addr) (c3 : Nat) : Array Value := #[.string c.nm, .string c.m.fu, .string c.m.fd, .slice a1 c.m.rc.length c1, .slice a2 c.m.body.length c2, .int .i64 c.st, .int .i64 c.pos, .slice a3 c.outs.length c3]
structure CliSz (N : Nat) (c : CliD) : Prop where
  nm : c.nm.size ≤ N
  m : MailSz N c.m
  outs : c.outs.length ≤ N
structure CliAt (w : World) (c : CliD) (a1 a2 a3 : Option Addr) : Prop where
  m : MailAt w c.m a1 a2
  outs : IntRow w a3 c.outs
theorem CliAt.below {B : Nat} {w w' : World} {c : CliD} {a1 a2 a3 : Option Addr} (h : CliAt w c a1 a2 a3) (hb : Below B w w') (hB : w.heap.size ≤ B) : CliAt w' c a1 a2 a3 := ⟨h.m.below hb hB, h.outs.below hb hB⟩
theorem CliAt.later {w w' : World} {c : CliD} {a1 a2 a3 : Option Addr} (h : CliAt w c a1 a2 a3) (hb : Below w.heap.size w w') : CliAt w' c a1 a2 a3 := h.below hb (Nat.le_refl _)
def leftCl (c : CliD) (left : Int) : Int :=
  if left - c.nm.size < 0 then -1 else if leftM c.m (left - c.nm.size) < 0 then -1 else leftI c.outs (leftM c.m (left - c.nm.size))
theorem leftI_small {xs : List Int} {left : Int} (h : ¬ leftI xs left < 0) (h1 : left ≤ 1048576) : xs.length ≤ 1048576 := by
  unfold leftI at h
  split at h
  · omega
  · exact absurd (show (-1 : Int) < 0 by decide) h
theorem leftCl_small {c : CliD} {left : Int} (h : ¬ leftCl c left < 0) (h1 : left ≤ 1048576) : CliSz 1048576 c := by
  unfold leftCl at h
  split at h
  · exact absurd (show (-1 : Int) < 0 by decide) h
  · rename_i h2
    split at h
    · exact absurd (show (-1 : Int) < 0 by decide) h
    · rename_i h3
      have := leftM_le (m := c.m) (left := left - c.nm.size) (by omega)
      exact ⟨by omega, leftM_small h3 (by omega) (by omega), leftI_small h (by omega)⟩

/-- A client's state of the call's own. -/
structure CliOwn (w : World) (B : Nat) (c : CliD) (a1 : Option Addr) (c1 : Nat) (a2 : Option Addr) (c2 : Nat) (a3 : Option Addr) (c3 : Nat) : Prop where
  m : MailOwn w B c.m a1 c1 a2 c2
  outs : w.ownsRow B 3 1 (.slice a3 c.outs.length c3) c.outs.length (c.outs.map (Value.int .i64))
theorem CliOwn.at {w : World} {B : Nat} {c : CliD} {a1 : Option Addr} {c1 : Nat} {a2 : Option Addr} {c2 : Nat} {a3 : Option Addr} {c3 : Nat} (h : CliOwn w B c a1 c1 a2 c2 a3 c3) : CliAt w c a1 a2 a3 := ⟨h.m.at, IntRow.of_own h.outs⟩

end Go.Proofs.YtcaknjdolfheaaaGreatDoor
