/- Contracts: the laws' helpers on a client's state: what is left of a size, copies, comparisons. -/
import Derived.Test.YtfacdiimoncnnaaDoorMails
import Derived.Test.YtfacdiimoncnnaaDoorBasis
import Derived.Test.YtfacdiimoncnnaaDoorInts
namespace Go.Proofs.YtfacdiimoncnnaaDoor
open Go Go.RowKit

structure CliD where
  nm : ByteArray
  m : MailD
  st : Int
  pos : Int
  outs : List Int
abbrev cliV (c : CliD) (a1 : Option Addr) (c1 : Nat) (a2 : Option Addr) (c2 : Nat) (a3 : Option Addr) (c3 : Nat) : Array Value := #[.string c.nm, .string c.m.fu, .string c.m.fd, .slice a1 c.m.rc.length c1, .slice a2 c.m.body.length c2, .int .i64 c.st, .int .i64 c.pos, .slice a3 c.outs.length c3]
structure CliSz (N : Nat) (c : CliD) : Prop where
  nm : c.nm.size ≤ N
  m : MailSz N c.m
  outs : c.outs.length ≤ N
structure CliAt (w : World) (c : CliD) (a1 a2 a3 : Option Addr) : Prop where
  m : MailAt w c.m a1 a2
  outs : IntRow w a3 c.outs
theorem CliAt.below {B : Nat} {w w' : World} {c : CliD} {a1 a2 a3 : Option Addr} (h : CliAt w c a1 a2 a3) (hb : Below B w w') (hB : w.heap.size ≤ B) : CliAt w' c a1 a2 a3 := ⟨h.m.below hb hB, h.outs.below hb hB⟩
theorem CliAt.later {w w' : World} {c : CliD} {a1 a2 a3 : Option Addr} (h : CliAt w c a1 a2 a3) (hb : Below w.heap.size w w') : CliAt w' c a1 a2 a3 := h.below hb (Nat.le_refl _)
def leftCl (c : CliD) (left : Int) : Int :=
  if left - c.nm.size < 0 then -1 else if leftM c.m (left - c.nm.size) < 0 then -1 else leftI c.outs (leftM c.m (left - c.nm.size))
theorem leftI_small {xs : List Int} {left : Int} (h : ¬ leftI xs left < 0) (h1 : left ≤ 1048576) : xs.length ≤ 1048576 := by
  unfold leftI at h
  split at h
  · omega
  · exact absurd (show (-1 : Int) < 0 by decide) h
theorem leftCl_small {c : CliD} {left : Int} (h : ¬ leftCl c left < 0) (h1 : left ≤ 1048576) : CliSz 1048576 c := by
  unfold leftCl at h
  split at h
  · exact absurd (show (-1 : Int) < 0 by decide) h
  · rename_i h2
    split at h
    · exact absurd (show (-1 : Int) < 0 by decide) h
    · rename_i h3
      have := leftM_le (m := c.m) (left := left - c.nm.size) (by omega)
      exact ⟨by omega, leftM_small h3 (by omega) (by omega), leftI_small h (by omega)⟩

/-- A client's state of the call's own. -/
structure CliOwn (w : World) (B : Nat) (c : CliD) (a1 : Option Addr) (c1 : Nat) (a2 : Option Addr) (c2 : Nat) (a3 : Option Addr) (c3 : Nat) : Prop where
  m : MailOwn w B c.m a1 c1 a2 c2
  outs : w.ownsRow B 3 1 (.slice a3 c.outs.length c3) c.outs.length (c.outs.map (Value.int .i64))
theorem CliOwn.at {w : World} {B : Nat} {c : CliD} {a1 : Option Addr} {c1 : Nat} {a2 : Option Addr} {c2 : Nat} {a3 : Option Addr} {c3 : Nat} (h : CliOwn w B c a1 c1 a2 c2 a3 c3) : CliAt w c a1 a2 a3 := ⟨h.m.at, IntRow.of_own h.outs⟩

set_option maxHeartbeats 1600000 in
set_option maxRecDepth 100000 in
theorem eqCli_same (c : CliD) (a1 : Option Addr) (c1 : Nat) (a2 : Option Addr) (c2 : Nat) (a3 : Option Addr) (c3 : Nat) (b1 : Option Addr) (d1 : Nat) (b2 : Option Addr) (d2 : Nat) (b3 : Option Addr) (d3 : Nat) (w : World) (ha : CliAt w c a1 a2 a3) (hb : CliAt w c b1 b2 b3) (h1 : c.m.rc.length ≤ 1048576) (h2 : c.m.body.length ≤ 1048576) (h3 : c.outs.length ≤ 1048576) :
    Calls Tryd.prog 31 #[.agg (cliV c a1 c1 a2 c2 a3 c3), .agg (cliV c b1 d1 b2 d2 b3 d3)] w fun e w' => e = .returned (.bool true) ∧ Below w.heap.size w w' := by
  have HA := Lib.hid ha
  have HB := Lib.hid hb
  have X0 := Lib.hid ((CellsM.new w (cliV c a1 c1 a2 c2 a3 c3) 62).more (.cells (cliV c b1 d1 b2 d2 b3 d3) 62))
  have Y0 := Lib.hid (CellsM.new (w.alloc (.cells (cliV c a1 c1 a2 c2 a3 c3) 62)) (cliV c b1 d1 b2 d2 b3 d3) 62)
  simp only [World.size_alloc] at Y0
  have hb0 : Below w.heap.size w ((w.alloc (.cells (cliV c a1 c1 a2 c2 a3 c3) 62)).alloc (.cells (cliV c b1 d1 b2 d2 b3 d3) 62)) := ((Below.refl _ _).alloc (Nat.le_refl _) _).alloc (by simp) _
  have q1 : (c.st != c.st) = false := by simp
  have q2 : (c.pos != c.pos) = false := by simp
  clear ha hb
  go_enter Tryd.func31, Tryd.ntmps31
  go_wp2_with fail
  refine (eqMail_same c.m a1 c1 a2 c2 b1 d1 b2 d2 _ (HA.out.m.below hb0 (Nat.le_refl _)) (HB.out.m.below hb0 (Nat.le_refl _)) h1 h2).mono ?_
  rintro e w1 ⟨rfl, hb1⟩
  have X1 := X0.out.later hb1
  have Y1 := Y0.out.later hb1
  have B1 := hb0.trans (hb1.mono hb0.size)
  have x5 := X1.c 5 _ rfl
  have x6 := X1.c 6 _ rfl
  have x7 := X1.c 7 _ rfl
  have y5 := Y1.c 5 _ rfl
  have y6 := Y1.c 6 _ rfl
  have y7 := Y1.c 7 _ rfl
  clear X1 Y1 hb1 hb0
  go_wp2_with fail
  refine (eqIntS_same a3 b3 c3 d3 c.outs _ (HA.out.outs.below B1 (Nat.le_refl _)) (HB.out.outs.below B1 (Nat.le_refl _)) h3).mono ?_
  rintro e w3 ⟨rfl, n, rfl⟩
  go_wp2
  go_ret
  exact ⟨rfl, drewN_below B1 n⟩
end Go.Proofs.YtfacdiimoncnnaaDoor
