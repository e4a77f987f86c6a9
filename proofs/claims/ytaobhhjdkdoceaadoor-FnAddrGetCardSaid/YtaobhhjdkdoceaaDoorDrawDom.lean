/- Contract: two domains drawn. -/
import Derived.Test.YtaobhhjdkdoceaaDoorDomDraw
import Derived.Test.YtaobhhjdkdoceaaDoorRd
import Derived.WalkSpells
namespace Go.Proofs.YtaobhhjdkdoceaaDoor
open Go Go.RowKit

set_option maxHeartbeats 1000000 in
set_option maxRecDepth 100000 in
theorem drawDomainIn_any (ao : Option Addr) (len cap : Nat) (w : World) (hr : ByteRow w ao len) (hl : len ≤ cap) (hc : cap ≤ maxLen) :
    Calls Tryd.prog 30 #[.slice ao len cap] w fun e w' => ∃ s t, s ∈ drawS ∧ t ∈ drawT ∧ e = .returned (.tuple #[.string s, .string t]) ∧ Below w.heap.size w w' := by
  have C := Lib.hid (fun W h1 => l20Open_any ao len cap W h1 hl hc)
  have HR := Lib.hid hr
  clear hr hl hc
  go_enter Tryd.func30, Tryd.ntmps30
  go_wp2_with fail
  refine (C.out _ HR.out).mono ?_
  rintro e w1 ⟨b, rfl, h1, b1⟩
  go_wp2_with fail
  refine (of_lit w.heap.size b 0 6 _ drawS _ h1 (by omega) rfl rfl (by decide) (by decide)).mono ?_
  rintro e w2 ⟨s, hs, rfl, h2, g2⟩
  have b2 := b1.trans (h1.below g2 (Nat.le_refl _))
  have HS := Lib.hid hs
  clear hs b1 h1 g2
  go_wp2_with fail
  refine (of_lit w.heap.size b _ 6 _ drawT _ h2 (by omega) rfl rfl (by decide) (by decide)).mono ?_
  rintro e w3 ⟨t, ht, rfl, h3, g3⟩
  have b3 := b2.trans (h2.below g3 (Nat.le_refl _))
  have HT := Lib.hid ht
  clear ht b2 h2 g3
  go_wp2
  go_ret2
  exact ⟨s, t, HS.out, HT.out, rfl, b3⟩
end Go.Proofs.YtaobhhjdkdoceaaDoor
