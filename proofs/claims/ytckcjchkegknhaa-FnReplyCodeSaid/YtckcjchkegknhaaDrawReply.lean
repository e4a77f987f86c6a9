/- An answer drawn: its plain facts, its contract. -/
import Derived.Test.YtckcjchkegknhaaPlainCode
import Derived.Test.YtckcjchkegknhaaRd
import Derived.WalkSpells
namespace Go.Proofs.Ytckcjchkegknhaa
open Go Go.RowKit

def drawR : List ByteArray := [⟨#[50, 53, 48, 32, 111, 107]⟩, ⟨#[50, 53, 48]⟩, ⟨#[50, 53, 48, 45, 111, 107]⟩, ⟨#[53, 53, 52, 32, 110, 111]⟩, ⟨#[49, 57, 57, 32, 120]⟩, ⟨#[54, 48, 48, 32, 120]⟩, ⟨#[50, 120, 48, 32, 97]⟩, ⟨#[]⟩, ⟨#[51, 53, 52, 32, 103, 111, 32, 111, 110]⟩, ⟨#[50, 50, 48, 32, 111, 110, 101, 46, 111, 114, 103]⟩, ⟨#[53, 48, 48, 32]⟩]
def codeLaw (s : ByteArray) : Bool :=
  decide (s.size ≤ 20) && (codeB s == 0 || (decide (200 ≤ codeB s) && decide (codeB s ≤ 599) && codeB (s.extract 0 4) == codeB s && codeB (s.extract 0 3) == 0))
theorem codeLaw_all : drawR.all codeLaw = true := by decide +kernel
theorem draw_code {s : ByteArray} (hs : s ∈ drawR) : s.size ≤ 20 ∧ (codeB s = 0 ∨ ((200 ≤ codeB s ∧ codeB s ≤ 599) ∧ codeB (s.extract 0 4) = codeB s ∧ codeB (s.extract 0 3) = 0)) := by
  have h := codeLaw_all
  rw [List.all_eq_true] at h
  have h := h s hs
  unfold codeLaw at h
  generalize codeB (s.extract 0 4) = n4 at h ⊢
  generalize codeB (s.extract 0 3) = n3 at h ⊢
  generalize codeB s = n at h ⊢
  simp only [Bool.and_eq_true, Bool.or_eq_true, beq_iff_eq, decide_eq_true_eq] at h
  exact ⟨h.1, h.2.imp id fun g => ⟨g.1.1, g.1.2, g.2⟩⟩
theorem codeB_form {s : ByteArray} (h : ¬ codeB s = 0) : ∃ h : 4 ≤ s.size, s[3].toNat = 32 := by
  by_cases h4 : s.size < 4
  · exact absurd (codeB_short h4) h
  · refine ⟨by omega, ?_⟩
    by_cases h3 : s[3].toNat = 32
    · exact h3
    · exact absurd (codeB_no (by omega) (fun hh => h3 hh.1)) h

set_option maxHeartbeats 1000000 in
set_option maxRecDepth 100000 in
theorem drawReplyCode_any (ao : Option Addr) (len cap : Nat) (w : World) (hr : ByteRow w ao len) (hl : len ≤ cap) (hc : cap ≤ maxLen) :
    Calls Try.prog 6 #[.slice ao len cap] w fun e w' => ∃ s, s ∈ drawR ∧ e = .returned (.string s) ∧ Below w.heap.size w w' := by
  have C := Lib.hid (fun W h1 => l20Open_any ao len cap W h1 hl hc)
  have HR := Lib.hid hr
  clear hr hl hc
  go_enter Try.func6, Try.ntmps6
  go_wp2_with fail
  refine (C.out _ HR.out).mono ?_
  rintro e w1 ⟨b, rfl, h1, b1⟩
  go_wp2_with fail
  refine (of_lit w.heap.size b 0 11 _ drawR _ h1 (by omega) rfl rfl (by decide) (by decide)).mono ?_
  rintro e w2 ⟨s, hs, rfl, h2, g2⟩
  have b2 := b1.trans (h1.below g2 (Nat.le_refl _))
  have HS := Lib.hid hs
  clear hs b1 h1 g2
  go_wp2
  go_ret
  exact ⟨s, HS.out, rfl, b2⟩
end Go.Proofs.Ytckcjchkegknhaa
