/- Contracts: QuoteGet of the model. -/
import Derived.Test.YtmigcglcacpboaaQuoteS
import Derived.Test.YtmigcglcacpboaaByteOwn
namespace Go.Proofs.Ytmigcglcacpboaa
open Go Go.RowKit

theorem hexV_in (c : UInt8) : -1 ≤ hexV c ∧ hexV c < 16 := by
  unfold hexV; split
  · omega
  · split <;> omega
/-- What the model makes of two figures. -/
def qByteM (a b : UInt8) : UInt8 := UInt8.ofNat ((hexV a * 16 + hexV b) % 256).toNat
theorem qByteM_hex {a b : UInt8} {p q : Nat} (hp : p < 16) (hq : q < 16) (e1 : a = hexC p) (e2 : b = hexC q) : qByteM a b = UInt8.ofNat (16 * p + q) := by
  unfold qByteM
  rw [e1, e2, hexV_hexC hp, hexV_hexC hq]
  congr 1
  omega
theorem readQ_bad {s : ByteArray} {i : Nat} {o : List UInt8} (h : ReadQ s i o) (hi : i + 2 < s.size) (hc : s[i] = 61) (hx : hexV s[i + 1] < 0 ∨ hexV s[i + 2] < 0) : ∀ u, s.data.toList ≠ quoteL u := by
  intro u hu
  obtain ⟨h1, _⟩ := h.2 u hu
  obtain ⟨c, _, h4, h5, _⟩ := qat_mark h1 (by rw [data_at s i (by omega), hc])
  rw [data_at s (i + 1) (by omega)] at h4
  rw [data_at s (i + 2) (by omega)] at h5
  have hc8 := c.toNat_lt
  rw [Option.some.inj h4, Option.some.inj h5, hexV_hexC (by omega), hexV_hexC (by omega)] at hx
  omega
theorem readQ_cut {s : ByteArray} {i : Nat} {o : List UInt8} (h : ReadQ s i o) (hi : i < s.size) (hi2 : s.size ≤ i + 2) (hc : s[i] = 61) : ∀ u, s.data.toList ≠ quoteL u := by
  intro u hu
  obtain ⟨h1, _⟩ := h.2 u hu
  obtain ⟨c, _, _, h5, _⟩ := qat_mark h1 (by rw [data_at s i hi, hc])
  rw [List.getElem?_eq_none (by simpa using hi2)] at h5
  cases h5
theorem quoteGetB_no {s : ByteArray} (h : ∀ u, s.data.toList ≠ quoteL u) : quoteGetB s = ({ data := #[] }, false) := by
  rcases quoteGetB_cases s with ⟨u, hu, e1, _⟩ | ⟨_, e⟩
  · exact absurd (by rw [e1]; exact quotePutB_data hu) (h u.data.toList)
  · exact e
theorem quoteGetB_long {s : ByteArray} {i : Nat} {o : List UInt8} (h : ReadQ s i o) (h240 : 240 < o.length) : quoteGetB s = ({ data := #[] }, false) := by
  rcases quoteGetB_cases s with ⟨u, hu, e1, _⟩ | ⟨_, e⟩
  · exfalso
    obtain ⟨_, h2⟩ := h.2 u.data.toList (by rw [e1]; exact quotePutB_data hu)
    have := congrArg List.length h2
    rw [List.length_take, show u.data.toList.length = u.size by simp] at this
    omega
  · exact e
theorem quoteGetB_end {s : ByteArray} {i : Nat} {o : List UInt8} (h : ReadQ s i o) (hi : s.size ≤ i) (hne : quoteL o ≠ s.data.toList) : quoteGetB s = ({ data := #[] }, false) := by
  refine quoteGetB_no fun u hu => hne ?_
  rw [readQ_end h hi u hu, hu]
theorem quoteGetB_yes {s : ByteArray} {o : List UInt8} (h240 : o.length ≤ 240) (he : quoteL o = s.data.toList) : quoteGetB s = (⟨o.toArray⟩, true) := by
  have hz : (⟨o.toArray⟩ : ByteArray).size ≤ 240 := h240
  have : quotePutB ⟨o.toArray⟩ = s := by
    unfold quotePutB
    rw [if_pos hz]
    show (⟨(quoteL o).toArray⟩ : ByteArray) = s
    rw [he]
  rw [← this]
  exact quoteGetB_put hz
end Go.Proofs.Ytmigcglcacpboaa
