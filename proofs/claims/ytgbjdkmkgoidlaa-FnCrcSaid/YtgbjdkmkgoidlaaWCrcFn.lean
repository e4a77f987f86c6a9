/- The walk of FnCrc. -/
import Derived.Test.YtgbjdkmkgoidlaaDrawMail
import Derived.Test.YtgbjdkmkgoidlaaMailPut
import Derived.Test.YtgbjdkmkgoidlaaCrc
import Derived.Laws.IdiomStrings
import Derived.RegionTactic
namespace Go.Proofs.Ytgbjdkmkgoidlaa
open Go Go.RowKit

theorem flat_le {α : Type} (f : α → List UInt8) (n : Nat) (l : List α) (h : ∀ x ∈ l, (f x).length ≤ n) : (l.flatMap f).length ≤ l.length * n := by
  induction l with
  | nil => simp
  | cons x r ih =>
    have h1 := h x (by simp)
    have h2 := ih (fun y hy => h y (by simp [hy]))
    rw [List.flatMap_cons, List.length_append, List.length_cons, Nat.add_mul]
    omega
theorem mailPutB_size {m : MailD} (h : MailSz 40 m) (h4 : m.rc.length ≤ 4) : (mailPutB m).size ≤ 1048576 := by
  cases hok : mailB m
  · rw [mailPutB_no hok]; decide
  · rw [mailPutB_yes hok]
    show (mailL m).toArray.size ≤ 1048576
    have h1 : (fromL m.fu m.fd).length ≤ 100 := by
      have := putB_size m.fu m.fd
      have e : (putB m.fu m.fd).data.toList.length = (putB m.fu m.fd).size := by simp
      have := h.fu
      have := h.fd
      unfold fromL
      simp only [List.length_append, List.length_cons, List.length_nil]
      omega
    have h2 := flat_le toL 100 (m.rc.take m.rc.length) (fun p hp => by
      have hp' := List.mem_of_mem_take hp
      have := putB_size p.1 p.2
      have e : (putB p.1 p.2).data.toList.length = (putB p.1 p.2).size := by simp
      have := h.rcs p hp'
      unfold toL
      simp only [List.length_append, List.length_cons, List.length_nil]
      omega)
    have h3 := dotsL_length h.bos
    have h5 := h.bol
    have e1 : (m.rc.take m.rc.length).length = m.rc.length := by simp
    rw [e1] at h2
    unfold mailL headL dotsAll
    simp only [List.size_toArray, List.length_append, List.length_cons, List.length_nil]
    omega

def crcT : List ByteArray := [{ data := #[] }, ⟨#[49, 50, 51, 52, 53, 54, 55, 56, 57]⟩, ⟨#[97]⟩]

set_option maxHeartbeats 1000000 in
set_option maxRecDepth 100000 in
theorem drawCrc_any (ao : Option Addr) (len cap : Nat) (w : World) (hr : ByteRow w ao len) (hl : len ≤ cap) (hc : cap ≤ maxLen) :
    Calls Try.prog 10 #[.slice ao len cap] w fun e w' => ∃ s : ByteArray, s.size ≤ 1048576 ∧ e = .returned (.string s) ∧ Below w.heap.size w w' := by
  have C := Lib.hid (fun W h1 => l20Open_any ao len cap W h1 hl hc)
  have HR := Lib.hid hr
  clear hr hl hc
  go_enter Try.func10, Try.ntmps10
  go_wp2_with fail
  refine (C.out _ HR.out).mono ?_
  rintro e w1 ⟨b, rfl, h1, b1⟩
  go_wp2_with fail
  refine (l20Mail_any w.heap.size b 0 _ h1 (by omega)).mono ?_
  rintro e w2 ⟨m, a1, c1, a2, c2, rfl, ho, hs, hr1, hr4, hb9, h2, g2⟩
  have hz := mailPutB_size hs hr4
  have b2 := b1.trans (h1.below g2 (Nat.le_refl _))
  have C2 := Lib.hid (specMailPut_any m a1 c1 a2 c2 w2 ho.at (hs.mono (by omega)))
  have H2 := Lib.hid h2
  clear ho hs hr1 hr4 hb9 b1 h1 h2 g2
  go_wp2_with fail
  refine C2.out.mono ?_
  rintro e w3 ⟨rfl, b3⟩
  have B3 := b2.trans (b3.mono b2.size)
  have H3 := Lib.hid (H2.out.later b3)
  clear C2 H2 b3 b2
  generalize mailPutB m = t at hz
  go_wp2_with fail
  refine (of_lit w.heap.size b _ 4 _ [{ data := #[] }, ⟨#[49, 50, 51, 52, 53, 54, 55, 56, 57]⟩, ⟨#[97]⟩, t] _ H3.out (by omega) rfl rfl (by simp) (by simp)).mono ?_
  rintro e w4 ⟨s, hs, rfl, h4, g4⟩
  have b4 := B3.trans (H3.out.below g4 (Nat.le_refl _))
  have zs : s.size ≤ 1048576 := by
    simp only [List.mem_cons, List.not_mem_nil, or_false] at hs
    rcases hs with rfl | rfl | rfl | rfl
    · decide
    · decide
    · decide
    · exact hz
  clear hs h4 g4 B3 H3
  go_wp2
  go_ret
  exact ⟨s, zs, rfl, b4⟩

theorem iCrc {s : ByteArray} {n : Nat} (h : crcB s = n) (hs : s.size ≤ 1048576) : Hid (∀ w, Calls Try.prog 11 #[.string s] w fun e w' => e = .returned (.int .i64 (n : Int)) ∧ w = w') := Lib.hid fun w => h ▸ implCrc_any s w (by unfold maxLen; omega)
theorem sCrc {s : ByteArray} {n : Nat} (h : crcB s = n) (hs : s.size ≤ 1048576) : Hid (∀ w, Calls Try.prog 12 #[.string s] w fun e w' => e = .returned (.int .i64 (n : Int)) ∧ w = w') := Lib.hid fun w => h ▸ specCrc_any s w (by unfold maxLen; omega)

set_option maxHeartbeats 1000000 in
set_option maxRecDepth 100000 in
theorem wFnCrc.walk (ao : Option Addr) (len cap : Nat) (bo : Option Addr) (len2 cap2 : Nat) (w : World) (hr : ByteRow w ao len) (hl : len ≤ cap) (hc : cap ≤ maxLen) (_hr2 : ByteRow w bo len2) (_hl2 : len2 ≤ cap2) (hc2 : cap2 ≤ maxLen) (_ : True) :
    Calls Try.prog 4 #[.slice ao len cap, .slice bo len2 cap2] w fun e w' => e = .returned (.bool true) ∧ Below w.heap.size w w' := by
  have hc' := hc
  have hc2' := hc2
  unfold maxLen at hc' hc2'
  by_cases hbig : 1048576 < len
  · clear hr
    go_enter Try.func4, Try.ntmps4
    go_wp2
    go_ret
    exact ⟨rfl, Below.refl _ _⟩
  by_cases hbig2 : 1048576 < len2
  · clear hr
    go_enter Try.func4, Try.ntmps4
    go_wp2
    go_ret
    exact ⟨rfl, Below.refl _ _⟩
  have CD := Lib.hid (drawCrc_any ao len cap w hr hl hc)
  have i9 := iCrc crcB_check (by decide)
  clear hr hc hc2
  go_enter Try.func4, Try.ntmps4
  go_wp2_with fail
  refine CD.out.mono ?_
  rintro e w1 ⟨s, zs, rfl, b1⟩
  clear CD
  by_cases h0 : s.size = 0
  · have iC := iCrc (crcB_empty h0) zs
    have sC := sCrc (crcB_empty h0) zs
    have q0 : ((s.size : Int) == 0) = true := by rw [beq_iff_eq]; omega
    clear h0
    go_wp2_with fail
    refine (iC.out _).mono ?_
    rintro e w2 ⟨rfl, rfl⟩
    go_wp2_with fail
    refine (sC.out _).mono ?_
    rintro e w3 ⟨rfl, rfl⟩
    go_wp2_with fail
    refine (i9.out _).mono ?_
    rintro e w4 ⟨rfl, rfl⟩
    go_wp2_with fail
    refine (sC.out _).mono ?_
    rintro e w3 ⟨rfl, rfl⟩
    go_wp2_with fail
    refine (i9.out _).mono ?_
    rintro e w4 ⟨rfl, rfl⟩
    go_wp2
    go_ret
    exact ⟨rfl, b1⟩
  · obtain ⟨n, hn⟩ : ∃ n, crcB s = n := ⟨_, rfl⟩
    have iC := iCrc hn zs
    have sC := sCrc hn zs
    have q0 : ((s.size : Int) == 0) = false := by rw [beq_eq_false_iff_ne]; omega
    have qn : ((n : Int) != (n : Int)) = false := by simp
    have hconv := run_bytes_of_string (P := Try.prog) w1 9 22 5 s Try.underlying9 Try.underlying22 Try.underlying5
    obtain ⟨k, hk⟩ : ∃ k, k = len2 % s.size := ⟨_, rfl⟩
    have hks : k < s.size := hk ▸ Nat.mod_lt _ (by omega)
    have hkz : (len2 : Int) % (s.size : Int) = (k : Int) := by rw [hk]; simp
    generalize grownCap w1 s.size 0 5 = cp at hconv
    have hcell : (w1.alloc (.cells (bytesRow s cp) 5 ((bytesRow s cp).size, (bytesRow s cp).size + 1))).cell? ⟨w1.heap.size, k, none⟩ = some (.int .u8 (s[k].toNat : Int)) := by
      have := World.cell?_alloc_mark w1 (bytesRow s cp) 5 ((bytesRow s cp).size, (bytesRow s cp).size + 1) k
      rw [bytesRow_at s cp k hks] at this
      exact this
    have hcells : Hid (∀ j (hj : j < s.size), (w1.alloc (.cells (bytesRow s cp) 5 ((bytesRow s cp).size, (bytesRow s cp).size + 1))).cell? ⟨w1.heap.size, j, none⟩ = some (.int .u8 (s[j].toNat : Int))) := Lib.hid fun j hj => by
      have := World.cell?_alloc_mark w1 (bytesRow s cp) 5 ((bytesRow s cp).size, (bytesRow s cp).size + 1) j
      rw [bytesRow_at s cp j hj] at this
      exact this
    have hfro : (w1.alloc (.cells (bytesRow s cp) 5 ((bytesRow s cp).size, (bytesRow s cp).size + 1))).frozen? ⟨w1.heap.size, k, none⟩ = false := by
      have := World.frozen?_alloc_mark w1 (bytesRow s cp) 5 (bytesRow s cp).size ((bytesRow s cp).size + 1) k
      have hsz : s.size ≤ (bytesRow s cp).size := by unfold bytesRow; simp
      rw [this, decide_eq_false (by omega)]; rfl
    have hbel : Below w1.heap.size w1 (w1.alloc (.cells (bytesRow s cp) 5 ((bytesRow s cp).size, (bytesRow s cp).size + 1))) := (Below.refl _ _).alloc (Nat.le_refl _) _
    have BB := Lib.hid (b1.trans (hbel.mono b1.size))
    have hlow := b1.size
    clear hk hbel b1
    go_wp2_with fail
    refine (iC.out _).mono ?_
    rintro e w2 ⟨rfl, rfl⟩
    go_wp2_with fail
    refine (sC.out _).mono ?_
    rintro e w3 ⟨rfl, rfl⟩
    go_wp2_with fail
    refine (i9.out _).mono ?_
    rintro e w4 ⟨rfl, rfl⟩
    go_wp2
    generalize w1.alloc (.cells (bytesRow s cp) 5 ((bytesRow s cp).size, (bytesRow s cp).size + 1)) = W at hcell hcells hfro BB ⊢
    clear hconv iC sC i9
    obtain ⟨r, hr⟩ : ∃ r, r = len2 % 8 := ⟨_, rfl⟩
    have hr8 : r < 8 := hr ▸ Nat.mod_lt _ (by omega)
    have hrz : (len2 : Int) % 8 = (r : Int) := by rw [hr]; simp
    rw [hkz]
    clear hkz hr
    have hko : (0 : Int) ≤ (k : Int) ∧ (k : Int) < (s.size : Int) := by omega
    have hT : ∃ (z : Nat) (T : Int), (2 : Int) ^ r = T ∧ z < 256 ∧ z ≠ s[k].toNat ∧ bits .xor .u8 (s[k].toNat : Int) T = (z : Int) := by
      have h2 : 2 ^ r ≤ 128 := by
        have : 2 ^ r ≤ 2 ^ 7 := Nat.pow_le_pow_right (by omega) (by omega)
        omega
      have hp : 0 < 2 ^ r := Nat.two_pow_pos r
      have hs8 := s[k].toNat_lt
      refine ⟨s[k].toNat ^^^ 2 ^ r, ((2 ^ r : Nat) : Int), by simp, Nat.xor_lt_two_pow (n := 8) (by omega) (by omega), fun e => ?_, u8_xor_nat _ _ (by omega) (by omega)⟩
      have := congrArg (s[k].toNat ^^^ ·) e
      simp only [← Nat.xor_assoc, Nat.xor_self, Nat.zero_xor] at this
      omega
    obtain ⟨z, T, hT, hz, hzn, hx⟩ := hT
    have hmin : min r 8 = r := by omega
    have hTw : IntKind.u8.wrap T = T := by
      have h2 : 2 ^ r ≤ 128 := by
        have : 2 ^ r ≤ 2 ^ 7 := Nat.pow_le_pow_right (by omega) (by omega)
        omega
      have hp : 0 < 2 ^ r := Nat.two_pow_pos r
      rw [IntKind.wrap_u8', ← hT, show (2 : Int) ^ r = ((2 ^ r : Nat) : Int) by simp]
      generalize 2 ^ r = q at h2 hp
      omega
    go_region
    have hy : (UInt8.ofNat z).toNat = z := Nat.mod_eq_of_lt hz
    have hyn : UInt8.ofNat z ≠ s[k] := fun e => hzn (by rw [← hy, e])
    obtain ⟨l, hl⟩ : ∃ l, l = s.data.toList.set k (UInt8.ofNat z) := ⟨_, rfl⟩
    have hll : l.length = s.size := by rw [hl]; simp
    have hcl : ∀ j (hj : j < l.length), ((W.setCell ⟨w1.heap.size, k, none⟩ (.int .u8 (z : Int))).drew.drew).cell? ((⟨w1.heap.size, 0, none⟩ : Addr).add j) = some (.int .u8 (l[j].toNat : Int)) := by
      intro j hj
      have hjs : j < s.size := by omega
      have e0 : ((W.setCell ⟨w1.heap.size, k, none⟩ (.int .u8 (z : Int))).drew.drew).cell? ((⟨w1.heap.size, 0, none⟩ : Addr).add j) = (W.setCell ⟨w1.heap.size, k, none⟩ (.int .u8 (z : Int))).cell? ⟨w1.heap.size, j, none⟩ := by
        by_cases hj0 : j = 0
        · subst hj0; simp [Addr.add]
        · simp [Addr.add, hj0]
      rw [e0]
      subst hl
      by_cases hjk : j = k
      · subst hjk
        rw [World.cell?_setCell_same _ _ _ hcell, List.getElem_set_self, hy]
      · rw [World.cell?_setCell_other _ _ _ _ (fun e => hjk (by simpa using (congrArg Addr.off e).symm)), hcells.out j hjs, List.getElem_set_ne (Ne.symm hjk)]
        rfl
    have hback := run_convert_bytes_back (P := Try.prog) _ 22 9 5 ⟨w1.heap.size, 0, none⟩ cp l Try.underlying22 Try.underlying5 Try.underlying9 hcl
    rw [hll] at hback
    obtain ⟨t, ht⟩ : ∃ t : ByteArray, t = ⟨l.toArray⟩ := ⟨_, rfl⟩
    rw [← ht] at hback
    have htl : t.data.toList = l := by rw [ht]
    have hts : t.size ≤ 1048576 := by
      have : t.size = l.length := by rw [← htl]; simp
      omega
    obtain ⟨n2, hn2⟩ : ∃ n2, crcB t = n2 := ⟨_, rfl⟩
    have hne : ((n2 : Int) != (n : Int)) = true := by
      rw [bne_iff_ne]
      intro e
      exact crcB_turned hks hyn (htl.trans hl) (by rw [hn2, hn]; omega)
    have iT := iCrc hn2 hts
    have BZ : Hid (Below w.heap.size w ((W.setCell ⟨w1.heap.size, k, none⟩ (.int .u8 (z : Int))).drew.drew)) := Lib.hid (((BB.out.setCell (p := ⟨w1.heap.size, k, none⟩) hlow _).drew).drew)
    clear hcl hcell hcells hfro BB hl ht htl hts hn2 hn hx hT hTw hy hyn hzn
    generalize (W.setCell ⟨w1.heap.size, k, none⟩ (.int .u8 (z : Int))).drew.drew = W9 at hback BZ ⊢
    go_wp2_with fail
    refine (iT.out _).mono ?_
    rintro e w5 ⟨rfl, rfl⟩
    go_wp2
    go_ret
    exact ⟨rfl, BZ.out⟩
end Go.Proofs.Ytgbjdkmkgoidlaa
