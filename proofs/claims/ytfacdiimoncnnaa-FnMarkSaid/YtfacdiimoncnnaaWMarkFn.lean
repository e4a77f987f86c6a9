/- The walk of FnMark. -/
import Derived.Test.YtfacdiimoncnnaaMarkOf
import Derived.Test.YtfacdiimoncnnaaDrawAny
import Derived.Test.YtfacdiimoncnnaaAppendStrs
namespace Go.Proofs.Ytfacdiimoncnnaa
open Go Go.RowKit

def xLine : ByteArray := { data := #[120] }
theorem known_x : knownB xLine = false := by decide +kernel
theorem body_x {xs : List ByteArray} (h : bodyB xs = true) (hl : xs.length < 12) : bodyB (xLine :: xs) = true := by
  unfold bodyB at h ⊢
  rw [Bool.and_eq_true, decide_eq_true_eq] at h
  rw [List.all_cons, h.1, show lineB xLine = true by decide +kernel, decide_eq_true (by simp; omega)]; rfl
theorem mark_x {xs : List ByteArray} (h : bodyB xs = true) (hl : xs.length < 12) : markOfB (xLine :: xs) = markOfB xs := by
  rw [markOf_yes h, markOf_yes (body_x h hl)]
  unfold markR
  rw [List.find?_cons, known_x]
theorem mark_body {xs : List ByteArray} (h : ¬ markOfB xs = { data := #[] }) : bodyB xs = true := by
  cases hb : bodyB xs
  · exact absurd (markOf_no hb) h
  · rfl
theorem mark_facts {xs : List ByteArray} (h : ¬ markOfB xs = { data := #[] }) : ∃ k : Nat, xs[k]? = some (markOfB xs) ∧ knownB (markOfB xs) = true := by
  have hb := mark_body h
  rw [markOf_yes hb] at h ⊢
  rcases id_cases xs with ⟨_, e⟩ | ⟨k, x, _, hx, _, e, hc⟩
  · exact absurd e h
  · rw [e]; exact ⟨k, hx, hc⟩

theorem ownsRow_low {w : World} {B B' : Nat} {e : TypeId} {size : Nat} {v : Value} {n : Nat} {xs : List Value} (h : w.ownsRow B e size v n xs) (hB : B' ≤ B) : w.ownsRow B' e size v n xs := by
  refine ⟨h.1, ?_⟩
  rcases h.2 with hn | ⟨g, cap, cur, hv, hb, rest⟩
  · exact .inl hn
  · exact .inr ⟨g, cap, cur, hv, Nat.le_trans hB hb, rest⟩

/-- Some line of these is s. -/
def hasL (s : ByteArray) (xs : List ByteArray) : Bool := xs.any fun x => x.toList == s.toList
theorem hasL_zero (s : ByteArray) (xs : List ByteArray) : hasL s (xs.take 0) = false := rfl
theorem hasL_succ {s : ByteArray} {xs : List ByteArray} {k : Nat} {x : ByteArray} (hx : xs[k]? = some x) : hasL s (xs.take (k + 1)) = (hasL s (xs.take k) || (x.toList == s.toList)) := by
  obtain ⟨hk, e⟩ := List.getElem?_eq_some_iff.1 hx
  unfold hasL
  rw [List.take_succ_eq_append_getElem hk, List.any_append, e]
  simp
theorem hasL_end {s : ByteArray} {xs : List ByteArray} {k : Nat} (hk : xs.length ≤ k) {j : Nat} (hj : xs[j]? = some s) : hasL s (xs.take k) = true := by
  rw [List.take_of_length_le hk]
  unfold hasL
  rw [List.any_eq_true]
  exact ⟨s, List.mem_of_getElem? hj, by simp⟩

set_option maxRecDepth 100000 in
theorem drawMarkOf_any (ao : Option Addr) (len cap : Nat) (w : World) (hr : ByteRow w ao len) (hl : len ≤ cap) (hc : cap ≤ maxLen) :
    Calls Try.prog 10 #[.slice ao len cap] w fun e w' => ∃ (bo : Option Addr) (c : Nat) (xs : List ByteArray), e = .returned (.slice bo xs.length c) ∧ Row w' w.heap.size bo c xs ∧ xs.length ≤ 13 ∧ (∀ x ∈ xs, x.size ≤ 45) ∧ Below w.heap.size w w' := by
  have C := Lib.hid (fun W h1 => l20Open_any ao len cap W h1 hl hc)
  have HR := Lib.hid hr
  clear hr hl hc
  go_enter Try.func10, Try.ntmps10
  go_wp2_with fail
  refine (C.out _ HR.out).mono ?_
  rintro e w1 ⟨b, rfl, h1, b1⟩
  have B1 := Lib.hid b1
  have hs1 := b1.size
  have hbw := h1.lt.1
  clear b1
  go_wp2_with fail
  refine (l20AnyBody_any _ b _ w1 h1 (by omega)).mono ?_
  rintro e w2 ⟨a2, c2, xs, hx1, hx2, rfl, o2, r2, g2⟩
  have B2 : Below w.heap.size w w2 := B1.out.grown g2 (by omega) (fun k e => by cases e; omega)
  have O2 : Hid (Row w2 w.heap.size a2 c2 xs) := Lib.hid (ownsRow_low o2 (by omega))
  clear r2 g2 o2
  go_wp2
  go_ret
  exact ⟨a2, c2, xs, rfl, O2.out, hx1, hx2, B2⟩

theorem iMark {xs : List ByteArray} {s : ByteArray} (e : markOfB xs = s) (hl : xs.length ≤ 1048576) (hs : ∀ x ∈ xs, x.size ≤ 1048576) : Hid (∀ ao cap w, StrRow w ao xs → Calls Try.prog 8 #[.slice ao xs.length cap] w fun e w' => e = .returned (.string s) ∧ w = w') :=
  Lib.hid fun ao cap w hr => e ▸ implMarkOf_any ao cap xs w hr hl hs
theorem sMark {xs : List ByteArray} {s : ByteArray} (e : markOfB xs = s) (hl : xs.length ≤ 1048576) (hs : ∀ x ∈ xs, x.size ≤ 1048576) : Hid (∀ ao cap w, StrRow w ao xs → Calls Try.prog 6 #[.slice ao xs.length cap] w fun e w' => e = .returned (.string s) ∧ w = w') :=
  Lib.hid fun ao cap w hr => e ▸ specMarkOf_any ao cap xs w hr hl hs

set_option maxHeartbeats 4000000 in
set_option maxRecDepth 100000 in
theorem wFnMark.walk (ao : Option Addr) (len cap : Nat) (w : World) (hr : ByteRow w ao len) (hl : len ≤ cap) (hc : cap ≤ maxLen) (_hm : True) :
    Calls Try.prog 4 #[.slice ao len cap] w fun e w' => e = .returned (.bool true) ∧ Below w.heap.size w w' := by
  have hc' := hc
  unfold maxLen at hc'
  by_cases hbig : 1048576 < len
  · clear hr
    go_enter Try.func4, Try.ntmps4
    go_wp2
    go_ret
    exact ⟨rfl, Below.refl _ _⟩
  obtain ⟨i0, hi, hz0, hz1, hz2⟩ := info_parts infoS
  have CD := Lib.hid (drawMarkOf_any ao len cap w hr hl hc)
  clear hr hc
  go_enter Try.func4, Try.ntmps4
  go_wp2_with fail
  refine CD.out.mono ?_
  rintro e w1 ⟨a1, c1, xs, rfl, ho1, hx13, hx45, b1⟩
  have S1 := Lib.hid ho1.strs
  have O1 := Lib.hid ho1
  have B1 := Lib.hid b1
  have hxs : ∀ x ∈ xs, x.size ≤ 1048576 := fun x hx => Nat.le_trans (hx45 x hx) (by omega)
  obtain ⟨s, hs⟩ : ∃ s, markOfB xs = s := ⟨_, rfl⟩
  have IH := iMark hs (by omega) hxs
  have SH := sMark hs (by omega) hxs
  have HXS := Lib.hid hxs
  have HS := Lib.hid hs
  clear CD b1 ho1 hx45 hxs
  by_cases he : s = { data := #[] }
  · subst he
    clear hs
    go_wp2_with (first | (go_at_call 8; refine (IH.out a1 c1 _ S1.out).mono ?_; rintro e w2 ⟨rfl, rfl⟩) | (go_at_call 6; refine (SH.out a1 c1 _ S1.out).mono ?_; rintro e w2 ⟨rfl, rfl⟩))
    go_ret
    exact ⟨rfl, B1.out⟩
  · have hne : ¬ markOfB xs = { data := #[] } := by rw [hs]; exact he
    obtain ⟨j, hj, hkn⟩ := mark_facts hne
    rw [hs] at hj hkn
    have HJ := Lib.hid hj
    have hsz := known_size hkn
    have hss : s.size ≤ 1048576 := HXS.out s (List.mem_of_getElem? hj)
    have hbody := Lib.hid (mark_body hne)
    have hpre : ((s.extract 0 4).toList == [73, 100, 58, 32]) = true := by
      rw [idP_piece, ← known_long hsz]; exact hkn
    have hnl : ¬ s.toList = [] := by
      rw [Lib.toList_data]
      intro e
      rw [Lib.size_eq, e] at hsz
      simp at hsz
    have hnb : s.toList.isEmpty = false := by simpa [List.isEmpty_iff] using hnl
    have HPRE := Lib.hid hpre
    clear hj hkn hne hs he hpre
    go_wp2_with (first | (go_at_call 8; refine (IH.out a1 c1 _ S1.out).mono ?_; rintro e w2 ⟨rfl, rfl⟩) | (go_at_call 6; refine (SH.out a1 c1 _ S1.out).mono ?_; rintro e w2 ⟨rfl, rfl⟩))
    go_loop [5, 6] (fun q i => ∃ (k : Nat) (b : Bool), k ≤ xs.length ∧ i = .int .i64 k ∧ q = .bool b ∧ Hid (b = hasL s (xs.take k))) (fun _ i => xs.length - (intOf i).toNat)
    case atStart => exact ⟨0, false, Nat.zero_le _, rfl, rfl, Lib.hid rfl⟩
    case round =>
      obtain ⟨k, b, hk, rfl, rfl, HB⟩ := hrel
      by_cases hlt : k < xs.length
      · obtain ⟨x, hx⟩ : ∃ x, xs[k]? = some x := ⟨_, List.getElem?_eq_getElem hlt⟩
        obtain ⟨b1, off, rfl, hcell⟩ := S1.out k x hx
        have HN := Lib.hid (hasL_succ (s := s) hx)
        have hxz := HXS.out x (List.mem_of_getElem? hx)
        clear hx
        cases b
        · have HN2 : Hid ((x.toList == s.toList) = hasL s (xs.take (k + 1))) := Lib.hid (by rw [HN.out, ← HB.out, Bool.false_or])
          go_wp2
          go_round
          case rel => exact ⟨k + 1, _, by omega, by go_num, rfl, HN2⟩
          case measure => simp [intOf]; omega
        · have HN2 : Hid (true = hasL s (xs.take (k + 1))) := Lib.hid (by rw [HN.out, ← HB.out, Bool.true_or])
          go_wp2
          go_round
          case rel => exact ⟨k + 1, true, by omega, by go_num, rfl, HN2⟩
          case measure => simp [intOf]; omega
      · have hb : b = true := HB.out.trans (hasL_end (by omega) HJ.out)
        subst hb
        clear HB
        have hpre := HPRE.out
        by_cases h12 : 12 ≤ xs.length
        · go_wp2
          go_ret
          exact ⟨rfl, B1.out⟩
        · have HM2 := mark_x hbody.out (by omega)
          rw [HS.out] at HM2
          have IX := iMark HM2 (by simp; omega) (by
            intro x hx
            rcases List.mem_cons.1 hx with rfl | hx
            · decide
            · exact HXS.out x hx)
          clear HM2
          have X0 := Lib.hid (row_lit w1 xLine w1.heap.size (Nat.le_refl _))
          have hd : decide ((12 : Int) ≤ (xs.length : Int)) = false := decide_eq_false (by omega)
          go_wp2_with (at_builtin; refine wpList_append_strs (by rfl) _ _ rfl i0 hi hz0 hz1 hz2 w1.heap.size _ [xLine] 1 rfl rfl X0.out _ a1 c1 xs rfl (World.ownsRow.alloc O1.out _) ?d1 ?d2 (xLine :: xs) rfl ?_)
          case d1 => omega
          intro v' w8 hown' hgrow
          have hb8 : Below w1.heap.size w1 w8 := ((Below.refl _ w1).alloc (Nat.le_refl _) _).grown hgrow (by simp) (fun k e => by have : w1.heap.size = k := Option.some.inj e; omega)
          obtain ⟨a8, c8, rfl⟩ := shape_own hown'
          have X8 : Hid (StrRow w8 a8 (xLine :: xs)) := Lib.hid (StrRow.of_own (xs := xLine :: xs) hown')
          have B8 := Lib.hid (B1.out.trans (hb8.mono B1.out.size))
          clear hown' hgrow hb8 X0
          go_wp2_with fail
          refine (IX.out a8 c8 _ X8.out).mono ?_
          rintro e w9 ⟨rfl, rfl⟩
          go_wp2
          go_ret
          exact ⟨rfl, B8.out⟩
end Go.Proofs.Ytfacdiimoncnnaa
