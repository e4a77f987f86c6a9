/- Contracts: lines of hosts at a mail's beginning. -/
import Derived.Test.YtecjifbckjclfaaDoorPlainHop
import Derived.Test.YtecjifbckjclfaaDoorCopy
import Derived.Test.YtecjifbckjclfaaDoorAddr
import Derived.WalkSpells
namespace Go.Proofs.YtecjifbckjclfaaDoor
open Go Go.RowKit

theorem isHop_any (s : ByteArray) (w : World) (hm : HasMax w) (hs : s.size < 4294967281) :
    Calls Tryd.prog 84 #[.string s] w fun e w' => e = .returned (.bool (hopB s)) ∧ Below w.heap.size w w' := by
  have HM := Lib.hid hm
  clear hm
  cases hp : marked s
  · have hq : Hid (hopB s = false) := Lib.hid (hopB_no hp)
    have HP : Hid (Lib.hasPrefix s.data.toList ({ data := #[72, 111, 112, 58, 32] } : ByteArray).data.toList = false) := Lib.hid hp
    clear hp
    go_enter Tryd.func84, Tryd.ntmps84
    go_wp2_with (go_at_call 157; refine (Tryd.strings_CutPrefix _ _ _).mono ?_; rintro e w' ⟨rfl, rfl⟩; rw [HP.out])
    go_ret
    exact ⟨ret_b hq.out.symm, Below.refl _ _⟩
  · have hq : Hid (hopB s = domB (s.extract 5 s.size)) := Lib.hid (hopB_yes hp)
    have HP : Hid (Lib.hasPrefix s.data.toList ({ data := #[72, 111, 112, 58, 32] } : ByteArray).data.toList = true) := Lib.hid hp
    have HR : Hid ((⟨(Lib.trimPrefix s.data.toList ({ data := #[72, 111, 112, 58, 32] } : ByteArray).data.toList).toArray⟩ : ByteArray) = s.extract 5 s.size) := Lib.hid (marked_rest hp)
    have hsz : (s.extract 5 s.size).size < 4294967281 := by rw [ByteArray.size_extract]; omega
    clear hp
    go_enter Tryd.func84, Tryd.ntmps84
    go_wp2_with (go_at_call 157; refine (Tryd.strings_CutPrefix _ _ _).mono ?_; rintro e w' ⟨rfl, rfl⟩; rw [HP.out, HR.out])
    refine (implDomainOk_max _ _ HM.out hsz).mono ?_
    rintro e w1 ⟨rfl, hb1⟩
    go_wp2
    go_ret
    exact ⟨ret_b hq.out.symm, hb1⟩

set_option maxHeartbeats 1000000 in
theorem l2Hops_any (ao : Option Addr) (cap : Nat) (xs : List ByteArray) (w : World) (hr : StrRow w ao xs) (hl : xs.length ≤ 1048576) (hs : ∀ x ∈ xs, x.size ≤ 1048576) :
    Calls Tryd.prog 89 #[.slice ao xs.length cap] w fun e w' => e = .returned (.int .i64 (hopsN xs)) ∧ Below w.heap.size w w' := by
  have HR := Lib.hid hr
  have HS := Lib.hid hs
  clear hr hs
  go_enter Tryd.func89, Tryd.ntmps89
  go_wp2
  go_loopw [3] (fun i wr => ∃ k : Nat, k ≤ xs.length ∧ i = .int .i64 k ∧ Hid ((xs.take k).all hopB = true) ∧ Below w.heap.size w wr) (fun i _ => xs.length - (intOf i).toNat)
  case atStart => exact ⟨0, Nat.zero_le _, rfl, Lib.hid (by simp), Below.refl _ _⟩
  case round =>
    obtain ⟨k, hk, rfl, H, hb⟩ := hrel
    by_cases hlt : k < xs.length
    · obtain ⟨x, hx⟩ : ∃ x, xs[k]? = some x := ⟨_, List.getElem?_eq_getElem hlt⟩
      obtain ⟨q, off, rfl, hcell⟩ := (HR.out.below hb (Nat.le_refl _)) k x hx
      have hxs := HS.out x (List.mem_of_getElem? hx)
      have HX := Lib.hid hx
      clear hx
      by_cases h5 : 5 < x.size
      · cases hp : marked x
        · have hq : Hid (hopsN xs = k) := Lib.hid (hopsN_at xs k H.out (.inr ⟨x, HX.out, hopB_no hp⟩))
          have hpc : ((x.extract 0 5).toList == [72, 111, 112, 58, 32]) = false := (marked_piece x).trans hp
          clear hp
          go_wp2
          go_ret
          exact ⟨ret_i (by rw [hq.out]), hb⟩
        · have hpc : ((x.extract 0 5).toList == [72, 111, 112, 58, 32]) = true := (marked_piece x).trans hp
          have hy := hopB_yes hp
          have hsz : (x.extract 5 x.size).size ≤ 140737488351232 := by rw [ByteArray.size_extract]; omega
          cases hd : domB (x.extract 5 x.size)
          · have hq : Hid (hopsN xs = k) := Lib.hid (hopsN_at xs k H.out (.inr ⟨x, HX.out, hy.trans hd⟩))
            have HD := Lib.hid hd
            clear hp hy hd
            go_wp2_with (go_at_call 86; refine (l1Domain_any _ _ hsz).mono ?_; rintro e w1 ⟨rfl, hb1⟩; rw [HD.out])
            go_ret
            exact ⟨ret_i (by rw [hq.out]), hb.trans (hb1.mono hb.size)⟩
          · have HY := Lib.hid (hy.trans hd)
            have HD := Lib.hid hd
            clear hp hy hd
            go_wp2_with (go_at_call 86; refine (l1Domain_any _ _ hsz).mono ?_; rintro e w1 ⟨rfl, hb1⟩; rw [HD.out])
            go_roundw
            case rel => exact ⟨k + 1, by omega, by go_num, Lib.hid (list_all_succ HX.out H.out HY.out), hb.trans (hb1.mono hb.size)⟩
            case measure => simp [intOf]; omega
      · have hq : Hid (hopsN xs = k) := Lib.hid (hopsN_at xs k H.out (.inr ⟨x, HX.out, marked_short (by omega)⟩))
        go_wp2
        go_ret
        exact ⟨ret_i (by rw [hq.out]), hb⟩
    · have hq : Hid (hopsN xs = k) := Lib.hid (hopsN_at xs k H.out (.inl (by omega)))
      go_wp2
      go_ret
      exact ⟨ret_i (by rw [hq.out]), hb⟩

def hopsOfB (xs : List ByteArray) : Int := if bodyB xs then hopsN xs else -1

theorem specHopsOf_any (ao : Option Addr) (cap : Nat) (xs : List ByteArray) (w : World) (hr : StrRow w ao xs) (hl : xs.length ≤ 1048576) (hs : ∀ x ∈ xs, x.size ≤ 1048576) :
    Calls Tryd.prog 23 #[.slice ao xs.length cap] w fun e w' => e = .returned (.int .i64 (hopsOfB xs)) ∧ Below w.heap.size w w' := by
  have HR := Lib.hid hr
  have HS := Lib.hid hs
  have HS2 : Hid (∀ x ∈ xs, x.size ≤ maxLen) := Lib.hid (fun x hx => Nat.le_trans (hs x hx) (by unfold maxLen; omega))
  have hl2 : xs.length ≤ maxLen := by unfold maxLen; omega
  clear hr hs
  cases hb : bodyB xs
  · have hm : Hid (hopsOfB xs = -1) := Lib.hid (by unfold hopsOfB; rw [hb]; rfl)
    have HB := Lib.hid hb
    clear hb
    go_enter Tryd.func23, Tryd.ntmps23
    go_wp2_with (go_at_call 87; refine (l2BodyOk_any ao cap xs _ HR.out hl2 HS2.out).mono ?_; rintro e w1 ⟨rfl, rfl⟩; rw [HB.out])
    go_ret
    exact ⟨ret_i hm.out.symm, Below.refl _ _⟩
  · have hm : Hid (hopsOfB xs = hopsN xs) := Lib.hid (by unfold hopsOfB; rw [hb]; rfl)
    have HB := Lib.hid hb
    clear hb
    go_enter Tryd.func23, Tryd.ntmps23
    go_wp2_with fail
    refine (l2BodyOk_any ao cap xs _ HR.out hl2 HS2.out).mono ?_
    rintro e w1 ⟨rfl, rfl⟩
    rw [HB.out]
    go_wp2_with fail
    refine (l2Hops_any ao cap xs _ HR.out hl HS.out).mono ?_
    rintro e w1 ⟨rfl, hb1⟩
    go_wp2
    go_ret
    exact ⟨ret_i hm.out.symm, hb1⟩

set_option maxHeartbeats 1000000 in
theorem implHopsOf_any (ao : Option Addr) (cap : Nat) (xs : List ByteArray) (w : World) (hm : HasMax w) (hr : StrRow w ao xs) (hl : xs.length ≤ 1048576) (hs : ∀ x ∈ xs, x.size ≤ 1048576) :
    Calls Tryd.prog 19 #[.slice ao xs.length cap] w fun e w' => e = .returned (.int .i64 (hopsOfB xs)) ∧ Below w.heap.size w w' := by
  have HM := Lib.hid hm
  have HR := Lib.hid hr
  have HS := Lib.hid hs
  have HS2 : Hid (∀ x ∈ xs, x.size ≤ maxLen) := Lib.hid (fun x hx => Nat.le_trans (hs x hx) (by unfold maxLen; omega))
  have hl2 : xs.length ≤ maxLen := by unfold maxLen; omega
  clear hr hs hm
  cases hb : bodyB xs
  · have hm : Hid (hopsOfB xs = -1) := Lib.hid (by unfold hopsOfB; rw [hb]; rfl)
    have HB := Lib.hid hb
    clear hb
    go_enter Tryd.func19, Tryd.ntmps19
    go_wp2_with (go_at_call 83; refine (isBody_any ao cap xs _ HR.out hl2 HS2.out).mono ?_; rintro e w1 ⟨rfl, rfl⟩; rw [HB.out])
    go_ret
    exact ⟨ret_i hm.out.symm, Below.refl _ _⟩
  · have hm : Hid (hopsOfB xs = hopsN xs) := Lib.hid (by unfold hopsOfB; rw [hb]; rfl)
    have HB := Lib.hid hb
    clear hb
    go_enter Tryd.func19, Tryd.ntmps19
    go_wp2_with (go_at_call 83; refine (isBody_any ao cap xs _ HR.out hl2 HS2.out).mono ?_; rintro e w1 ⟨rfl, rfl⟩; rw [HB.out])
    go_loopw [3] (fun i wr => ∃ k : Nat, k ≤ xs.length ∧ i = .int .i64 k ∧ Hid ((xs.take k).all hopB = true) ∧ Below w.heap.size w wr) (fun i _ => xs.length - (intOf i).toNat)
    case atStart => exact ⟨0, Nat.zero_le _, rfl, Lib.hid (by simp), Below.refl _ _⟩
    case round =>
      obtain ⟨k, hk, rfl, H, hb⟩ := hrel
      by_cases hlt : k < xs.length
      · obtain ⟨x, hx⟩ : ∃ x, xs[k]? = some x := ⟨_, List.getElem?_eq_getElem hlt⟩
        obtain ⟨q, off, rfl, hcell⟩ := (HR.out.below hb (Nat.le_refl _)) k x hx
        have hxs := HS.out x (List.mem_of_getElem? hx)
        have hmr := Lib.hid (HM.out.below hb (Nat.le_refl _))
        have HX := Lib.hid hx
        clear hx
        cases hd : hopB x
        · have hq : Hid (hopsN xs = k) := Lib.hid (hopsN_at xs k H.out (.inr ⟨x, HX.out, hd⟩))
          have HD := Lib.hid hd
          clear hd
          go_wp2_with (go_at_call 84; refine (isHop_any x _ hmr.out (by omega)).mono ?_; rintro e w1 ⟨rfl, hb1⟩; rw [HD.out])
          go_ret
          exact ⟨ret_i (by rw [hm.out, hq.out]), hb.trans (hb1.mono hb.size)⟩
        · have HD := Lib.hid hd
          clear hd
          go_wp2_with (go_at_call 84; refine (isHop_any x _ hmr.out (by omega)).mono ?_; rintro e w1 ⟨rfl, hb1⟩; rw [HD.out])
          go_roundw
          case rel => exact ⟨k + 1, by omega, by go_num, Lib.hid (list_all_succ HX.out H.out HD.out), hb.trans (hb1.mono hb.size)⟩
          case measure => simp [intOf]; omega
      · have hq : Hid (hopsN xs = k) := Lib.hid (hopsN_at xs k H.out (.inl (by omega)))
        go_wp2
        go_ret
        exact ⟨ret_i (by rw [hm.out, hq.out]), hb⟩
end Go.Proofs.YtecjifbckjclfaaDoor
