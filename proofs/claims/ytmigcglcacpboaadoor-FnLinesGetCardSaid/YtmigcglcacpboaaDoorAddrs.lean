/- Word, Cut, Ends, Addr, AddrPut. -/
import Derived.Test.YtmigcglcacpboaaDoorProg
import Derived.Test.YtmigcglcacpboaaDoorPlains
import Derived.WalkKit
import Derived.Lib.Hide
import Derived.Outline
import Derived.Test.YtmigcglcacpboaaDoorShelf
import Derived.Maps.AppendAt
import Derived.WalkSpells
import Derived.WalkLawsBesides
namespace Go.Proofs.YtmigcglcacpboaaDoor
open Go Go.RowKit

theorem ret_b {a b : Bool} (h : a = b) : Ending.returned (.bool a) = .returned (.bool b) := by rw [h]

theorem isLabelByte_is (b : UInt8) (v : Bool) (h : chB b = v) (w : World) :
    Calls Tryd.prog 83 #[.int .u8 b.toNat] w fun e w' => e = .returned (.bool v) ∧ w = w' := by
  rcases (show ((b.toNat : Int) < 48) ∨ ((48 : Int) ≤ b.toNat ∧ (b.toNat : Int) ≤ 57) ∨ ((57 : Int) < b.toNat ∧ (b.toNat : Int) < 97) ∨ ((97 : Int) ≤ b.toNat ∧ (b.toNat : Int) ≤ 122) ∨ ((122 : Int) < b.toNat) by omega) with g | ⟨g, g'⟩ | ⟨g, g'⟩ | ⟨g, g'⟩ | g
  · obtain rfl : v = false := h.symm.trans (chB_false (by omega))
    clear h
    go_enter Tryd.func83, Tryd.ntmps83
    go_wp2
    go_ret
    exact ⟨rfl, rfl⟩
  · obtain rfl : v = true := h.symm.trans (chB_true (by omega))
    clear h
    go_enter Tryd.func83, Tryd.ntmps83
    go_wp2
    go_ret
    exact ⟨rfl, rfl⟩
  · obtain rfl : v = false := h.symm.trans (chB_false (by omega))
    clear h
    have d1 : decide ((b.toNat : Int) ≤ 57) = false := decide_eq_false (by omega)
    go_enter Tryd.func83, Tryd.ntmps83
    go_wp2
    go_ret
    exact ⟨rfl, rfl⟩
  · obtain rfl : v = true := h.symm.trans (chB_true (by omega))
    clear h
    go_enter Tryd.func83, Tryd.ntmps83
    go_wp2
    go_ret
    exact ⟨rfl, rfl⟩
  · obtain rfl : v = false := h.symm.trans (chB_false (by omega))
    clear h
    have d1 : decide ((b.toNat : Int) ≤ 57) = false := decide_eq_false (by omega)
    have d2 : decide ((b.toNat : Int) ≤ 122) = false := decide_eq_false (by omega)
    go_enter Tryd.func83, Tryd.ntmps83
    go_wp2
    go_ret
    exact ⟨rfl, rfl⟩

set_option maxHeartbeats 400000 in
theorem isLabel_any (s : ByteArray) (w : World) (hs : s.size ≤ maxLen) :
    Calls Tryd.prog 73 #[.string s] w fun e w' => e = .returned (.bool (wordB s)) ∧ w = w' := by
  unfold maxLen at hs
  rcases (show s.size < 1 ∨ (1 ≤ s.size ∧ s.size ≤ 8) ∨ 8 < s.size by omega) with h | ⟨h, h'⟩ | h
  · have hm : Hid (wordB s = false) := Lib.hid (wordB_size (by omega))
    go_enter Tryd.func73, Tryd.ntmps73
    go_wp2
    go_ret
    exact ⟨ret_b hm.out.symm, rfl⟩
  · go_enter Tryd.func73, Tryd.ntmps73
    go_wp2
    go_loop [14] (fun i => ∃ k : Nat, k ≤ s.size ∧ i = .int .i64 k ∧ Hid ((s.data.toList.take k).all chB = true)) (fun i => s.size - (intOf i).toNat)
    case atStart => exact ⟨0, Nat.zero_le _, rfl, Lib.hid (by simp)⟩
    case round =>
      obtain ⟨k, hk, rfl, H⟩ := hrel
      by_cases hlt : k < s.size
      · cases hc : chB s[k]
        · have hm : Hid (wordB s = false) := Lib.hid (wordB_miss hlt hc)
          have HC := Lib.hid hc
          clear hc
          go_wp2_with (go_at_call 83; refine (isLabelByte_is _ false HC.out _).mono ?_; rintro e w' ⟨rfl, rfl⟩)
          go_ret
          exact ⟨ret_b hm.out.symm, rfl⟩
        · have HC := Lib.hid hc
          clear hc
          go_wp2_with (go_at_call 83; refine (isLabelByte_is _ true HC.out _).mono ?_; rintro e w' ⟨rfl, rfl⟩)
          go_round
          case rel => exact ⟨k + 1, by omega, by go_num, Lib.hid (all_take_succ hlt H.out HC.out)⟩
          case measure => simp [intOf]; omega
      · have hm : Hid (wordB s = true) := Lib.hid ((wordB_end (by omega) H.out).trans (inB_true (by omega)))
        go_wp2
        go_ret
        exact ⟨ret_b hm.out.symm, rfl⟩
  · have hm : Hid (wordB s = false) := Lib.hid (wordB_size (by omega))
    go_enter Tryd.func73, Tryd.ntmps73
    go_wp2
    go_ret
    exact ⟨ret_b hm.out.symm, rfl⟩
end Go.Proofs.YtmigcglcacpboaaDoor
namespace Go.Proofs.YtmigcglcacpboaaDoor
open Go Go.RowKit

theorem infoStr : (Tryd.prog.info? 9).map (fun i => (i.zero, i.size, i.bytes)) = some (some (.string ByteArray.empty), 1, 16) := by kernel_rfl

theorem own_shape {w : World} {base : Nat} {e : TypeId} {size : Nat} {v : Value} {n : Nat} {xs : List Value} (h : w.ownsRow base e size v n xs) : ∃ ao cap, v = .slice ao n cap := by
  rcases h.2 with ⟨h', rfl⟩ | ⟨g, cap, cur, h', _⟩
  · exact ⟨_, _, h'⟩
  · exact ⟨_, _, h'⟩

/-- Behind an append onto a row of the call's own: what lay below is as it was. -/
theorem app_below {B : Nat} {w wr w1 : World} {e : TypeId} {size : Nat} {v : Value} {n : Nat} {xs : List Value} {o : Obj} (hbel : Below B w wr) (hB : B ≤ wr.heap.size) (hown : wr.ownsRow B e size v n xs) (hg : (wr.alloc o).grownBy w1 v.ownBlock) : Below B w w1 :=
  (hbel.alloc hB o).grown hg (by simp; omega) (fun j hj => (hown.lt j hj).1)

theorem own_snoc {w : World} {B e : Nat} {v : Value} {D : List ByteArray} {x : ByteArray} (h : w.ownsRow B e 1 v (D.length + 1) (D.map Value.string ++ [.string x])) : w.ownsRow B e 1 v (D ++ [x]).length ((D ++ [x]).map Value.string) := by
  simpa using h

def RowPost (w : World) (xs : List ByteArray) (e : Ending) (w' : World) : Prop :=
  ∃ v, e = .returned v ∧ w'.ownsRow w.heap.size 9 1 v xs.length (xs.map Value.string) ∧ Below w.heap.size w w'

theorem own_cell {w : World} {base : Nat} {e : TypeId} {g n cap : Nat} {xs : List ByteArray} (h : w.ownsRow base e 1 (.slice (some ⟨g, 0, none⟩) n cap) n (xs.map Value.string)) {k : Nat} {x : ByteArray} (hk : k < n) (hx : xs[k]? = some x) : w.cell? ⟨g, k, none⟩ = some (.string x) := by
  rw [h.cellAt k (by omega), List.getElem?_map, hx]; rfl

theorem own_pos {w : World} {base : Nat} {e : TypeId} {size : Nat} {v : Value} {n : Nat} {xs : List Value} (h : w.ownsRow base e size v n xs) (h0 : 0 < n) : ∃ g cap, v = .slice (some ⟨g, 0, none⟩) n cap := by
  rcases h.2 with ⟨_, e⟩ | ⟨g, cap, _, rfl, _⟩
  · omega
  · exact ⟨g, cap, rfl⟩

/-- strings.SplitN at a point, four pieces at most. -/
theorem splitN_dot (s : ByteArray) (w : World) (m : Int) (hm : w.cell? ⟨1, 0, none⟩ = some (.int .i64 m)) (hs : s.size < 4294967281) :
    Calls Tryd.prog 88 #[.string s, .string ⟨#[46]⟩, .int .i64 4] w fun e w' => ∃ g cap, e = .returned (.slice (some ⟨g, 0, none⟩) (piecesB 46 3 s).length cap) ∧
      Below w.heap.size w w' ∧ ∀ k x, k < (piecesB 46 3 s).length → (piecesB 46 3 s)[k]? = some x → w'.cell? ⟨g, k, none⟩ = some (.string x) := by
  refine (Tryd.strings_SplitN s (sep1 46) 4 m w hs hm (Nat.le_refl _) (by omega) (by omega)).mono ?_
  rintro e w' ⟨rfl, rfl⟩
  rw [pieces_min 46 3 s]
  refine ⟨_, _, rfl, (Below.refl _ _).alloc (Nat.le_refl _) _, fun k x hk hx => ?_⟩
  rw [World.cell?_alloc_at _ _ _ _ rfl]
  unfold Lib.cellsOf
  rw [List.getElem?_toArray, List.getElem?_append_left (by simpa using hk), List.getElem?_map, hx]
  rfl

theorem valid_any (s : ByteArray) (w : World) (m : Int) (hm : w.cell? ⟨1, 0, none⟩ = some (.int .i64 m)) (hs : s.size < 4294967281) :
    Calls Tryd.prog 84 #[.string s] w fun e w' => e = .returned (.bool (domB s)) ∧ Below w.heap.size w w' := by
  have hlen := pieces_length 46 3 s
  have hpos := pieces_pos 46 3 s
  by_cases h3 : 3 < (piecesB 46 3 s).length
  · have hm1 : Hid (domB s = false) := Lib.hid (domB_many h3)
    go_enter Tryd.func84, Tryd.ntmps84
    go_wp2_with (go_at_call 88; refine (splitN_dot s _ m hm hs).mono ?_; rintro e w' ⟨g, cap, rfl, hbel, hcells⟩; clear hcells)
    go_ret
    exact ⟨ret_b hm1.out.symm, hbel⟩
  · go_enter Tryd.func84, Tryd.ntmps84
    go_wp2_with (go_at_call 88; refine (splitN_dot s _ m hm hs).mono ?_; rintro e w' ⟨g, cap, rfl, hbel, hcells'⟩; have hcells := Lib.hid hcells'; clear hcells')
    go_loop [13] (fun i => ∃ k : Nat, k ≤ (piecesB 46 3 s).length ∧ i = .int .i64 k ∧ Hid (((piecesB 46 3 s).take k).all wordB = true)) (fun i => (piecesB 46 3 s).length - (intOf i).toNat)
    case atStart => exact ⟨0, Nat.zero_le _, rfl, Lib.hid (by simp)⟩
    case round =>
      obtain ⟨k, hk, rfl, H⟩ := hrel
      by_cases hlt : k < (piecesB 46 3 s).length
      · obtain ⟨x, hx⟩ : ∃ x, (piecesB 46 3 s)[k]? = some x := ⟨_, List.getElem?_eq_getElem hlt⟩
        have hcell := hcells.out k x hlt hx
        have hxs := pieces_size 46 3 s x (List.mem_of_getElem? hx)
        have HX := Lib.hid hx
        clear hx
        cases hc : wordB x
        · have hm1 : Hid (domB s = false) := Lib.hid (domB_miss HX.out hc)
          have HC := Lib.hid hc
          clear hc
          go_wp2_with (go_at_call 73; refine (isLabel_any x _ (by unfold maxLen; omega)).mono ?_; rintro e w1 ⟨rfl, rfl⟩; rw [HC.out])
          go_ret
          exact ⟨ret_b hm1.out.symm, hbel⟩
        · have HC := Lib.hid hc
          clear hc
          go_wp2_with (go_at_call 73; refine (isLabel_any x _ (by unfold maxLen; omega)).mono ?_; rintro e w1 ⟨rfl, rfl⟩; rw [HC.out])
          go_round
          case rel => exact ⟨k + 1, by omega, by go_num, Lib.hid (list_all_succ HX.out H.out HC.out)⟩
          case measure => simp [intOf]; omega
      · have hm1 : Hid (domB s = true) := Lib.hid ((domB_end (by omega) H.out).trans (decide_eq_true (by omega)))
        go_wp2
        go_ret
        exact ⟨ret_b hm1.out.symm, hbel⟩

theorem implDomainOk_any (s : ByteArray) (w : World) (m : Int) (hm : w.cell? ⟨1, 0, none⟩ = some (.int .i64 m)) (hs : s.size < 4294967281) :
    Calls Tryd.prog 74 #[.string s] w fun e w' => e = .returned (.bool (domB s)) ∧ Below w.heap.size w w' := by
  go_enter Tryd.func74, Tryd.ntmps74
  go_wp2_with (go_at_call 84; refine (valid_any s _ m hm hs).mono ?_; rintro e w1 ⟨rfl, hbel⟩)
  go_ret
  exact ⟨rfl, hbel⟩

end Go.Proofs.YtmigcglcacpboaaDoor
namespace Go.Proofs.YtmigcglcacpboaaDoor
open Go Go.RowKit

/-- bytealg.MaxLen holds an int. -/
def HasMax (w : World) : Prop := ∃ m : Int, w.cell? ⟨1, 0, none⟩ = some (.int .i64 m)
theorem HasMax.below {B : Nat} {w w' : World} (h : HasMax w) (hb : Below B w w') (hB : w.heap.size ≤ B) : HasMax w' := by
  obtain ⟨m, hm⟩ := h
  have := World.block_lt_of_cell? w _ hm
  exact ⟨m, (hb.cell (p := ⟨1, 0, none⟩) (by simp at this ⊢; omega)).trans hm⟩

theorem implDomainOk_max (s : ByteArray) (w : World) (hm : HasMax w) (hs : s.size < 4294967281) :
    Calls Tryd.prog 74 #[.string s] w fun e w' => e = .returned (.bool (domB s)) ∧ Below w.heap.size w w' := by
  obtain ⟨m, hm⟩ := hm
  exact implDomainOk_any s w m hm hs

end Go.Proofs.YtmigcglcacpboaaDoor
namespace Go.Proofs.YtmigcglcacpboaaDoor
open Go Go.RowKit

theorem ret_s {a b : ByteArray} (h : a = b) : Ending.returned (.string a) = .returned (.string b) := by rw [h]
theorem ret_i {a b : Int} (h : a = b) : Ending.returned (.int .i64 a) = .returned (.int .i64 b) := by rw [h]

theorem isNull_is (u d : ByteArray) (v : Bool) (hv : nullB u d = v) (w : World) :
    Calls Tryd.prog 61 #[.agg #[.string u, .string d]] w fun e w' => e = .returned (.bool v) ∧ Below w.heap.size w w' := by
  cases v
  · rcases nullB_false hv with hu | ⟨hu, hd⟩
    · clear hv
      go_enter Tryd.func61, Tryd.ntmps61
      go_wp2
      go_ret
      exact ⟨rfl, (Below.refl _ _).alloc (Nat.le_refl _) _⟩
    · clear hv
      go_enter Tryd.func61, Tryd.ntmps61
      go_wp2
      go_ret
      exact ⟨rfl, (Below.refl _ _).alloc (Nat.le_refl _) _⟩
  · obtain ⟨hu, hd⟩ := nullB_true hv
    clear hv
    go_enter Tryd.func61, Tryd.ntmps61
    go_wp2
    go_ret
    exact ⟨rfl, (Below.refl _ _).alloc (Nat.le_refl _) _⟩

theorem implAddrOk_any (u d : ByteArray) (w : World) (hm : HasMax w) (hu : u.size < 4294967281) (hd : d.size < 4294967281) :
    Calls Tryd.prog 62 #[.agg #[.string u, .string d]] w fun e w' => e = .returned (.bool (addrB u d)) ∧ Below w.heap.size w w' := by
  have hm1 := hm.below ((Below.refl w.heap.size w).alloc (Nat.le_refl _) (.cells #[.string u, .string d] 33)) (Nat.le_refl _)
  have HM := Lib.hid hm1
  clear hm hm1
  cases h1 : wordB u
  · have hq : Hid (addrB u d = false) := Lib.hid (by unfold addrB; rw [h1]; rfl)
    have H1 := Lib.hid h1
    clear h1
    go_enter Tryd.func62, Tryd.ntmps62
    go_wp2_with (go_at_call 73; refine (isLabel_any u _ (by unfold maxLen; omega)).mono ?_; rintro e w1 ⟨rfl, rfl⟩; rw [H1.out])
    go_ret
    exact ⟨ret_b hq.out.symm, (Below.refl _ _).alloc (Nat.le_refl _) _⟩
  · have hq : Hid (addrB u d = domB d) := Lib.hid (by unfold addrB; rw [h1]; rfl)
    have H1 := Lib.hid h1
    clear h1
    go_enter Tryd.func62, Tryd.ntmps62
    go_wp2_with (first | (go_at_call 73; refine (isLabel_any u _ (by unfold maxLen; omega)).mono ?_; rintro e w1 ⟨rfl, rfl⟩; rw [H1.out]) | (go_at_call 74; refine (implDomainOk_max d _ HM.out hd).mono ?_; rintro e w2 ⟨rfl, hb2⟩))
    go_ret
    exact ⟨ret_b hq.out.symm, ((Below.refl _ _).alloc (Nat.le_refl _) _).trans (hb2.mono (by simp))⟩

end Go.Proofs.YtmigcglcacpboaaDoor
namespace Go.Proofs.YtmigcglcacpboaaDoor
open Go Go.RowKit

end Go.Proofs.YtmigcglcacpboaaDoor
