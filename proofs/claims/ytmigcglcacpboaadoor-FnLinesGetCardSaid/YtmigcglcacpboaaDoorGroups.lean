/- Contracts: the iterator over the groups of bytes of a text. -/
import Derived.RangeFuncNested
import Derived.RangeFuncBound
import Derived.RangeFuncCalls
import Derived.RangeFuncLeaves
import Derived.RangeFuncBox
import Derived.Shelf.Abstract
import Derived.Shelf.RegionOpen
import Derived.WalkKit
import Derived.OwnWalkIn
import Derived.TacticsInMore
import Derived.LoopNIn
import Derived.LoopIn
import Derived.Maps.AppendAt
import Derived.RangeFuncWrites
import Derived.RangeFuncFrom
import Derived.Lib.Hide
import Derived.Test.YtmigcglcacpboaaDoorProg
import Derived.Test.YtmigcglcacpboaaDoorPlainFigs
namespace Go.Proofs.YtmigcglcacpboaaDoor
open Go Go.RowKit Go.Shelf
attribute [local go_sem] Oper.semAt_some

/-- A group of bytes: not empty, not longer than the size. -/
abbrev Piece (m : Nat) := { x : ByteArray // 1 ≤ x.size ∧ x.size ≤ m }
/-- A cell that a round leaves as it is. -/
def KeepsCell (B : Nat) (W W' : World) : Prop := ∀ v, W.cell? ⟨B, 0, none⟩ = some v → W'.cell? ⟨B, 0, none⟩ = some v
theorem keepsCell_t {B : Nat} {X Y Z : World} (h : KeepsCell B X Y) (k : KeepsCell B Y Z) : KeepsCell B X Z := fun v hv => k v (h v hv)
theorem keepsCell_b {B n : Nat} (W : World) (l : Nat) (o o' : Obj) (_ : n ≤ l) (h : W.heap[l]? = some o) (hc : o.isCells = false) (_ : o.isWalk = false) : KeepsCell B W (W.putObj l o') := by
  intro v hv
  have hne : B ≠ l := by
    rintro rfl
    unfold World.cell? at hv
    rw [h] at hv
    cases o <;> simp [Obj.isCells] at hc hv
  have hlt := World.block_lt_of_cell? W _ hv
  have e := (grownBy_putObj' W l o').block B hlt (fun e => hne (Option.some.inj e))
  unfold World.cell? at hv ⊢
  rw [e]; exact hv
theorem KeepsCell.of_below {B C : Nat} {W W' : World} (h : Below C W W') (hC : W.heap.size ≤ C) : KeepsCell B W W' := fun _ hv => (h.cell (Nat.lt_of_lt_of_le (World.block_lt_of_cell? W _ hv) hC)).trans hv
theorem KeepsCell.of_box {B : Nat} {W W' : World} {t : TypeId} {v : Value} (h : Boxed W B t v) (h' : Boxed W' B t v) : KeepsCell B W W' := fun u hu => by
  rw [h.cell] at hu; rw [← Option.some.inj hu]; exact h'.cell
def sizeOfP : Value → Nat
  | .string s => s.size
  | _ => 0
def datas {m : Nat} (pre : List (Piece m)) : List (List UInt8) := pre.map fun x => x.val.data.toList
theorem datas_snoc {m : Nat} (pre : List (Piece m)) (x : Piece m) : datas (pre ++ [x]) = datas pre ++ [x.val.data.toList] := by simp [datas]
/-- The groups so far, and what is left. -/
def GroupInv (m : Nat) (s : ByteArray) (fr : Nat) (D : List (List UInt8)) : Prop := chunks m s.data.toList = D ++ chunks m (s.data.toList.drop fr) ∧ D.length ≤ fr
theorem group_start (m : Nat) (s : ByteArray) : GroupInv m s 0 [] := ⟨rfl, Nat.le_refl _⟩
theorem extract_data (s : ByteArray) (a b : Nat) : (s.extract a b).data.toList = (s.data.toList.drop a).take (b - a) := by
  rw [ByteArray.data_extract, Array.toList_extract, List.extract_eq_take_drop]
theorem group_step {m : Nat} {s : ByteArray} {fr n : Nat} {D : List (List UInt8)} (h : GroupInv m s fr D) (hm : 0 < m) (hlt : fr < s.size) (hn : n = min m (s.size - fr)) : GroupInv m s (fr + n) (D ++ [(s.extract fr (fr + n)).data.toList]) := by
  obtain ⟨h1, h2⟩ := h
  have hl : s.data.toList.length = s.size := by simp
  have h0 : s.data.toList.drop fr ≠ [] := by
    intro e
    have := congrArg List.length e
    rw [List.length_drop, List.length_nil] at this; omega
  refine ⟨?_, by rw [List.length_append, List.length_singleton]; omega⟩
  rw [h1, chunks_step hm h0, List.append_assoc, extract_data, show fr + n - fr = n by omega]
  have e1 : (s.data.toList.drop fr).take m = (s.data.toList.drop fr).take n := by
    by_cases hc : m ≤ s.size - fr
    · rw [show n = m by omega]
    · rw [List.take_of_length_le (by rw [List.length_drop]; omega), List.take_of_length_le (by rw [List.length_drop]; omega)]
  have e2 : (s.data.toList.drop fr).drop m = s.data.toList.drop (fr + n) := by
    by_cases hc : m ≤ s.size - fr
    · rw [show n = m by omega, List.drop_drop]
    · rw [List.drop_of_length_le (by rw [List.length_drop]; omega), List.drop_of_length_le (by omega)]
  rw [e1, e2]
  rfl
theorem group_end {m : Nat} {s : ByteArray} {fr : Nat} {D : List (List UInt8)} (h : GroupInv m s fr D) (hi : s.size ≤ fr) : D = chunks m s.data.toList := by
  rw [h.1, List.drop_of_length_le (by simpa using hi), chunks_nil, List.append_nil]

set_option maxRecDepth 100000 in
set_option maxHeartbeats 2000000 in
theorem groups_in (l Bs Bz m : Nat) (s : ByteArray) (hm : 0 < m) (hm2 : m ≤ 1000) (J Jx : List (Piece m) → World → Prop)
    (hY : ∀ pre x W, J pre W → pre.length < s.size → YieldAt Fence.wide 3 Tryd.prog l #[.string (Subtype.val x)] W fun e W' =>
      (e = .returned (.bool true) ∧ J (pre ++ [x]) W' ∧ KeepsCell Bz W W') ∨ (e = .returned (.bool false) ∧ Jx (pre ++ [x]) W'))
    (W : World) (hcs : W.cell? ⟨Bs, 0, none⟩ = some (.string s)) (hcz : W.cell? ⟨Bz, 0, none⟩ = some (.int .i64 m)) (h0 : J [] W) :
    CallsIn Fence.wide 4 Tryd.prog 50 #[.func (.yield l) #[] #[], .pointer (some ⟨Bs, 0, none⟩), .pointer (some ⟨Bz, 0, none⟩)] W fun e W' => (∃ v, e = .returned v) ∧
      ((∃ ys : List (Piece m), datas ys = chunks m s.data.toList ∧ J ys W') ∨ (∃ pre : List (Piece m), True ∧ Jx pre W')) := by
  refine callsIn_of_wp Tryd.func50 rfl trivial ?_ rfl
  simp only [Tryd.ntmps50, List.size_toArray, List.length_cons, List.length_nil, Nat.reduceAdd, Nat.reduceSub, Array.replicate_succ, Array.replicate_zero, List.push_toArray, List.append_toArray, List.nil_append, List.cons_append]
  have HY := Lib.hid hY
  clear hY
  gi_wp2
  gi_loopw [4] (fun p wr => ∃ (fr : Nat) (pre : List (Piece m)), p = .string (s.extract fr s.size) ∧ fr ≤ s.size ∧ Hid (GroupInv m s fr (datas pre)) ∧ Hid (J pre wr) ∧ Hid (wr.cell? ⟨Bz, 0, none⟩ = some (.int .i64 m)))
    (fun p _ => sizeOfP p)
  case atStart =>
    exact ⟨0, [], by rw [ByteArray.extract_zero_size], Nat.zero_le _, Lib.hid (group_start m s), Lib.hid h0, Lib.hid hcz⟩
  case round =>
    obtain ⟨fr, pre, rfl, hfr, HL, HJ, HZ⟩ := hrel
    have hz : (s.extract fr s.size).size = s.size - fr := by rw [ByteArray.size_extract]; omega
    obtain ⟨r, hr⟩ : ∃ r, r = s.extract fr s.size := ⟨_, rfl⟩
    rw [← hr] at hz ⊢
    have HR := Lib.hid hr
    clear hcs hcz hr
    have hcz := HZ.out
    by_cases hlt : fr < s.size
    · have hne : ¬ r.toList = [] := by
        rw [Lib.toList_data]; intro e
        have := congrArg List.length e
        rw [← Lib.size_eq, List.length_nil] at this; omega
      have hne2 : (!r.toList.isEmpty) = true := by simpa [List.isEmpty_iff] using hne
      have hpl : pre.length < s.size := by
        have h1 := HL.out.2
        have h2 : (datas pre).length = pre.length := by unfold datas; rw [List.length_map]
        omega
      have HZS := Lib.hid hz
      have key : ∀ n, n = min m (s.size - fr) → Hid (GroupInv m s (fr + n) (datas pre ++ [(s.extract fr (fr + n)).data.toList])) ∧ (1 ≤ (s.extract fr (fr + n)).size ∧ (s.extract fr (fr + n)).size ≤ m) ∧ r.extract 0 n = s.extract fr (fr + n) ∧ Hid (r.extract n r.size = s.extract (fr + n) s.size) := fun n hn =>
        ⟨Lib.hid (group_step HL.out hm hlt hn), by rw [ByteArray.size_extract]; omega, by rw [HR.out, ByteArray.extract_extract]; congr 1; omega, Lib.hid (by rw [HZS.out, HR.out, ByteArray.extract_extract]; congr 1; omega)⟩
      obtain ⟨R, hR0⟩ : ∃ R, R = s.size - fr := ⟨_, rfl⟩
      have HR0 := Lib.hid hR0
      rw [← hR0] at hz key
      clear hR0
      by_cases hc : m ≤ R
      · obtain ⟨HL2, hps, e1, E2⟩ := key m (by omega)
        obtain ⟨fn, tmps, assign, body, hy, hR⟩ := HY.out pre ⟨s.extract fr (fr + m), hps⟩ _ HJ.out hpl
        dsimp only at hy
        rw [← e1] at hy
        have hc2 : (m : Int) ≤ (R : Int) := by omega
        clear key e1
        gi_wp2
        refine hR.mono ?_
        rintro e W3 (⟨rfl, hJ3, hk3⟩ | ⟨rfl, hJx3⟩)
        · have HZ3 := Lib.hid (hk3 _ hcz)
          have HJ3 := Lib.hid hJ3
          clear hJ3 hk3
          gi_wp2
          go_roundw
          case rel => exact ⟨fr + m, pre ++ [⟨s.extract fr (fr + m), hps⟩], by rw [← hz, E2.out], by have := HR0.out; omega, Lib.hid (by rw [datas_snoc]; exact HL2.out), HJ3, HZ3⟩
          case measure =>
            show (r.extract m R).size < r.size
            rw [ByteArray.size_extract]; have := HR0.out; omega
        · gi_wp2
          refine bodyPost_ret (results_none rfl _ _ _) rfl ?_
          exact ⟨⟨_, rfl⟩, .inr ⟨_, trivial, hJx3⟩⟩
      · obtain ⟨HL2, hps, e1, E2⟩ := key R (by omega)
        obtain ⟨fn, tmps, assign, body, hy, hR⟩ := HY.out pre ⟨s.extract fr (fr + R), hps⟩ _ HJ.out hpl
        dsimp only at hy
        rw [← e1] at hy
        have hc2 : ¬ (m : Int) ≤ (R : Int) := by omega
        have hc3 : (R : Int) < (m : Int) := by omega
        clear key e1
        gi_wp2
        refine hR.mono ?_
        rintro e W3 (⟨rfl, hJ3, hk3⟩ | ⟨rfl, hJx3⟩)
        · have HZ3 := Lib.hid (hk3 _ hcz)
          have HJ3 := Lib.hid hJ3
          clear hJ3 hk3
          gi_wp2
          go_roundw
          case rel => exact ⟨fr + R, pre ++ [⟨s.extract fr (fr + R), hps⟩], by rw [show fr + R = s.size by have := HR0.out; omega]; simp, by have := HR0.out; omega, Lib.hid (by rw [datas_snoc]; exact HL2.out), HJ3, HZ3⟩
          case measure =>
            show 0 < r.size
            have := HR0.out; omega
        · gi_wp2
          refine bodyPost_ret (results_none rfl _ _ _) rfl ?_
          exact ⟨⟨_, rfl⟩, .inr ⟨_, trivial, hJx3⟩⟩
    · have he : r.toList = [] := by
        rw [Lib.toList_data]
        exact List.eq_nil_of_length_eq_zero (by rw [← Lib.size_eq]; omega)
      have he2 : (!r.toList.isEmpty) = false := by simpa [List.isEmpty_iff] using he
      have HE := Lib.hid (group_end HL.out (by omega))
      gi_wp2
      go_end0
      exact ⟨⟨_, rfl⟩, .inl ⟨pre, HE.out, HJ.out⟩⟩

theorem enters_groups : ∀ args w, (callFunc 50 args).run Tryd.prog w = .ok (.enter 50 args) w := enters_of Tryd.func50 (by kernel_rfl) rfl
theorem groups_any (s : ByteArray) (m : Nat) (w : World) :
    Calls Tryd.prog 32 #[.string s, .int .i64 m] w fun e w' => e = .returned (.func (.func 50) #[] #[.pointer (some ⟨w.heap.size, 0, none⟩), .pointer (some ⟨w.heap.size + 1, 0, none⟩)]) ∧ w' = (w.alloc (.cells #[.string s] 9)).alloc (.cells #[.int .i64 m] 3) := by
  go_enter Tryd.func32, Tryd.ntmps32
  go_wp2
  go_ret
  exact ⟨rfl, rfl⟩
theorem groups_stops (Bs Bz m : Nat) (s : ByteArray) (hm : 0 < m) (hm2 : m ≤ 1000) (w : World) (hws : Bs < w.heap.size) (hwz : Bz < w.heap.size) (hcs : w.cell? ⟨Bs, 0, none⟩ = some (.string s)) (hcz : w.cell? ⟨Bz, 0, none⟩ = some (.int .i64 m)) :
    SeqStopsK Fence.wide 4 Tryd.prog 50 #[.pointer (some ⟨Bs, 0, none⟩), .pointer (some ⟨Bz, 0, none⟩)] (fun x : Piece m => #[Value.string x.val]) (KeepsCell Bz) (fun ys => datas ys = chunks m s.data.toList) (fun _ => True) s.size w := fun l J Jx W hW _ _ hY h0 =>
  groups_in l Bs Bz m s hm hm2 J Jx hY W ((hW.cell (p := ⟨Bs, 0, none⟩) hws).trans hcs) ((hW.cell (p := ⟨Bz, 0, none⟩) hwz).trans hcz) h0
end Go.Proofs.YtmigcglcacpboaaDoor
