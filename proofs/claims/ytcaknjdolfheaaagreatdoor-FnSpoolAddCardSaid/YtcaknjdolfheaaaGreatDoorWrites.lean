/- Build, Dots, DotPut. -/
import Derived.Test.YtcaknjdolfheaaaGreatDoorProg
import Derived.Lib.Builder
import Derived.Lib.AppendStr
import Derived.Lib.UnsafeStr
import Derived.Laws.Externs
import Derived.Lib.Hide
import Derived.Outline
import Derived.WalkKit
import Derived.RegionTactic
import Derived.Test.YtcaknjdolfheaaaGreatDoorPlains
import Derived.Test.YtcaknjdolfheaaaGreatDoorBasis
import Derived.Test.YtcaknjdolfheaaaGreatDoorShelf
namespace Go.Proofs.YtcaknjdolfheaaaGreatDoor
open Go Go.RowKit

theorem sizeBuilder : (Tryz.prog.info? 311).map (·.size) = some 2 := by kernel_rfl
theorem liesBuilder : liesAt Tryz.prog Tryz.prog.depth 313 (2 / Tryz.prog.cellsOf 313) 0 311 1 = true := by kernel_rfl
theorem infoByte : (Tryz.prog.info? 5).map (fun i => (i.zero, i.size, i.bytes)) = some (some (.int .u8 0), 1, 1) := by kernel_rfl
theorem cellsByte : Tryz.prog.cellsOf 5 = 1 := by kernel_rfl

set_option maxRecDepth 100000 in
theorem copyCheck_used (b : Nat) (w : World) (h0 : w.cell? ⟨b, 0, none⟩ = some (.pointer (some ⟨b, 0, none⟩))) :
    Calls Tryz.prog 305 #[.pointer (some ⟨b, 0, none⟩)] w fun e w' => e = .returned (.tuple #[]) ∧ w' = w := by
  obtain ⟨j, hj, _⟩ := Option.map_eq_some_iff.1 sizeBuilder
  go_enter Tryz.func305, Tryz.ntmps305
  go_wp2
  rw [Lib.run_neq_ptr_same w _ Tryz.underlying309 hj]
  go_wp2
  go_end0
  exact ⟨rfl, rfl⟩

set_option maxRecDepth 100000 in
theorem copyCheck_fresh (b : Nat) (w : World) (h0 : w.cell? ⟨b, 0, none⟩ = some (.pointer none)) (hsh : w.shape? b = some (313, 2)) (hfz : w.frozen? ⟨b, 0, none⟩ = false) :
    Calls Tryz.prog 305 #[.pointer (some ⟨b, 0, none⟩)] w fun e w' => e = .returned (.tuple #[]) ∧ w' = w.setCell ⟨b, 0, none⟩ (.pointer (some ⟨b, 0, none⟩)) := by
  obtain ⟨j, hj, hjs⟩ := Option.map_eq_some_iff.1 sizeBuilder
  go_enter Tryz.func305, Tryz.ntmps305
  go_wp2
  rw [Lib.run_to_unsafe w ⟨b, 0, none⟩ Tryz.underlying309 Tryz.underlying317 hj (by rw [hjs]; decide) hsh (Nat.zero_lt_succ 1)]
  simp only [Result.andThen]
  rw [Oper.upon_value]
  go_wp2
  rw [run_callFunc_extern Tryz.func306 (by kernel_rfl) (by kernel_rfl) (by kernel_rfl) (e := Extern.AbiNoEscape.same) (by kernel_rfl)]
  rw [Lib.run_noEscape]
  simp only [Result.andThen]
  rw [Oper.upon_value]
  go_wp2
  rw [Lib.run_from_unsafe w ⟨b, 0, none⟩ Tryz.underlying317 Tryz.underlying309 hj hsh liesBuilder]
  simp only [Result.andThen]
  rw [Oper.upon_value]
  go_wp2
  go_end0
  exact ⟨rfl, rfl⟩

/-- The writer in block b holds the bytes l; what is its own lies from block B on. -/
def Holds (B b : Nat) (l : List UInt8) (w : World) : Prop := Lib.IsBuilder 313 5 B b (Lib.byteCells l) w

theorem copyCheck_any (B b : Nat) (l : List UInt8) (w : World) (h : Holds B b l w) :
    Calls Tryz.prog 305 #[.pointer (some ⟨b, 0, none⟩)] w fun e w' => e = .returned (.tuple #[]) ∧ (Lib.BuilderAt 313 5 B b (.pointer (some ⟨b, 0, none⟩)) (Lib.byteCells l) w' ∧ Below B w w') := by
  rcases h with h | h
  · refine (copyCheck_fresh b w h.cell0 h.shape h.frozen0).mono ?_
    rintro e w' ⟨rfl, rfl⟩
    exact ⟨rfl, h.used _, (Below.refl B w).setCell (p := ⟨b, 0, none⟩) h.1 _⟩
  · refine (copyCheck_used b w h.cell0).mono ?_
    rintro e w' ⟨rfl, rfl⟩
    exact ⟨rfl, h, Below.refl B _⟩

set_option maxHeartbeats 1000000 in
theorem writeString_any (B b : Nat) (l : List UInt8) (s : ByteArray) (w : World) (h : Holds B b l w) (hlen : l.length + s.size ≤ 140737488355328) (hBw : B ≤ w.heap.size) :
    Calls Tryz.prog 304 #[.pointer (some ⟨b, 0, none⟩), .string s] w fun e w' => e = .returned (.tuple #[.int .i64 s.size, .nilIface]) ∧ (Holds B b (l ++ s.data.toList) w' ∧ Below B w w') := by
  obtain ⟨i0, hi, hz0, hz1, hz2⟩ := info_parts infoByte
  have hbl := Lib.byteCells_length l
  go_enter Tryz.func304, Tryz.ntmps304
  go_wp2_with (go_at_call 305; refine (copyCheck_any B b l _ h).mono ?_)
  rintro e w1 ⟨rfl, h1, hb1⟩
  obtain ⟨hB, v, hbk, hown, hne⟩ := h1
  have c0 : w1.cell? ⟨b, 0, none⟩ = some (.pointer (some ⟨b, 0, none⟩)) := by rw [Lib.cell_of_heap hbk]; rfl
  have c1 : w1.cell? ⟨b, 1, none⟩ = some v := by rw [Lib.cell_of_heap hbk]; rfl
  go_wp2_with (at_builtin; refine Lib.wpList_append_own_string _ rfl _ _ 22 9 rfl B 5 i0 Tryz.underlying22 Tryz.underlying9 hi hz0 hz1 hz2 _ _ _ rfl hown s rfl ?c3 ?c4 ?c5 ?_)
  case c3 => unfold maxLen; omega
  case c4 => omega
  case c5 => have := hb1.size; omega
  intro v' w2 hown' hgrow _
  have hlt : b < w1.heap.size := by
    rcases Nat.lt_or_ge b w1.heap.size with h' | h'
    · exact h'
    · simp [Array.getElem?_eq_none h'] at hbk
  have hb2 : w2.heap[b]? = some (.cells #[.pointer (some ⟨b, 0, none⟩), v] 313 (0, 0)) := by
    rw [hgrow.block b hlt (fun e => hne e.symm)]
    exact hbk
  have d0 : w2.cell? ⟨b, 0, none⟩ = some (.pointer (some ⟨b, 0, none⟩)) := by rw [Lib.cell_of_heap hb2]; rfl
  have d1 : w2.cell? ⟨b, 1, none⟩ = some v := by rw [Lib.cell_of_heap hb2]; rfl
  have f1 : w2.frozen? ⟨b, 1, none⟩ = false := Lib.frozen_of_heap hb2 1
  obtain ⟨ao, n', cap, rfl⟩ : ∃ ao n' cap, v' = .slice ao n' cap := by
    rcases hown'.2 with ⟨hv, _⟩ | ⟨g, cap, cur, hv, _⟩
    · exact ⟨_, _, _, hv⟩
    · exact ⟨_, _, _, hv⟩
  go_wp2
  go_ret2
  refine ⟨rfl, .inr ?_, ?_⟩
  · exact Lib.BuilderAt.put (T := 313) (e := 5) hB hb2 (bs' := Lib.byteCells (l ++ s.data.toList)) (by rw [Lib.byteCells_append, ← Lib.strCells_eq]; simpa [Lib.strCells_length, Lib.byteCells_length] using hown') (by decide)
  · exact (hb1.grown hgrow (by have := hb1.size; omega) (fun k hk => (hown.lt k hk).1)).setCell (p := ⟨b, 1, none⟩) hB _

set_option maxHeartbeats 400000 in
theorem line_any (B b : Nat) (l : List UInt8) (s : ByteArray) (w : World) (h : Holds B b l w) (hlen : l.length + s.size ≤ 140737488000000) (hBw : B ≤ w.heap.size) :
    Calls Tryz.prog 300 #[.pointer (some ⟨b, 0, none⟩), .string s] w fun e w' => e = .returned (.tuple #[]) ∧ (Holds B b (l ++ s.data.toList ++ [13, 10]) w' ∧ Below B w w') := by
  go_enter Tryz.func300, Tryz.ntmps300
  go_wp2_with fail
  refine (writeString_any B b l s _ h (by omega) hBw).mono ?_
  rintro e w1 ⟨rfl, h1, hb1⟩
  go_wp2_with fail
  refine (writeString_any B b _ { data := #[13, 10] } _ h1 (by rw [List.length_append, show s.data.toList.length = s.size by simp, show ({ data := #[13, 10] } : ByteArray).size = 2 from rfl]; omega) (Nat.le_trans hBw hb1.size)).mono ?_
  rintro e w2 ⟨rfl, h2, hb2⟩
  go_wp2
  go_end0
  exact ⟨rfl, h2, hb1.trans hb2⟩

set_option maxHeartbeats 1000000 in
set_option maxRecDepth 100000 in
theorem string_any (B b : Nat) (l : List UInt8) (w : World) (h : Holds B b l w) (h0 : l ≠ []) :
    Calls Tryz.prog 303 #[.pointer (some ⟨b, 0, none⟩)] w fun e w' => e = .returned (.string ⟨l.toArray⟩) ∧ Below B w w' := by
  obtain ⟨p, hB, v, hbk, hown, hne⟩ : ∃ p, Lib.BuilderAt 313 5 B b p (Lib.byteCells l) w := by
    rcases h with h | h
    · exact ⟨_, h⟩
    · exact ⟨_, h⟩
  have hl0 : l.length ≠ 0 := by simpa using h0
  rw [Lib.byteCells_length] at hown
  obtain ⟨g, cap, cur, rfl, hbg, hg, hnc, hcm, hcs, htake⟩ : ∃ g cap cur, v = .slice (some ⟨g, 0, none⟩) l.length cap ∧ B ≤ g ∧ w.heap[g]? = some (.cells cur 5 (0, 0)) ∧ l.length ≤ cap ∧ cap ≤ maxLen ∧ cur.size = cap * 1 ∧ cur.toList.take (l.length * 1) = Lib.byteCells l := by
    rcases hown.2 with ⟨_, hz⟩ | ⟨g, cap, cur, hv, r⟩
    · exact absurd hz hl0
    · exact ⟨g, cap, cur, hv, r⟩
  have c1 : w.drew.cell? ⟨b, 1, none⟩ = some (.slice (some ⟨g, 0, none⟩) l.length cap) := by
    have : w.drew.heap[b]? = some (.cells #[p, .slice (some ⟨g, 0, none⟩) l.length cap] 313 (0, 0)) := hbk
    rw [Lib.cell_of_heap this]; rfl
  have hSD : (Builtin.unsafeSliceData_ #[22] 285 #[.slice (some ⟨g, 0, none⟩) l.length cap]).run Tryz.prog w.drew = .ok (.pointer (some ⟨g, 0, none⟩)) w.drew :=
    Lib.run_unsafeSliceData_row _ _ _ _ _ _ (by omega)
  have hUS : (Builtin.unsafeString_ #[285, 3] 9 #[.pointer (some ⟨g, 0, none⟩), .int .i64 l.length]).run Tryz.prog w.drew = .ok (.string ⟨l.toArray⟩) (w.drew.freeze ⟨g, 0, none⟩ l.length) := by
    refine Lib.run_unsafeString_row w.drew 285 3 9 5 Tryz.underlying285 cellsByte g cur.size (by have hg' : w.drew.heap[g]? = some (.cells cur 5 (0, 0)) := hg; simp [World.shape?, hg']) l h0 (by omega) (by unfold maxLen at hcm; omega) ?_
    intro j x hx
    have := hown.cells (g := g) rfl j (.int .u8 x.toNat) (by simp [Lib.byteCells, hx])
    exact this
  go_enter Tryz.func303, Tryz.ntmps303
  go_wp2
  go_region
  all_goals (go_wp2; go_ret; exact ⟨rfl, Lib.below_freeze (Below.drew (Below.refl B w)) (p := ⟨g, 0, none⟩) hbg _⟩)
end Go.Proofs.YtcaknjdolfheaaaGreatDoor
namespace Go.Proofs.YtcaknjdolfheaaaGreatDoor
open Go Go.RowKit

theorem ret_st {a b : ByteArray} (h : a = b) : Ending.returned (.string a) = .returned (.string b) := by rw [h]

set_option maxHeartbeats 800000 in
theorem l2Dots_any (ao : Option Addr) (cap : Nat) (xs : List ByteArray) (w : World) (hr : StrRow w ao xs) (hl : xs.length ≤ 12) (hs : ∀ x ∈ xs, x.size ≤ 40) :
    Calls Tryz.prog 193 #[.slice ao xs.length cap] w fun e w' => e = .returned (.string ⟨(dotsAll xs).toArray⟩) ∧ w = w' := by
  have HR := Lib.hid hr
  have HS := Lib.hid hs
  clear hr hs
  go_enter Tryz.func193, Tryz.ntmps193
  go_wp2
  go_loop [3, 4] (fun v i => ∃ (k : Nat) (o : ByteArray), k ≤ xs.length ∧ i = .int .i64 k ∧ v = .string o ∧ o.size ≤ 43 * k ∧ Hid (o.data.toList = dotsL (xs.take k))) (fun _ i => xs.length - (intOf i).toNat)
  case atStart => exact ⟨0, { data := #[] }, Nat.zero_le _, rfl, rfl, Nat.le_refl _, Lib.hid (by simp [dotsL])⟩
  case round =>
    obtain ⟨k, o, hk, rfl, rfl, ho, H⟩ := hrel
    by_cases hlt : k < xs.length
    · obtain ⟨x, hx⟩ : ∃ x, xs[k]? = some x := ⟨_, List.getElem?_eq_getElem hlt⟩
      obtain ⟨b, off, rfl, hcell⟩ := HR.out k x hx
      have hxs := HS.out x (List.mem_of_getElem? hx)
      have HN := Lib.hid (dotsL_snoc hx)
      clear hx
      cases hd : dotted x
      · have HD := Lib.hid (dotLine_no hd)
        rcases dotted_false hd with he | ⟨he, h0, hne⟩
        · clear hd
          go_wp2
          go_round
          case rel => exact ⟨k + 1, o ++ x ++ { data := #[13, 10] }, by omega, by go_num, rfl, by simp only [ByteArray.size_append]; show o.size + x.size + 2 ≤ _; omega, Lib.hid (by rw [HN.out, HD.out, app_data, app_data, H.out]; simp)⟩
          case measure => simp [intOf]; omega
        · have hb0 : ((x[0].toNat : Int) == 46) = false := by
            rw [beq_eq_false_iff_ne]; intro e; exact hne (UInt8.toNat_inj.1 (by simpa using (by omega : x[0].toNat = 46)))
          have he2 : (!x.toList.isEmpty) = true := by simpa [List.isEmpty_iff] using he
          clear hd hne
          go_wp2
          go_round
          case rel => exact ⟨k + 1, o ++ x ++ { data := #[13, 10] }, by omega, by go_num, rfl, by simp only [ByteArray.size_append]; show o.size + x.size + 2 ≤ _; omega, Lib.hid (by rw [HN.out, HD.out, app_data, app_data, H.out]; simp)⟩
          case measure => simp [intOf]; omega
      · have HD := Lib.hid (dotLine_yes hd)
        obtain ⟨h0, he⟩ := dotted_true hd
        have hb0 : ((x[0].toNat : Int) == 46) = true := by rw [he]; rfl
        have hne : ¬ x.toList = [] := by rw [Lib.toList_data]; intro e; rw [Lib.size_eq, e] at h0; cases h0
        have hne2 : (!x.toList.isEmpty) = true := by simpa [List.isEmpty_iff] using hne
        clear hd he
        go_wp2
        go_round
        case rel => exact ⟨k + 1, o ++ ({ data := #[46] } ++ x) ++ { data := #[13, 10] }, by omega, by go_num, rfl, by simp only [ByteArray.size_append]; show o.size + (1 + x.size) + 2 ≤ _; omega, Lib.hid (by rw [HN.out, HD.out, app_data, app_data, app_data, H.out]; simp)⟩
        case measure => simp [intOf]; omega
    · have hm : Hid ((o ++ ({ data := #[46, 13, 10] } : ByteArray)).data.toList = dotsAll xs) := Lib.hid (by
        have e := H.out
        rw [List.take_of_length_le (by omega)] at e
        rw [app_data, e]; unfold dotsAll; simp)
      go_wp2
      go_ret
      exact ⟨ret_st (str_eq hm.out), rfl⟩

set_option maxHeartbeats 800000 in
theorem body_any (ao : Option Addr) (cap B b : Nat) (l : List UInt8) (xs : List ByteArray) (w : World) (hr : StrRow w ao xs) (hrB : ∀ a, xs ≠ [] → ao = some a → a.block < B) (hl : xs.length ≤ 12) (hs : ∀ x ∈ xs, x.size ≤ 40) (hll : l.length ≤ 16777216) (h : Holds B b l w) (hBw : B ≤ w.heap.size) :
    Calls Tryz.prog 302 #[.pointer (some ⟨b, 0, none⟩), .slice ao xs.length cap] w fun e w' => e = .returned (.tuple #[]) ∧ (Holds B b (l ++ dotsAll xs) w' ∧ Below B w w') := by
  have HR := Lib.hid hr
  have HS := Lib.hid hs
  have HB := Lib.hid hrB
  clear hr hs hrB
  go_enter Tryz.func302, Tryz.ntmps302
  go_wp2
  go_loopw [8] (fun i wr => ∃ k : Nat, k ≤ xs.length ∧ i = .int .i64 k ∧ Hid (Holds B b (l ++ dotsL (xs.take k)) wr) ∧ Below B w wr) (fun i _ => xs.length - (intOf i).toNat)
  case atStart => exact ⟨0, Nat.zero_le _, rfl, Lib.hid (by simpa [dotsL] using h), Below.refl _ _⟩
  case round =>
    obtain ⟨k, hk, rfl, H, hb⟩ := hrel
    clear h
    have hsz := hb.size
    have hlen := dotsL_take HS.out k
    by_cases hlt : k < xs.length
    · obtain ⟨x, hx⟩ : ∃ x, xs[k]? = some x := ⟨_, List.getElem?_eq_getElem hlt⟩
      obtain ⟨q, off, rfl, hcell0⟩ := HR.out k x hx
      have hqB : q < B := HB.out ⟨q, off, none⟩ (by intro e; rw [e] at hlt; simp at hlt) rfl
      have hcell := (hb.cell (p := ⟨q, off + k, none⟩) hqB).trans hcell0
      have hxs := HS.out x (List.mem_of_getElem? hx)
      have HN := Lib.hid (dotsL_snoc hx)
      clear hx hcell0
      cases hd : dotted x
      · have HD := Lib.hid (dotLine_no hd)
        have HP : Hid (Lib.hasPrefix x.data.toList ({ data := #[46] } : ByteArray).data.toList = false) := Lib.hid hd
        clear hd
        go_wp2_with (go_at_call 214; refine (Tryz.strings_HasPrefix _ _ _).mono ?_; rintro e w' ⟨rfl, rfl⟩; rw [HP.out])
        refine (line_any B b _ x _ H.out (by rw [List.length_append]; omega) (by omega)).mono ?_
        rintro e w1 ⟨rfl, h1, hb1⟩
        have H1 := Lib.hid h1
        clear h1
        go_wp2
        go_roundw
        case rel => exact ⟨k + 1, by omega, by go_num, Lib.hid (by rw [HN.out, HD.out]; simpa using H1.out), hb.trans hb1⟩
        case measure => simp [intOf]; omega
      · have HD := Lib.hid (dotLine_yes hd)
        have HP : Hid (Lib.hasPrefix x.data.toList ({ data := #[46] } : ByteArray).data.toList = true) := Lib.hid hd
        clear hd
        go_wp2_with (go_at_call 214; refine (Tryz.strings_HasPrefix _ _ _).mono ?_; rintro e w' ⟨rfl, rfl⟩; rw [HP.out])
        refine (writeString_any B b _ { data := #[46] } _ H.out (by rw [List.length_append, show ({ data := #[46] } : ByteArray).size = 1 from rfl]; omega) (by omega)).mono ?_
        rintro e w1 ⟨rfl, h1, hb1⟩
        have H1 := Lib.hid h1
        have hs1 := hb1.size
        clear h1
        go_wp2_with fail
        refine (line_any B b _ x _ H1.out (by rw [List.length_append, List.length_append, show ({ data := #[46] } : ByteArray).data.toList.length = 1 from rfl]; omega) (by omega)).mono ?_
        rintro e w2 ⟨rfl, h2, hb2⟩
        have H2 := Lib.hid h2
        clear h2
        go_wp2
        go_roundw
        case rel => exact ⟨k + 1, by omega, by go_num, Lib.hid (by rw [HN.out, HD.out]; simpa using H2.out), (hb.trans hb1).trans hb2⟩
        case measure => simp [intOf]; omega
    · go_wp2_with fail
      refine (line_any B b _ { data := #[46] } _ H.out (by rw [List.length_append, show ({ data := #[46] } : ByteArray).size = 1 from rfl]; omega) (by omega)).mono ?_
      rintro e w1 ⟨rfl, h1, hb1⟩
      have hm : Hid (Holds B b (l ++ dotsAll xs) w1) := Lib.hid (by
        rw [List.take_of_length_le (by omega)] at h1
        unfold dotsAll
        simpa using h1)
      clear h1
      go_wp2
      go_end0
      exact ⟨rfl, hm.out, hb.trans hb1⟩
end Go.Proofs.YtcaknjdolfheaaaGreatDoor
namespace Go.Proofs.YtcaknjdolfheaaaGreatDoor
open Go Go.RowKit

theorem bodyB_bounds {xs : List ByteArray} (h : bodyB xs = true) : xs.length ≤ 12 ∧ ∀ x ∈ xs, x.size ≤ 40 := by
  unfold bodyB at h
  rw [Bool.and_eq_true, List.all_eq_true, decide_eq_true_eq] at h
  refine ⟨h.2, fun x hx => ?_⟩
  have := h.1 x hx
  unfold lineB at this
  rw [Bool.and_eq_true, decide_eq_true_eq] at this
  exact this.2
def dotPutB (xs : List ByteArray) : ByteArray := if bodyB xs then ⟨(dotsAll xs).toArray⟩ else { data := #[] }

theorem StrRow.lt {w : World} {ao : Option Addr} {xs : List ByteArray} (h : StrRow w ao xs) : ∀ a, xs ≠ [] → ao = some a → a.block < w.heap.size := by
  intro a hne e
  cases xs with
  | nil => exact absurd rfl hne
  | cons x l =>
    obtain ⟨b, off, e2, hc⟩ := h 0 x rfl
    rw [e] at e2
    injection e2 with e2
    rw [e2]
    exact World.block_lt_of_cell? w _ hc

theorem dotsAll_ne (xs : List ByteArray) : dotsAll xs ≠ [] := by unfold dotsAll; simp

end Go.Proofs.YtcaknjdolfheaaaGreatDoor
