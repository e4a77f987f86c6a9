/- Contracts: bytes in lines of figures, of the program: slices.Collect over the groups. -/
import Derived.Test.YtmigcglcacpboaaDoorCodePut
import Derived.Test.YtmigcglcacpboaaDoorReads
namespace Go.Proofs.YtmigcglcacpboaaDoor
open Go Go.RowKit Go.Shelf
attribute [local go_sem] Oper.semAt_some

/-- The groups of a text, as texts. -/
def linesP (m : Nat) (s : ByteArray) : List ByteArray := (chunks m s.data.toList).map fun l => ⟨l.toArray⟩
theorem vals_of {m : Nat} {ys : List (Piece m)} {s : ByteArray} (h : datas ys = chunks m s.data.toList) : ys.map Subtype.val = linesP m s := by
  unfold linesP
  rw [← h]
  unfold datas
  rw [List.map_map]
  refine List.map_congr_left fun x _ => ?_
  show x.val = ⟨x.val.data.toList.toArray⟩
  cases x.val; rfl
theorem linesP_length {m : Nat} (hm : 0 < m) (s : ByteArray) : (linesP m s).length ≤ s.size := by
  unfold linesP; rw [List.length_map, Lib.size_eq]; exact chunks_length hm _

set_option maxRecDepth 100000 in
set_option maxHeartbeats 2000000 in
theorem appendSeq_in (Bs Bz m : Nat) (s : ByteArray) (hm : 0 < m) (hm2 : m ≤ 1000) (hs : s.size ≤ 1048576) (w : World) (hws : Bs < w.heap.size) (hwz : Bz < w.heap.size) (hcs : w.cell? ⟨Bs, 0, none⟩ = some (.string s)) (hcz : w.cell? ⟨Bz, 0, none⟩ = some (.int .i64 m)) :
    CallsIn Fence.wide 5 Tryd.prog 58 #[.slice none 0 0, .func (.func 50) #[] #[.pointer (some ⟨Bs, 0, none⟩), .pointer (some ⟨Bz, 0, none⟩)]] w (RowsPost w (linesP m s)) := by
  obtain ⟨i0, hi, hz0, hz1, hz2⟩ := info_parts infoS
  refine callsIn_of_wp_marks Tryd.func58 rfl trivial ?_ rfl
  simp only [Tryd.ntmps58, List.size_toArray, List.length_cons, List.length_nil, Nat.reduceAdd, Nat.reduceSub, Array.replicate_succ, Array.replicate_zero, List.push_toArray, List.append_toArray, List.nil_append, List.cons_append]
  gi_wp2
  have bL := Boxed.new w 28 (.slice none 0 0)
  have hB0 : Below w.heap.size w (w.alloc (.cells #[.slice none 0 0] 28)) := (Below.refl _ w).alloc (Nat.le_refl _) _
  refine wpIn_rangeFunc_ownG rfl (by omega) (gf := 50) (lb := #[.pointer (some ⟨Bs, 0, none⟩), .pointer (some ⟨Bz, 0, none⟩)]) rfl trivial enters_groups
    (groups_stops Bs Bz m s hm hm2 _ (by simp; omega) (by simp; omega) ((hB0.cell (p := ⟨Bs, 0, none⟩) hws).trans hcs) ((hB0.cell (p := ⟨Bz, 0, none⟩) hwz).trans hcz)) keepsCell_t (fun W l o o' hl h hc hw => keepsCell_b W l o o' hl h hc hw) (Below.refl _ _) (fun _ => rfl)
    (fun pre W => (∃ v, Boxed W w.heap.size 28 v ∧ W.ownsRow w.heap.size 9 1 v pre.length (pre.map fun x => Value.string x.val) ∧ True) ∧ Below w.heap.size w W)
    (fun _ _ _ => False)
    (OwnFrom.and (Own.from (holdsRow_own w.heap.size w.heap.size 28 9 1 (fun pre : List (Piece m) => pre.length) (fun pre => pre.map fun x => Value.string x.val) (fun _ _ => True)) _) (ownFrom_below (Nat.le_refl _) (by simp)))
    (fun _ _ _ _ _ hs _ _ => hs)
    ⟨⟨_, bL, World.ownsRow_nil _ _ _ _, trivial⟩, hB0⟩
    (fun x => { tmps := #[.slice none 0 0, .func (.func 50) #[] #[.pointer (some ⟨Bs, 0, none⟩), .pointer (some ⟨Bz, 0, none⟩)], .pointer (some ⟨w.heap.size, 0, none⟩), undef, .slice none 0 0, .string x.val, .func (.func 50) #[] #[.pointer (some ⟨Bs, 0, none⟩), .pointer (some ⟨Bz, 0, none⟩)], .string x.val, undef, undef, undef, undef, undef], defers := [] }) ?assign ?body ?done ?stop
  case assign =>
    intro l x W K hK
    gi_wp2
    exact hK
  case body =>
    rintro l pre x W ⟨⟨v, hv, hrow, _⟩, hB⟩ hlt
    have hc := hv.cell
    gi_wp2_with (gi_at_builtin; refine wpListIn_append_own _ rfl _ _ 28 rfl w.heap.size 9 i0 (.string ByteArray.empty) 1 16 Tryd.underlying28 hi hz0 hz1 hz2 rfl (by decide) _ _ _ rfl (hrow.alloc _) ⟨W.heap.size, 0, none⟩ 1 1 [.string x.val] rfl rfl (cell_one_new _ _ _) (by simp [Value.oneCell']) (by unfold maxLen; omega) (by omega) (by have := hB.size; simp; omega) ?_; intro v' w1 hown' hgrow _; obtain ⟨g', cap', rfl⟩ := ownsRow_succ hown'; obtain ⟨hv1, hv2, hr2, hk2, hb2⟩ := hv.appended (by decide) hrow hB.size (Nat.le_refl _) hown' hgrow; have hc1 := hv1.cell; have hf1 := hv1.frozen)
    refine ⟨hk2.from _, ?_, ⟨_, hv2, ?_, trivial⟩, hB.trans hb2⟩
    · intro u hu
      exact (hb2.cell (p := ⟨Bz, 0, none⟩) hwz).trans hu
    · simpa using hr2
  case done =>
    rintro D ys W hD hys ⟨⟨v, hv, hrow, _⟩, hB⟩ hK
    have hc := hv.cell
    have hvals := vals_of hys
    have hlen : ys.length = (linesP m s).length := by rw [← hvals, List.length_map]
    have hcells : ys.map (fun x => Value.string x.val) = (linesP m s).map Value.string := by rw [← hvals, List.map_map]; rfl
    rw [hcells, hlen] at hrow
    obtain ⟨ao, cap, rfl⟩ := shape_own hrow
    gi_wp2
    refine ⟨by simp, .inl ⟨_, _, rfl, run_takeDeferred (w := W) hK, ?_⟩⟩
    refine ⟨_, results_tmp rfl _ _ _, ao, cap, rfl, ?_, ?_⟩
    · exact ownsRow_putObj (W := W) hrow _ hK rfl
    · exact hB.trans (belowK_b (w := w) (Nat.le_refl _) W D _ _ (by simp at hD; omega) hK rfl rfl)
  case stop =>
    rintro D c pre W _ _ h _
    exact h.elim

theorem collect_any (Bs Bz m : Nat) (s : ByteArray) (hm : 0 < m) (hm2 : m ≤ 1000) (hs : s.size ≤ 1048576) (w : World) (hws : Bs < w.heap.size) (hwz : Bz < w.heap.size) (hcs : w.cell? ⟨Bs, 0, none⟩ = some (.string s)) (hcz : w.cell? ⟨Bz, 0, none⟩ = some (.int .i64 m)) :
    Calls Tryd.prog 42 #[.func (.func 50) #[] #[.pointer (some ⟨Bs, 0, none⟩), .pointer (some ⟨Bz, 0, none⟩)]] w (RowsPost w (linesP m s)) := by
  have C := Lib.hid (callsIn_wide.1 (appendSeq_in Bs Bz m s hm hm2 hs w hws hwz hcs hcz))
  clear hcs hcz hws hwz
  go_enter Tryd.func42, Tryd.ntmps42
  go_wp2_with fail
  refine C.out.mono ?_
  rintro e w1 ⟨ao, cap, rfl, r, b⟩
  have R := Lib.hid r
  have B := Lib.hid b
  clear r b C
  go_wp2
  go_ret
  exact ⟨ao, cap, rfl, R.out, B.out⟩

def linesPutB (s : ByteArray) : List ByteArray := linesP 40 (codePutB s)
theorem implLinesPut_any (s : ByteArray) (w : World) (hs : s.size ≤ maxLen) (hf : FigCell w) :
    Calls Tryd.prog 18 #[.string s] w (RowsPost w (linesPutB s)) := by
  have C := Lib.hid (implCodePut_any s w hs hf)
  have hz : (codePutB s).size ≤ 320 := by
    by_cases h : s.size ≤ 240
    · rw [codePutB_size h]; omega
    · unfold codePutB; rw [if_neg h]; exact Nat.zero_le _
  have HE : Hid (∀ t, codePutB s = t → linesP 40 t = linesPutB s) := Lib.hid (by rintro t rfl; rfl)
  obtain ⟨t, ht⟩ : ∃ t, codePutB s = t := ⟨_, rfl⟩
  rw [ht] at C hz
  have HT := Lib.hid (HE.out t ht)
  clear ht hf HE
  go_enter Tryd.func18, Tryd.ntmps18
  go_wp2_with fail
  refine C.out.mono ?_
  rintro e w1 ⟨rfl, b1⟩
  have B1 := Lib.hid b1
  clear b1 C
  go_wp2_with fail
  refine (groups_any t 40 _).mono ?_
  rintro e w2 ⟨rfl, rfl⟩
  have bS := Boxed.new w1 9 (.string t)
  have bZ := Boxed.new (w1.alloc (.cells #[.string t] 9)) 3 (.int .i64 (40 : Nat))
  rw [World.size_alloc] at bZ
  have CC := Lib.hid (collect_any w1.heap.size (w1.heap.size + 1) 40 t (by omega) (by omega) (by omega) ((w1.alloc (.cells #[.string t] 9)).alloc (.cells #[.int .i64 (40 : Nat)] 3)) (by simp; omega) (by simp) ((bS.alloc _).cell) bZ.cell)
  have B2 := Lib.hid (show Below w.heap.size w ((w1.alloc (.cells #[.string t] 9)).alloc (.cells #[.int .i64 (40 : Nat)] 3)) from (B1.out.alloc B1.out.size _).alloc (by have := B1.out.size; simp; omega) _)
  have hsz := B2.out.size
  clear bS bZ B1
  go_wp2_with fail
  refine CC.out.mono ?_
  rintro e w3 ⟨ao, cap, rfl, r, b⟩
  have R := Lib.hid r
  have B3 := Lib.hid (B2.out.trans (b.mono hsz))
  clear r b CC B2
  rw [HT.out] at R
  have HL := Lib.hid (show (linesP 40 t).length = (linesPutB s).length by rw [HT.out])
  generalize (linesP 40 t).length = n at HL
  obtain rfl := HL.out
  go_wp2
  go_ret
  exact ⟨ao, cap, rfl, ⟨R.out.1, R.out.2.imp id fun ⟨g, c, cur, a, b, d⟩ => ⟨g, c, cur, a, Nat.le_trans hsz b, d⟩⟩, B3.out⟩
end Go.Proofs.YtmigcglcacpboaaDoor
