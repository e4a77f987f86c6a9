/- Contracts: the marks that the laws write into results: markText, markStringS, heldStringS. -/
import Derived.Test.YtecjifbckjclfaaDoorSmall
import Derived.Laws.IdiomStrings
import Derived.Deep.RegionHeld3
namespace Go.Proofs.YtecjifbckjclfaaDoor
open Go Go.RowKit

def dig (q : Nat) : ByteArray := ⟨#[UInt8.ofNat (48 + q % 10)]⟩
def digs : Nat → Nat → ByteArray → ByteArray
  | 0, _, o => o
  | f + 1, q, o => if q = 0 then o else digs f (q / 10) (dig q ++ o)
def markT (k : Nat) : ByteArray := if k = 0 then { data := #[109, 48] } else { data := #[109] } ++ digs k k { data := #[] }
theorem digs_zero (f : Nat) (o : ByteArray) : digs f 0 o = o := by cases f <;> rfl
theorem digs_step {f q : Nat} (o : ByteArray) (h : 0 < q) (hf : q ≤ f) : ∃ f', f = f' + 1 ∧ q / 10 ≤ f' ∧ digs f q o = digs f' (q / 10) (dig q ++ o) := by
  cases f with
  | zero => omega
  | succ f =>
    refine ⟨f, rfl, by omega, ?_⟩
    rw [digs, if_neg (by omega)]
theorem dig_conv (q : Nat) (w : World) : (convert 22 9 (.slice (some ⟨w.heap.size, 0, none⟩) 1 1)).run Tryd.prog (w.alloc (.cells #[.int .u8 (48 + (q : Int) % 10)] 5)) = .ok (.string (dig q)) (w.alloc (.cells #[.int .u8 (48 + (q : Int) % 10)] 5)) := by
  refine run_convert_bytes_back (P := Tryd.prog) _ _ _ _ ⟨w.heap.size, 0, none⟩ 1 [UInt8.ofNat (48 + q % 10)] Tryd.underlying22 Tryd.underlying5 Tryd.underlying9 ?_
  intro j hj
  obtain rfl : j = 0 := by simpa using hj
  have e : ((UInt8.ofNat (48 + q % 10)).toNat : Int) = 48 + (q : Int) % 10 := by
    rw [UInt8.toNat_ofNat_of_lt' (by simp [UInt8.size]; omega)]; omega
  show _ = some (Value.int .u8 ((UInt8.ofNat (48 + q % 10)).toNat : Int))
  rw [e, show ((⟨w.heap.size, 0, none⟩ : Addr).add 0) = ⟨w.heap.size, 0, none⟩ from rfl, World.cell?_alloc_at _ _ _ _ rfl]
  rfl

theorem ret_sm {a b : ByteArray} (h : a = b) : Ending.returned (.string a) = .returned (.string b) := by rw [h]
theorem ret_im {a b : Int} (h : a = b) : Ending.returned (.int .i64 a) = .returned (.int .i64 b) := by rw [h]

set_option maxHeartbeats 400000 in
theorem markText_any (k : Nat) (hk : k ≤ 16777216) (w : World) :
    Calls Tryd.prog 198 #[.int .i64 k] w fun e w' => e = .returned (.string (markT k)) ∧ Below w.heap.size w w' := by
  by_cases h0 : k = 0
  · subst h0
    go_enter Tryd.func198, Tryd.ntmps198
    go_wp2
    go_ret
    exact ⟨rfl, Below.refl _ _⟩
  · have hm : Hid (markT k = { data := #[109] } ++ digs k k { data := #[] }) := Lib.hid (by unfold markT; rw [if_neg h0])
    have hb0 : decide ((k : Int) ≤ 0) = false := decide_eq_false (by omega)
    have hb1 : decide (k = 0) = false := decide_eq_false h0
    clear h0
    go_enter Tryd.func198, Tryd.ntmps198
    go_wp2
    go_loopw [0, 3] (fun v o wr => ∃ (q f : Nat) (s : ByteArray), v = .int .i64 q ∧ o = .string s ∧ s.size + q ≤ k ∧ q ≤ f ∧ Hid (digs f q s = digs k k { data := #[] }) ∧ Below w.heap.size w wr) (fun v _ _ => (intOf v).toNat)
    case atStart => exact ⟨k, k, { data := #[] }, rfl, rfl, by show 0 + k ≤ k; omega, Nat.le_refl _, Lib.hid rfl, Below.refl _ _⟩
    case round =>
      obtain ⟨q, f, s, rfl, rfl, hs, hf, H, hb⟩ := hrel
      have hsz := hb.size
      by_cases hlt : 0 < q
      · have hconv := dig_conv q wr
        obtain ⟨f', rfl, hf', hst⟩ := digs_step s hlt hf
        have HN : Hid (digs f' (q / 10) (dig q ++ s) = digs k k { data := #[] }) := Lib.hid (hst.symm.trans H.out)
        clear hst H
        have hds : (dig q).size = 1 := rfl
        have HDS := Lib.hid hds
        have hdl : (dig q).size ≤ 1 := by omega
        clear hds
        go_wp2
        go_roundw
        case rel => exact ⟨q / 10, f', dig q ++ s, by go_num, rfl, by rw [ByteArray.size_append, HDS.out]; omega, by omega, HN, hb.alloc (by omega) _⟩
        case measure => simp [intOf]; omega
      · obtain rfl : q = 0 := by omega
        have HE : Hid (s = digs k k { data := #[] }) := Lib.hid ((digs_zero f s).symm.trans H.out)
        go_wp2
        go_ret
        exact ⟨ret_sm (by rw [hm.out, ← HE.out]), hb⟩

/-- The row of the marks from k on. -/
def markRow (k n : Nat) : List ByteArray := (List.range n).map fun i => markT (k + i)
theorem markRow_length (k n : Nat) : (markRow k n).length = n := by simp [markRow]
theorem markRow_get (k n i : Nat) (h : i < n) : (markRow k n)[i]? = some (markT (k + i)) := by simp [markRow, h]

def markCells (k i : Nat) (xs : List ByteArray) : List Value := (markRow k i).map Value.string ++ (xs.drop i).map Value.string
theorem markCells_zero (k : Nat) (xs : List ByteArray) : markCells k 0 xs = xs.map Value.string := by simp [markCells, markRow]
theorem markCells_get (k i : Nat) (xs : List ByteArray) (h : i < xs.length) : ∃ y, (markCells k i xs)[i]? = some (.string y) := by
  unfold markCells
  rw [List.getElem?_append_right (by simp [markRow])]
  simp [markRow, h]
theorem markCells_set (k i : Nat) (xs : List ByteArray) (h : i < xs.length) : (markCells k i xs).set i (.string (markT (k + i))) = markCells k (i + 1) xs := by
  unfold markCells
  rw [List.set_append_right _ _ (by simp [markRow]), List.length_map, markRow_length, Nat.sub_self, List.drop_eq_getElem_cons h]
  rw [List.map_cons, List.set_cons_zero]
  simp [markRow, List.range_succ]
theorem markCells_end (k : Nat) (xs : List ByteArray) : markCells k xs.length xs = (markRow k xs.length).map Value.string := by simp [markCells]

theorem own_later {w w' : World} {B : Nat} {e : TypeId} {size : Nat} {v : Value} {n : Nat} {xs : List Value} (h : w.ownsRow B e size v n xs) (hb : Below w.heap.size w w') : w'.ownsRow B e size v n xs :=
  h.kept (row := none) ⟨hb.os, hb.tape, hb.output, hb.size, fun k hk _ => hb.block k hk⟩ (by cases hv : v.ownBlock <;> simp)

set_option maxHeartbeats 400000 in
/-- markStringS writes the marks into a row of the call's own; nothing below it turns. -/
theorem markStringS_any (B g cap k : Nat) (xs : List ByteArray) (w : World) (ho : w.ownsRow B 9 1 (.slice (some ⟨g, 0, none⟩) xs.length cap) xs.length (xs.map Value.string)) (hB : B ≤ w.heap.size) (hl : k + xs.length ≤ 16777216) :
    Calls Tryd.prog 139 #[.slice (some ⟨g, 0, none⟩) xs.length cap, .int .i64 k] w fun e w' => e = .returned (.int .i64 ((k + xs.length : Nat) : Int)) ∧
      w'.ownsRow B 9 1 (.slice (some ⟨g, 0, none⟩) xs.length cap) xs.length ((markRow k xs.length).map Value.string) ∧ Below B w w' ∧ ∀ b < w.heap.size, b ≠ g → w'.heap[b]? = w.heap[b]? := by
  go_enter Tryd.func139, Tryd.ntmps139
  go_wp2
  go_loopw [1, 5] (fun c i wr => ∃ n : Nat, n ≤ xs.length ∧ i = .int .i64 n ∧ c = .int .i64 ((k + n : Nat) : Int) ∧ wr.ownsRow B 9 1 (.slice (some ⟨g, 0, none⟩) xs.length cap) xs.length (markCells k n xs) ∧ Below B w wr ∧ Hid (∀ b < w.heap.size, b ≠ g → wr.heap[b]? = w.heap[b]?)) (fun _ i _ => xs.length - (intOf i).toNat)
  case atStart => exact ⟨0, Nat.zero_le _, rfl, rfl, by rw [markCells_zero]; exact ho, Below.refl _ _, Lib.hid fun _ _ _ => rfl⟩
  case round =>
    obtain ⟨n, hn, rfl, rfl, hor, hb, HK⟩ := hrel
    clear ho
    have hsz := hb.size
    have hg := hor.lt g rfl
    by_cases hlt : n < xs.length
    · go_wp2_with (go_at_call 198; refine (markText_any (k + n) (by omega) _).mono ?_)
      rintro e w1 ⟨rfl, hb1⟩
      have ho1 := own_later hor hb1
      obtain ⟨y, hy⟩ := markCells_get k n xs hlt
      have hc2 : w1.cell? ⟨g, n, none⟩ = some (.string y) := (ho1.cellAt n (by omega)).trans hy
      have hf2 := ho1.frozenAt n
      have hs := (ho1.stored n (.string (markT (k + n)))).1
      rw [markCells_set k n xs hlt] at hs
      have HB := Lib.hid ((hb.trans (hb1.mono (Nat.le_trans hB hsz))).setCell (p := ⟨g, n, none⟩) hg.1 (.string (markT (k + n))))
      have HK2 : Hid (∀ b < w.heap.size, b ≠ g → (w1.setCell ⟨g, n, none⟩ (.string (markT (k + n)))).heap[b]? = w.heap[b]?) := Lib.hid fun b hb2 hne => by
        rw [Below.heap_setCell _ _ _ _ (by simpa using hne), hb1.block b (by omega), HK.out b hb2 hne]
      clear hy ho1 hor hb1 hb HK
      go_wp2
      go_roundw
      case rel => exact ⟨n + 1, by omega, by go_num, by go_num, hs, HB.out, HK2⟩
      case measure => simp [intOf]; omega
    · obtain rfl : n = xs.length := by omega
      rw [markCells_end] at hor
      go_wp2
      go_ret
      exact ⟨rfl, hor, hb, HK.out⟩

theorem held_keep {a : Addr} {v : Value} {B : Nat} {w0 w1 w2 : World} (h : w1.cell? a = some v) (hB : Below B w0 w1) (hBs : B ≤ w0.heap.size) (hb : Below w1.heap.size w1 w2) : w2.cell? a = some v ∧ Below B w0 w2 :=
  ⟨(hb.cell (World.block_lt_of_cell? w1 _ h)).trans h, hB.trans (hb.mono (Nat.le_trans hBs hB.size))⟩

set_option maxHeartbeats 800000 in
set_option maxRecDepth 100000 in
/-- heldStringS finds the marks in a row that holds them. -/
theorem heldStringS_any (ao : Option Addr) (cap k N : Nat) (w : World) (hr : StrRow w ao (markRow k N)) (hl : k + N ≤ 16777216) :
    Calls Tryd.prog 141 #[.slice ao (markRow k N).length cap, .int .i64 k] w fun e w' => e = .returned (.int .i64 ((k + N : Nat) : Int)) ∧ Below w.heap.size w w' := by
  have HR := Lib.hid hr
  have hN := markRow_length k N
  rw [hN]
  clear hr hN
  go_enter Tryd.func141, Tryd.ntmps141
  go_wp2
  go_loopw [1, 5] (fun c i wr => ∃ n : Nat, n ≤ N ∧ i = .int .i64 n ∧ c = .int .i64 ((k + n : Nat) : Int) ∧ Below w.heap.size w wr) (fun _ i _ => N - (intOf i).toNat)
  case atStart => exact ⟨0, Nat.zero_le _, rfl, rfl, Below.refl _ _⟩
  case round =>
    obtain ⟨n, hn, rfl, rfl, hb⟩ := hrel
    have hsz := hb.size
    by_cases hlt : n < N
    · obtain ⟨b, off, rfl, hcell⟩ := (HR.out.below hb (Nat.le_refl _)) n _ (markRow_get k N n hlt)
      have hrefl : Below wr.heap.size wr wr := Below.refl _ _
      have hkn : k + n ≤ 16777216 := by omega
      go_wp2_with fail
      go_region_held3 (fun w' => w'.cell? ⟨b, off + n, none⟩ = some (.string (markT (k + n))) ∧ Below wr.heap.size wr w') (first | exact ⟨hcell, hrefl.drew⟩ | (go_split_ands; exact held_keep (by assumption) (by assumption) (Nat.le_refl _) hb1) | (go_split_ands; exact ⟨by assumption, Below.drew (by assumption)⟩) | (go_split_ands; exact ⟨by assumption, by assumption⟩)) (first | (go_at_call 198; refine (markText_any (k + n) hkn _).mono ?_; rintro e w1 ⟨rfl, hb1⟩))
      go_split_ands
      clear hrefl
      have hbx := (by assumption : Below wr.heap.size wr _)
      go_wp2
      go_roundw
      case rel => exact ⟨n + 1, by omega, by go_num, by go_num, hb.trans (hbx.mono hsz)⟩
      case measure => simp [intOf]; omega
    · obtain rfl : n = N := by omega
      go_wp2
      go_ret
      exact ⟨rfl, hb⟩

/-- markStringS, whatever the row: what is written is the row alone. -/
theorem markStringS_row (B cap k : Nat) (ao : Option Addr) (xs : List ByteArray) (w : World) (ho : w.ownsRow B 9 1 (.slice ao xs.length cap) xs.length (xs.map Value.string)) (hB : B ≤ w.heap.size) (hl : k + xs.length ≤ 16777216) :
    Calls Tryd.prog 139 #[.slice ao xs.length cap, .int .i64 k] w fun e w' => e = .returned (.int .i64 ((k + xs.length : Nat) : Int)) ∧
      w'.ownsRow B 9 1 (.slice ao xs.length cap) xs.length ((markRow k xs.length).map Value.string) ∧ w.grownBy w' (Value.slice ao xs.length cap).ownBlock := by
  rcases ho.2 with ⟨hv, hn⟩ | ⟨g, cap', cur, hv, _⟩
  · obtain rfl : xs = [] := List.length_eq_zero_iff.1 hn
    simp only [Value.slice.injEq] at hv
    obtain ⟨rfl, _, rfl⟩ := hv
    clear ho
    go_enter Tryd.func139, Tryd.ntmps139
    go_wp2
    refine wp_loop_rounds 1 ?_
    rw [rounds_succ]
    go_wp2
    go_ret
    exact ⟨by simp, World.ownsRow_nil _ _ _ _, World.grownBy.refl _ _⟩
  · simp only [Value.slice.injEq, true_and] at hv
    obtain ⟨rfl, rfl⟩ := hv
    refine (markStringS_any B g cap k xs w ho hB hl).mono ?_
    rintro e w' ⟨rfl, h1, h2, h3⟩
    refine ⟨rfl, h1, h2.os, h2.tape, h2.output, ?_, fun b hb hne => h3 b hb (fun e => hne (by rw [e]; rfl))⟩
    exact h2.size
end Go.Proofs.YtecjifbckjclfaaDoor
