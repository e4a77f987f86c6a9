/- Contract: MailGet of the program. -/
import Derived.Test.YtfacdiimoncnnaaDoorPlains
import Derived.Test.YtfacdiimoncnnaaDoorMailGetW
import Derived.Test.YtfacdiimoncnnaaDoorReads
import Derived.Test.YtfacdiimoncnnaaDoorAddrGetI
import Derived.Test.YtfacdiimoncnnaaDoorMails
namespace Go.Proofs.YtfacdiimoncnnaaDoor
open Go Go.RowKit

theorem markedAddr_any (t : List UInt8) (x : ByteArray) (w : World) (hm : HasMax w) (hs : x.size ≤ 1048576) :
    Calls Tryd.prog 181 #[.string x, .string ⟨t.toArray⟩] w (AddrPost w (markedR t x)) := by
  have HM := Lib.hid (hm.below ((Below.refl w.heap.size w).alloc (Nat.le_refl _) (.cells #[.string { data := #[] }, .string { data := #[] }] 56)) (Nat.le_refl _))
  have T0 := TwoAt.new w (.string { data := #[] }) (.string { data := #[] }) 56
  have C1 : Seal (∀ W, Calls Tryd.prog 216 #[.string x, .string ⟨t.toArray⟩] W fun e w' => e = .returned (.tuple #[.string ⟨(Lib.trimPrefix x.data.toList t).toArray⟩, .bool (Lib.hasPrefix x.data.toList t)]) ∧ w' = W) := ⟨fun W => Tryd.strings_CutPrefix x ⟨t.toArray⟩ W⟩
  clear hm
  cases hp : Lib.hasPrefix x.data.toList t
  · have hq : Seal (markedR t x = noAddr) := ⟨by unfold markedR; rw [hp]; rfl⟩
    rw [hp] at C1
    clear hp
    obtain ⟨m0, m1, n0, n1⟩ := T0
    go_enter Tryd.func181, Tryd.ntmps181
    go_wp2_with fail
    refine (C1.out _).mono ?_
    rintro e w' ⟨rfl, rfl⟩
    go_wp2
    refine bodyPost_ret (v := .tuple #[.agg #[.string { data := #[] }, .string { data := #[] }], .bool false]) (by simp [results, Tryd.results181, go_sem]) rfl ⟨by rw [hq.out]; rfl, ?_⟩
    exact (Below.refl w.heap.size w).alloc (Nat.le_refl _) _
  · have he : (⟨(Lib.trimPrefix x.data.toList t).toArray⟩ : ByteArray) = x.extract t.length x.size := by
      refine ba_extd ?_
      rw [Lib.extract_to_end]
      unfold Lib.trimPrefix
      rw [if_pos hp]
    have hq : Seal (markedR t x = getR (x.extract t.length x.size)) := ⟨by unfold markedR; rw [if_pos hp]⟩
    rw [hp, he] at C1
    have hz : (x.extract t.length x.size).size ≤ 1048576 := by rw [ByteArray.size_extract]; omega
    clear hp he
    obtain ⟨⟨u, d, ok⟩, hr⟩ : ∃ r, getR (x.extract t.length x.size) = r := ⟨_, rfl⟩
    have CA : Seal (∀ W, HasMax W → Calls Tryd.prog 217 #[.string (x.extract t.length x.size)] W (AddrPost W (u, d, ok))) := ⟨fun W hW => hr ▸ implAddrGet_any _ W hW hz⟩
    have HR : Seal (markedR t x = (u, d, ok)) := ⟨hq.out.trans hr⟩
    have HT0 : Seal (TwoAt (w.alloc (.cells #[.string { data := #[] }, .string { data := #[] }] 56)) w.heap.size (.string { data := #[] }) (.string { data := #[] })) := ⟨T0⟩
    clear hr hq T0
    go_enter Tryd.func181, Tryd.ntmps181
    go_wp2_with fail
    refine (C1.out _).mono ?_
    rintro e w' ⟨rfl, rfl⟩
    go_wp2_with fail
    refine (CA.out _ HM.out).mono ?_
    rintro e w1 ⟨rfl, b1⟩
    obtain ⟨m0, m1, n0, n1⟩ := HT0.out.later b1
    have B1 : Seal (Below w.heap.size w w1) := ⟨((Below.refl w.heap.size w).alloc (Nat.le_refl _) _).trans (b1.mono (by simp))⟩
    clear b1
    go_wp2
    refine bodyPost_ret (v := .tuple #[.agg #[.string u, .string d], .bool ok]) (by simp [results, Tryd.results181, go_sem, m0, m1]) rfl ⟨by rw [HR.out], ?_⟩
    exact (B1.out.setCell (p := ⟨w.heap.size, 0, none⟩) (Nat.le_refl _) _).setCell (p := ⟨w.heap.size, 1, none⟩) (Nat.le_refl _) _

/-- Of a head's lines: the mail that they tell, and whether they tell one. -/
def HeadIPost (w : World) (ls : List ByteArray) (e : Ending) (w' : World) : Prop :=
  ∃ (u d : ByteArray) (ps : List Pair) (a1 : Option Addr) (c1 : Nat), e = .returned (.tuple #[.agg (mailV ⟨u, d, ps, []⟩ a1 c1 none 0), .bool (headI ls)]) ∧ Below w.heap.size w w' ∧ PRow w' w.heap.size 56 a1 c1 ps ∧ (headI ls = true → (u, d) = firstP ls ∧ ps = (ls.drop 1).map toP)
theorem HeadIPost.no {w w' : World} {ls : List ByteArray} (h : headI ls = false) (hb : Below w.heap.size w w') : HeadIPost w ls (.returned (.tuple #[.agg (mailV noMail none 0 none 0), .bool false])) w' :=
  ⟨{ data := #[] }, { data := #[] }, [], none, 0, by rw [h]; rfl, hb, World.ownsRow_nil _ _ _ _, fun e => by rw [h] at e; cases e⟩
theorem headI_first {x : ByteArray} {xs : List ByteArray} (h : fromOk x = false) : headI (x :: xs) = false := by
  unfold headI
  rw [show firstOk (x :: xs) = fromOk x from rfl, h]; rfl
theorem headI_miss {x y : ByteArray} {xs : List ByteArray} {k : Nat} (hy : xs[k]? = some y) (h : toOk y = false) : headI (x :: xs) = false := by
  unfold headI
  rw [List.drop_one, List.tail_cons, list_all_miss hy h, Bool.and_false]
theorem headI_all {x : ByteArray} {xs : List ByteArray} (h : fromOk x = true) (h2 : xs.all toOk = true) : headI (x :: xs) = true := by
  unfold headI
  rw [List.drop_one, List.tail_cons, h2, show firstOk (x :: xs) = fromOk x from rfl, h]; rfl
theorem map_snoc {xs : List ByteArray} {k : Nat} {y : ByteArray} (hy : xs[k]? = some y) : (xs.take (k + 1)).map toP = (xs.take k).map toP ++ [toP y] := by
  obtain ⟨hk, e⟩ := List.getElem?_eq_some_iff.1 hy
  rw [List.take_succ_eq_append_getElem hk, List.map_append, e]; rfl

set_option maxHeartbeats 3200000 in
set_option maxRecDepth 100000 in
theorem headGet_more (b off : Nat) (x y : ByteArray) (ys : List ByteArray) (w : World) (hm : HasMax w) (hr : StrRow w (some ⟨b, off, none⟩) (x :: y :: ys)) (hl : ys.length ≤ 100000) (hs : ∀ z ∈ x :: y :: ys, z.size ≤ 1048576) :
    Calls Tryd.prog 116 #[.slice (some ⟨b, off, none⟩) (x :: y :: ys).length (x :: y :: ys).length] w (HeadIPost w (x :: y :: ys)) := by
  obtain ⟨i0, hi, hz0, hz1, hz2⟩ := info_parts infoA
  have HR : Seal (StrRow w (some ⟨b, off, none⟩) (x :: y :: ys)) := ⟨hr⟩
  have HS : Seal (∀ z ∈ x :: y :: ys, z.size ≤ 1048576) := ⟨hs⟩
  have hx := hs x List.mem_cons_self
  have S0 : Seal _ := ⟨(St.start w).alloc #[.string { data := #[] }, .string { data := #[] }, .slice none 0 0, .slice none 0 0] 59⟩
  have HM : Seal (HasMax w) := ⟨hm⟩
  have hM0 := hm.below ((Below.refl w.heap.size w).alloc (Nat.le_refl _) (.cells #[.string { data := #[] }, .string { data := #[] }, .slice none 0 0, .slice none 0 0] 59)) (Nat.le_refl _)
  have C1 : Seal _ := ⟨markedAddr_any fromT x _ hM0 hx⟩
  obtain ⟨b', off', e0, hcell⟩ := hr 0 x rfl
  cases e0
  rw [Nat.add_zero] at hcell
  have hbw := World.block_lt_of_cell? w _ hcell
  obtain ⟨⟨u, d, ok⟩, hmk⟩ : ∃ r, markedR fromT x = r := ⟨_, rfl⟩
  rw [hmk] at C1
  have HMK : Seal (markedR fromT x = (u, d, ok)) := ⟨hmk⟩
  have hlen : (x :: y :: ys).length = ys.length + 2 := rfl
  rw [hlen]
  clear hm hr hs hmk hM0
  cases ok
  · have hq : Seal (headI (x :: y :: ys) = false) := ⟨headI_first (by unfold fromOk; rw [HMK.out])⟩
    go_enter Tryd.func116, Tryd.ntmps116
    go_wp2_with fail
    refine C1.out.mono ?_
    rintro e w1 ⟨rfl, b1⟩
    have S1 := S0.out.later b1
    obtain ⟨r0, r1, r2, r3, g0, g1, g2, g3⟩ := cells_two S1.head
    have l2 := S1.head.lt
    have SZ : Seal _ := ⟨(((S1.set 0 (.string { data := #[] }) (by simp)).set 1 (.string { data := #[] }) (by simp)).set 2 (.slice none 0 0) (by simp)).set 3 (.slice none 0 0) (by simp) |>.more (.cells #[.string u, .string d] 56)⟩
    clear S1 b1
    go_wp2
    refine bodyPost_ret (v := .tuple #[.agg (mailV noMail none 0 none 0), .bool false]) (by simp [results, Tryd.results116, go_sem, noMail, r0, r1, r2, r3, l2]) rfl (HeadIPost.no hq.out SZ.out.below)
  · go_enter Tryd.func116, Tryd.ntmps116
    go_wp2_with fail
    refine C1.out.mono ?_
    rintro e w1 ⟨rfl, b1⟩
    have S1 : Seal _ := ⟨((S0.out.later b1).more (.cells #[.string u, .string d] 56)).alloc #[.string u, .string d, .slice none 0 0, .slice none 0 0] 59⟩
    have l1 := b1.size
    simp only [World.size_alloc] at l1
    have hn12 : w.heap.size ≠ w1.heap.size + 1 := by omega
    have hn21 : w1.heap.size + 1 ≠ w.heap.size := by omega
    have S1n : Seal (St w _ [Res.row 56 2 (.slice none ([] : List Pair).length 0) ([] : List Pair).length (pairCells []), Res.cells (w1.heap.size + 1) [.string u, .string d, .slice none ([] : List Pair).length 0, .slice none 0 0], Res.cells w.heap.size noMailV]) := ⟨by
      have h := S1.out.nothing 56 2
      simp only [World.size_alloc] at h
      exact h⟩
    have HT : Seal (StrRow w (some ⟨b, off + 1, none⟩) (y :: ys)) := ⟨fun k z hz => by
      obtain ⟨b', off', e, hc⟩ := HR.out (k + 1) z (by simpa using hz)
      cases e
      exact ⟨b, off + 1, rfl, by rw [show off + 1 + k = off + (k + 1) by omega]; exact hc⟩⟩
    have HF : Seal (fromOk x = true ∧ fromP x = (u, d)) := ⟨by unfold fromOk fromP; rw [HMK.out]; exact ⟨rfl, rfl⟩⟩
    clear b1 S1 hcell hx S0 C1
    have j1 : (0 : Int) ≤ 1 := by omega
    have j2 : (1 : Int) ≤ ((ys.length : Int) + 2) := by omega
    have j3 : ¬ ys.length + 2 = 1 := by omega
    go_wp2
    go_loopw [26] (fun i wr => ∃ (k : Nat) (ps : List Pair) (a1 : Option Addr) (c1 : Nat), k ≤ ys.length + 1 ∧ i = .int .i64 k ∧ ps.length ≤ k ∧ Seal (ps = ((y :: ys).take k).map toP) ∧ Seal (((y :: ys).take k).all toOk = true) ∧
      Seal (St w wr [Res.row 56 2 (.slice a1 ps.length c1) ps.length (pairCells ps), Res.cells (w1.heap.size + 1) [.string u, .string d, .slice a1 ps.length c1, .slice none 0 0], Res.cells w.heap.size noMailV]))
      (fun i _ => ys.length + 1 - (intOf i).toNat)
    case atStart => exact ⟨0, [], none, 0, Nat.zero_le _, rfl, Nat.le_refl _, ⟨rfl⟩, ⟨rfl⟩, S1n⟩
    case round =>
      obtain ⟨k, ps, a1, c1, hk, rfl, hpl, HP, HA, HSt⟩ := hrel
      clear S1n
      by_cases hlt : k < ys.length + 1
      · obtain ⟨z, hz⟩ : ∃ z, (y :: ys)[k]? = some z := ⟨_, List.getElem?_eq_getElem (by simpa using hlt)⟩
        obtain ⟨b', off', e0, hcell⟩ := (HT.out.below HSt.out.below (Nat.le_refl _)) k z hz
        cases e0
        have hzs := HS.out z (List.mem_cons_of_mem _ (List.mem_of_getElem? hz))
        have CZ : Seal _ := ⟨markedAddr_any toT z wr (HM.out.below HSt.out.below (Nat.le_refl _)) hzs⟩
        obtain ⟨⟨u2, d2, ok⟩, hmk⟩ : ∃ r, markedR toT z = r := ⟨_, rfl⟩
        rw [hmk] at CZ
        have HMZ : Seal (markedR toT z = (u2, d2, ok)) := ⟨hmk⟩
        have HZ : Seal ((y :: ys)[k]? = some z) := ⟨hz⟩
        clear hz hmk
        go_wp2_with fail
        refine CZ.out.mono ?_
        rintro e w2 ⟨rfl, b2⟩
        have S2 : Seal _ := ⟨HSt.out.later b2⟩
        obtain ⟨q0, q1, q2, q3, f0, f1, f2, f3⟩ := cells_two S2.out.two.head
        obtain ⟨r0, r1, r2, r3, g0, g1, g2, g3⟩ := cells_two S2.out.three.head
        have l6 := S2.out.two.head.lt
        have l2 := S2.out.three.head.lt
        clear b2 CZ hcell
        cases ok
        · have hq : Seal (headI (x :: y :: ys) = false) := ⟨headI_miss HZ.out (by unfold toOk; rw [HMZ.out])⟩
          have SZ : Seal _ := ⟨((((S2.out.three.set 0 (.string { data := #[] }) (by simp)).set 1 (.string { data := #[] }) (by simp)).set 2 (.slice none 0 0) (by simp)).set 3 (.slice none 0 0) (by simp)).more (.cells #[.string u2, .string d2] 56)⟩
          go_wp2
          refine bodyPost_ret (v := .tuple #[.agg (mailV noMail none 0 none 0), .bool false]) (by simp [results, Tryd.results116, go_sem, noMail, r0, r1, r2, r3, l2]) rfl (HeadIPost.no hq.out SZ.out.below)
        · have hto : toOk z = true ∧ toP z = (u2, d2) := by unfold toOk toP; rw [HMZ.out]; exact ⟨rfl, rfl⟩
          have HA2 : Seal (((y :: ys).take (k + 1)).all toOk = true) := ⟨list_all_succ HZ.out HA.out hto.1⟩
          have HP2 : Seal (ps ++ [(u2, d2)] = ((y :: ys).take (k + 1)).map toP) := ⟨by rw [map_snoc HZ.out, ← HP.out, hto.2]⟩
          have hown := (S2.out.head : World.ownsRow _ _ _ _ _ _ _)
          clear hto
          go_wp2_with (at_builtin; refine wpList_append_own_at _ rfl _ _ 57 rfl 0 56 i0 (.agg #[.string ByteArray.empty, .string ByteArray.empty]) 2 32 Tryd.underlying57 hi hz0 hz1 hz2 rfl (by decide) _ _ _ rfl ((hown.alloc _).alloc _) ⟨w2.heap.size + 1, 0, none⟩ 1 1 [.string u2, .string d2] rfl rfl ?c1 ?c2 ?c3 ?c4 ?c5 ?_)
          case c1 =>
            have h := news_two (w2.alloc (.cells #[.string u2, .string d2] 56)) 56 u2 d2
            simp only [World.size_alloc] at h
            exact h
          case c2 => exact fun v hv => by simp at hv; rcases hv with rfl | rfl <;> rfl
          case c3 => unfold maxLen; omega
          case c4 => omega
          case c5 => exact Nat.zero_le _
          intro v' w7 hown' hgrow _ hat
          have S7 := ((S2.out.more (.cells #[.string u2, .string d2] 56)).more (.cells #[.string u2, .string d2] 56)).app hown' hgrow (by simpa using hat)
          obtain ⟨a5, c5, rfl⟩ := shape_own hown'
          clear q0 q1 q2 q3 f0 f1 f2 f3 r0 r1 r2 r3 g0 g1 g2 g3 hown hown' hgrow hat l6 l2
          obtain ⟨q0, q1, q2, q3, f0, f1, f2, f3⟩ := cells_two S7.two.head
          have S8 : Seal (St w (w7.setCell ⟨w1.heap.size + 1, 2, none⟩ (.slice a5 (ps.length + 1) c5)) [Res.row 56 2 (.slice a5 (ps ++ [(u2, d2)]).length c5) (ps ++ [(u2, d2)]).length (pairCells (ps ++ [(u2, d2)])), Res.cells (w1.heap.size + 1) [.string u, .string d, .slice a5 (ps ++ [(u2, d2)]).length c5, .slice none 0 0], Res.cells w.heap.size noMailV]) := ⟨by
            rw [List.length_append, pairs_snoc]
            exact (S7.two.set 2 (.slice a5 (ps.length + 1) c5) (by simp)).two⟩
          clear S7
          go_wp2
          go_roundw
          case rel => exact ⟨k + 1, ps ++ [(u2, d2)], a5, c5, by omega, by go_num, by simp; omega, HP2, HA2, S8⟩
          case measure => simp [intOf]; omega
      · obtain rfl : k = ys.length + 1 := by omega
        have htk : (y :: ys).take (ys.length + 1) = y :: ys := List.take_of_length_le (by simp)
        have hq : Seal (headI (x :: y :: ys) = true) := ⟨headI_all HF.out.1 (by have := HA.out; rw [htk] at this; exact this)⟩
        have HP2 : Seal (ps = ((x :: y :: ys).drop 1).map toP) := ⟨by rw [HP.out, htk]; rfl⟩
        have HF2 : Seal ((u, d) = firstP (x :: y :: ys)) := ⟨HF.out.2.symm⟩
        obtain ⟨q0, q1, q2, q3, f0, f1, f2, f3⟩ := cells_two HSt.out.two.head
        obtain ⟨r0, r1, r2, r3, g0, g1, g2, g3⟩ := cells_two HSt.out.three.head
        have SZ : Seal _ := ⟨((((HSt.out.three.set 0 (.string u) (by simp)).set 1 (.string d) (by simp)).set 2 (.slice a1 ps.length c1) (by simp)).set 3 (.slice none 0 0) (by simp))⟩
        clear htk
        go_wp2
        refine bodyPost_ret (v := .tuple #[.agg (mailV ⟨u, d, ps, []⟩ a1 c1 none 0), .bool true]) (by simp [results, Tryd.results116, go_sem, r0, r1, r2, r3]) rfl ⟨u, d, ps, a1, c1, by rw [hq.out], SZ.out.below, SZ.out.two.rowAt, fun _ => ⟨HF2.out, HP2.out⟩⟩
end Go.Proofs.YtfacdiimoncnnaaDoor
