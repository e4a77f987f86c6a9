/- Contracts: slices.Clone at numbers, texts and addresses; a mail cloned. -/
import Derived.Test.YtgniokkiejoccaaDoorInts
import Derived.Test.YtgniokkiejoccaaDoorMails
import Derived.Test.YtgniokkiejoccaaDoorHopPut
import Derived.Lib.SliceRun
namespace Go.Proofs.YtgniokkiejoccaaDoor
open Go Go.RowKit

theorem infoAddr3 : (Tryd.prog.info? 25).map (fun i => (i.zero, i.size, i.bytes)) = some (some (.agg #[.string ByteArray.empty, .string ByteArray.empty]), 2, 32) := by kernel_rfl

/-- The cells of a row of the call's own, one by one. -/
theorem own_news {w : World} {B : Nat} {e : TypeId} {size n cap g : Nat} {xs : List Value} (h : w.ownsRow B e size (.slice (some ⟨g, 0, none⟩) n cap) n xs) : ∀ j u, xs[j]? = some u → w.cell? ((⟨g, 0, none⟩ : Addr).add j) = some u := by
  intro j u hj
  have hl : j < n * size := by
    have := (List.getElem?_eq_some_iff.1 hj).1
    rw [h.1] at this; exact this
  have hc := h.cellAt j hl
  by_cases h0 : j = 0
  · subst h0; simpa [Addr.add] using hc.trans hj
  · simpa [Addr.add, h0] using hc.trans hj
theorem own_split {w : World} {B : Nat} {e : TypeId} {size n cap : Nat} {ao : Option Addr} {xs : List Value} (h : w.ownsRow B e size (.slice ao n cap) n xs) : (ao = none ∧ n = 0 ∧ cap = 0) ∨ ∃ g, ao = some ⟨g, 0, none⟩ := by
  rcases h.2 with ⟨hv, hn⟩ | ⟨g, c, cur, hv, _⟩
  · simp only [Value.slice.injEq] at hv
    exact .inl ⟨hv.1, hn, hv.2.2⟩
  · simp only [Value.slice.injEq] at hv
    exact .inr ⟨g, hv.1⟩
theorem own_away {w : World} {B : Nat} {e : TypeId} {size n k j : Nat} {v : Value} {xs : List Value} (h : w.ownsRow B e size v n xs) (u : Value) (hk : ∀ g, v.ownBlock = some g → g ≠ k) : (w.setCell ⟨k, j, none⟩ u).ownsRow B e size v n xs := by
  refine h.kept (row := some k) ⟨rfl, rfl, rfl, by simp, fun i _ hi => heap_setCell_other w ⟨k, j, none⟩ i u (fun e => hi (by simp [e]))⟩ ?_
  cases e : v.ownBlock with
  | none => exact .inl rfl
  | some g => exact .inr (fun q => hk g e (Option.some.inj q))
theorem ints_one (xs : List Int) : ∀ u ∈ xs.map (Value.int .i64), u.oneCell' = true := by
  intro u hu
  obtain ⟨x, _, rfl⟩ := List.mem_map.1 hu
  rfl
theorem pairs_one' (ps : List Pair) : ∀ u ∈ pairCells ps, u.oneCell' = true := by
  intro u hu
  unfold pairCells at hu
  obtain ⟨p, _, hp⟩ := List.mem_flatMap.1 hu
  simp at hp
  rcases hp with rfl | rfl <;> rfl

set_option maxHeartbeats 800000 in
set_option maxRecDepth 100000 in
theorem cloneStrs_any (B : Nat) (ao : Option Addr) (cap : Nat) (xs : List ByteArray) (w : World) (ho : Row w B ao cap xs) (hl : xs.length ≤ 1048576) :
    Calls Tryd.prog 102 #[.slice ao xs.length cap] w fun e w' => ∃ bo c, e = .returned (.slice bo xs.length c) ∧ Row w' w.heap.size bo c xs ∧ Below w.heap.size w w' := by
  obtain ⟨i0, hi, hz0, hz1, hz2⟩ := info_parts infoS
  have qT : ∀ (w : World) (a : Option Addr) (n c n' c' : Nat), (binOp .eql 27 (.slice a n c) (.slice none n' c')).run Tryd.prog w = .ok (.bool a.isNone) w := fun w a n c n' c' => Lib.run_eql_slice_nil w _ _ a n c n' c' Tryd.underlying27
  rcases own_split ho with ⟨rfl, h0, rfl⟩ | ⟨g, rfl⟩
  · obtain rfl : xs = [] := List.eq_nil_of_length_eq_zero h0
    clear ho
    go_enter Tryd.func102, Tryd.ntmps102
    go_wp2
    go_ret
    exact ⟨none, 0, rfl, World.ownsRow_nil _ _ _ _, Below.refl _ _⟩
  · have HN := Lib.hid (own_news (World.ownsRow.alloc ho (.cells #[] 9)))
    have OW := Lib.hid (World.ownsRow_made (e := 9) (size := 1) w #[] 0 (Nat.le_refl _) (by unfold maxLen; omega) rfl : (w.alloc (.cells #[] 9)).ownsRow w.heap.size 9 1 (.slice (some ⟨w.heap.size, 0, none⟩) 0 0) 0 [])
    clear ho
    go_enter Tryd.func102, Tryd.ntmps102
    go_wp2_with (at_builtin; refine wpList_append_own _ rfl _ _ 27 rfl w.heap.size 9 i0 (.string ByteArray.empty) 1 16 Tryd.underlying27 hi hz0 hz1 hz2 rfl (by decide) _ 0 [] rfl OW.out ⟨g, 0, none⟩ xs.length cap (xs.map Value.string) rfl (by simp) ?c1 ?c2 ?c3 ?c4 ?c5 ?_)
    case c1 => exact HN.out
    case c2 => exact strs_one _
    case c3 => unfold maxLen; omega
    case c4 => omega
    case c5 => simp
    intro v' w2 hown hgrow _
    have hb : Below w.heap.size w w2 := ((Below.refl _ w).alloc (Nat.le_refl _) _).grown hgrow (by simp) (fun k e => by have : w.heap.size = k := Option.some.inj e; omega)
    obtain ⟨bo, c, rfl⟩ := shape_of hown
    have O2 := Lib.hid hown
    clear hown hgrow
    go_wp2
    go_ret
    exact ⟨bo, c, rfl, by unfold Row; simpa using O2.out, hb⟩

set_option maxHeartbeats 800000 in
set_option maxRecDepth 100000 in
theorem cloneAddrs_any (B : Nat) (ao : Option Addr) (cap : Nat) (ps : List Pair) (w : World) (ho : PRow w B 25 ao cap ps) (hl : ps.length ≤ 1048576) :
    Calls Tryd.prog 101 #[.slice ao ps.length cap] w fun e w' => ∃ bo c, e = .returned (.slice bo ps.length c) ∧ PRow w' w.heap.size 25 bo c ps ∧ Below w.heap.size w w' := by
  obtain ⟨i0, hi, hz0, hz1, hz2⟩ := info_parts infoAddr3
  have qT : ∀ (w : World) (a : Option Addr) (n c n' c' : Nat), (binOp .eql 26 (.slice a n c) (.slice none n' c')).run Tryd.prog w = .ok (.bool a.isNone) w := fun w a n c n' c' => Lib.run_eql_slice_nil w _ _ a n c n' c' Tryd.underlying26
  rcases own_split ho with ⟨rfl, h0, rfl⟩ | ⟨g, rfl⟩
  · obtain rfl : ps = [] := List.eq_nil_of_length_eq_zero h0
    clear ho
    go_enter Tryd.func101, Tryd.ntmps101
    go_wp2
    go_ret
    exact ⟨none, 0, rfl, World.ownsRow_nil _ _ _ _, Below.refl _ _⟩
  · have HN := Lib.hid (own_news (World.ownsRow.alloc ho (.cells #[] 25)))
    have OW := Lib.hid (World.ownsRow_made (e := 25) (size := 2) w #[] 0 (Nat.le_refl _) (by unfold maxLen; omega) rfl : (w.alloc (.cells #[] 25)).ownsRow w.heap.size 25 2 (.slice (some ⟨w.heap.size, 0, none⟩) 0 0) 0 [])
    clear ho
    go_enter Tryd.func101, Tryd.ntmps101
    go_wp2_with (at_builtin; refine wpList_append_own _ rfl _ _ 26 rfl w.heap.size 25 i0 (.agg #[.string ByteArray.empty, .string ByteArray.empty]) 2 32 Tryd.underlying26 hi hz0 hz1 hz2 rfl (by decide) _ 0 [] rfl OW.out ⟨g, 0, none⟩ ps.length cap (pairCells ps) rfl (pairCells_length _) ?c1 ?c2 ?c3 ?c4 ?c5 ?_)
    case c1 => exact HN.out
    case c2 => exact pairs_one' _
    case c3 => unfold maxLen; omega
    case c4 => omega
    case c5 => simp
    intro v' w2 hown hgrow _
    have hb : Below w.heap.size w w2 := ((Below.refl _ w).alloc (Nat.le_refl _) _).grown hgrow (by simp) (fun k e => by have : w.heap.size = k := Option.some.inj e; omega)
    obtain ⟨bo, c, rfl⟩ := shape_of hown
    have O2 := Lib.hid hown
    clear hown hgrow
    go_wp2
    go_ret
    exact ⟨bo, c, rfl, by unfold PRow; simpa using O2.out, hb⟩

set_option maxHeartbeats 1600000 in
set_option maxRecDepth 100000 in
theorem mailClone_any (B : Nat) (m : MailD) (a1 : Option Addr) (c1 : Nat) (a2 : Option Addr) (c2 : Nat) (w : World) (ho : MailOwn w B m a1 c1 a2 c2) (hsz : MailSz 1048576 m) :
    Calls Tryd.prog 86 #[.agg (mailV m a1 c1 a2 c2)] w fun e w' => ∃ b1 d1 b2 d2, e = .returned (.agg (mailV m b1 d1 b2 d2)) ∧ MailOwn w' w.heap.size m b1 d1 b2 d2 ∧ Below w.heap.size w w' := by
  have z1 := hsz.rcl
  have z2 := hsz.bol
  have X0 := Lib.hid ((CellsM.new w (mailV m a1 c1 a2 c2) 29).more (.cells #[.string { data := #[] }, .string { data := #[] }, .slice none 0 0, .slice none 0 0] 29))
  have R0 := Lib.hid (CellsM.new (w.alloc (.cells (mailV m a1 c1 a2 c2) 29)) #[.string { data := #[] }, .string { data := #[] }, .slice none 0 0, .slice none 0 0] 29)
  simp only [World.size_alloc] at R0
  have b0 : Below w.heap.size w ((w.alloc (.cells (mailV m a1 c1 a2 c2) 29)).alloc (.cells #[.string { data := #[] }, .string { data := #[] }, .slice none 0 0, .slice none 0 0] 29)) := ((Below.refl _ _).alloc (Nat.le_refl _) _).alloc (by simp) _
  have O0 := Lib.hid (ho.later b0)
  have HL : Hid (∀ g, (Value.slice a2 m.body.length c2).ownBlock = some g → g < w.heap.size) := Lib.hid fun g e => (World.ownsRow.lt ho.body g e).2
  have HB0 := Lib.hid b0
  clear ho hsz b0
  have hn : w.heap.size ≠ w.heap.size + 1 := by omega
  have hn' : w.heap.size + 1 ≠ w.heap.size := by omega
  go_enter Tryd.func86, Tryd.ntmps86
  go_wp2_with fail
  generalize hW : (w.alloc (.cells (mailV m a1 c1 a2 c2) 29)).alloc (.cells #[.string { data := #[] }, .string { data := #[] }, .slice none 0 0, .slice none 0 0] 29) = W at *
  have hs0 : W.heap.size = w.heap.size + 1 + 1 := by rw [← hW]; simp
  clear hW
  refine (cloneAddrs_any B a1 c1 m.rc W O0.out.rc z1).mono ?_
  rintro e w1 ⟨b1, d1, rfl, o1, hb1⟩
  have hs1 := hb1.size
  have X1 := X0.out.later hb1
  have R1 := Lib.hid (R0.out.later hb1)
  have O1 := Lib.hid (O0.out.later hb1)
  have B1 := Lib.hid (HB0.out.trans (hb1.mono HB0.out.size))
  have P1 := Lib.hid o1
  have q2 := X1.c 2 _ rfl
  have q3 := X1.c 3 _ rfl
  have f2 := X1.f 2 (by simp)
  have XH := Lib.hid X1
  clear X1 o1 hb1 X0 R0 O0 HB0
  go_wp2_with fail
  have X2 := Lib.hid (XH.out.set 2 (.slice b1 m.rc.length d1) (by simp))
  have R2 := Lib.hid (R1.out.far (k' := w.heap.size) (j := 2) (.slice b1 m.rc.length d1) hn)
  have B2 := Lib.hid (B1.out.setCell (p := ⟨w.heap.size, 2, none⟩) (by simp) (.slice b1 m.rc.length d1))
  have P2 := Lib.hid (P1.out.low (k := w.heap.size) (j := 2) (by omega) (.slice b1 m.rc.length d1))
  have Q2 : Hid (Row (w1.setCell ⟨w.heap.size, 2, none⟩ (.slice b1 m.rc.length d1)) B a2 c2 m.body) := Lib.hid (own_away O1.out.body _ (fun g e => by have := HL.out g e; omega))
  have hs2 : (w1.setCell ⟨w.heap.size, 2, none⟩ (.slice b1 m.rc.length d1)).heap.size = w1.heap.size := by simp
  generalize w1.setCell ⟨w.heap.size, 2, none⟩ (.slice b1 m.rc.length d1) = W2 at *
  clear q2 q3 f2 XH R1 B1 P1 O1
  refine (cloneStrs_any B a2 c2 m.body W2 Q2.out z2).mono ?_
  rintro e w3 ⟨b2, d2, rfl, o3, hb3⟩
  have hs3 := hb3.size
  have X3 := X2.out.later hb3
  have R3 := R2.out.later hb3
  have B3 := Lib.hid (B2.out.trans (hb3.mono B2.out.size))
  have P3 := Lib.hid (P2.out.later hb3)
  have NE := Lib.hid (P2.out.ne_row o3 (Nat.le_refl _))
  have Q3 := Lib.hid (show Row w3 W.heap.size b2 d2 m.body from ownsRow_base o3 (by omega))
  have q0 := X3.c 0 _ rfl
  have q1 := X3.c 1 _ rfl
  have q2 := X3.c 2 _ rfl
  have q3 := X3.c 3 _ rfl
  have f3 := X3.f 3 (by simp)
  have r0 := R3.c 0 _ rfl
  have r1 := R3.c 1 _ rfl
  have r2 := R3.c 2 _ rfl
  have r3 := R3.c 3 _ rfl
  have s0 := R3.f 0 (by simp)
  have s1 := R3.f 1 (by simp)
  have s2 := R3.f 2 (by simp)
  have s3 := R3.f 3 (by simp)
  clear X3 R3 o3 hb3 X2 R2 B2 P2 Q2
  go_wp2
  refine bodyPost_ret (v := .agg (mailV m b1 d1 b2 d2)) (by simp [results, Tryd.results86, go_sem, r0, r1, r2, r3]) rfl ⟨b1, d1, b2, d2, rfl, ?_, ?_⟩
  · refine (?_ : MailOwn _ W.heap.size m b1 d1 b2 d2).base (by omega)
    iterate 5 (refine MailOwn.low ?_ (by omega) _ _)
    exact ⟨P3.out, Q3.out, NE.out⟩
  · iterate 5 (refine Below.setCell ?_ (by simp) _)
    exact B3.out
end Go.Proofs.YtgniokkiejoccaaDoor
