/- Contracts: lines with hops ahead drawn; a name and lines drawn; texts compared. -/
import Derived.Test.YtecjifbckjclfaaDoorAppendStrs
import Derived.Test.YtecjifbckjclfaaDoorDrawAny
import Derived.Test.YtecjifbckjclfaaDoorDrawAddr
import Derived.Test.YtecjifbckjclfaaDoorMailFns
namespace Go.Proofs.YtecjifbckjclfaaDoor
open Go Go.RowKit

theorem saTexts_same (ao bo : Option Addr) (c1 c2 : Nat) (xs : List ByteArray) (w : World) (ha : StrRow w ao xs) (hb : StrRow w bo xs) (hl : xs.length ≤ 1048576) :
    Calls Tryd.prog 24 #[.slice ao xs.length c1, .slice bo xs.length c2] w fun e w' => e = .returned (.bool true) ∧ ∃ n, w' = w.drewN n := by
  have HA := Lib.hid ha
  have HB := Lib.hid hb
  clear ha hb
  go_enter Tryd.func24, Tryd.ntmps24
  go_wp2
  go_loopw [5] (fun i wr => ∃ k n : Nat, k ≤ xs.length ∧ i = .int .i64 k ∧ wr = w.drewN n) (fun i _ => xs.length - (intOf i).toNat)
  case atStart => exact ⟨0, 0, Nat.zero_le _, rfl, rfl⟩
  case round =>
    obtain ⟨k, n, hk, rfl, rfl⟩ := hrel
    by_cases hlt : k < xs.length
    · obtain ⟨x, hx⟩ : ∃ x, xs[k]? = some x := ⟨_, List.getElem?_eq_getElem hlt⟩
      obtain ⟨b, off, rfl, hcell⟩ := HA.out k x hx
      obtain ⟨b', off', rfl, hcell'⟩ := HB.out k x hx
      clear hx
      go_wp2
      go_quiet (fail)
      go_wp2
      exact ⟨⟨k + 1, n + nq, by omega, by go_num, rfl⟩, by simp [intOf]; omega⟩
    · go_wp2
      go_ret
      exact ⟨rfl, n, rfl⟩

set_option maxHeartbeats 2000000 in
set_option maxRecDepth 100000 in
theorem drawHopsOf_any (ao : Option Addr) (len cap : Nat) (w : World) (hr : ByteRow w ao len) (hl : len ≤ cap) (hc : cap ≤ maxLen) :
    Calls Tryd.prog 18 #[.slice ao len cap] w fun e w' => ∃ (bo : Option Addr) (c : Nat) (xs : List ByteArray), e = .returned (.slice bo xs.length c) ∧ Row w' w.heap.size bo c xs ∧ xs.length ≤ 17 ∧ (∀ x ∈ xs, x.size ≤ 45) ∧ Below w.heap.size w w' := by
  obtain ⟨i0, hi, hz0, hz1, hz2⟩ := info_parts infoS
  have C := Lib.hid (fun W h1 => l20Open_any ao len cap W h1 hl hc)
  have HR := Lib.hid hr
  clear hr hl hc
  go_enter Tryd.func18, Tryd.ntmps18
  go_wp2_with fail
  refine (C.out _ HR.out).mono ?_
  rintro e w1 ⟨b, rfl, h1, b1⟩
  have B1 := Lib.hid b1
  have hs1 := b1.size
  have hbw := h1.lt.1
  have H1 := Lib.hid (h1.more' (.cells #[] 9))
  have hblt := h1.lt.2
  clear h1 b1
  go_wp2_with fail
  refine (pick_at 5 H1.out rfl (by omega) (by decide) (by decide)).mono ?_
  rintro e w2 ⟨N, rfl, hN, h2, g2⟩
  have O2 := Lib.hid ((World.ownsRow_made (e := 9) w1 #[] 0 (Nat.le_refl _) (by unfold maxLen; omega) rfl).kept (row := some b) g2 (.inr (by simp [Value.ownBlock]; omega)) : w2.ownsRow w1.heap.size 9 1 (.slice (some ⟨w1.heap.size, 0, none⟩) 0 0) 0 [])
  have H2 := Lib.hid h2
  have G2 := Lib.hid (grow_alloc g2)
  clear h2 g2 H1
  go_wp2_with fail
  go_loopw [4, 5] (fun o i wr => ∃ (n : Nat) (xs : List ByteArray), i = .int .i64 n ∧ n + xs.length = N ∧ Hid (∀ x ∈ xs, x.size ≤ 45) ∧ wr.ownsRow w1.heap.size 9 1 o xs.length (xs.map Value.string) ∧ Hid (Rd w.heap.size b (1 + xs.length) wr) ∧ Hid (w1.grownBy wr (some b))) (fun _ i _ => (intOf i).toNat)
  case atStart => exact ⟨N, [], rfl, rfl, Lib.hid (fun x hx => by cases hx), O2.out, H2.out, G2.out⟩
  case round =>
    obtain ⟨n, xs, rfl, hn, HS, hown, HRd, HG⟩ := hrel
    obtain ⟨oo, cc, rfl⟩ := shape_own hown
    clear O2 H2 G2
    have hgs := HG.out.size
    by_cases h0 : 0 < n
    · go_wp2_with fail
      refine (l20Domain_any w.heap.size b _ _ HRd.out (by omega)).mono ?_
      rintro e w3 ⟨x, hx, rfl, h3, g3⟩
      have zx : x.size ≤ 20 := small_of (by decide) hx
      obtain ⟨y, hy⟩ : ∃ y : ByteArray, y = { data := #[72, 111, 112, 58, 32] } ++ x := ⟨_, rfl⟩
      have zy : y.size ≤ 45 := by rw [hy, ByteArray.size_append]; show 5 + x.size ≤ 45; omega
      have HS2 : Hid (∀ z ∈ xs ++ [y], z.size ≤ 45) := Lib.hid (fun z hz => by
        rcases List.mem_append.1 hz with hz | hz
        · exact HS.out z hz
        · rw [List.mem_singleton.1 hz]; exact zy)
      have hown2 := hown.kept g3 (by
        cases e : (Value.slice oo xs.length cc).ownBlock with
        | none => exact .inl rfl
        | some k => exact .inr (by have := (hown.lt k e).1; simp; omega))
      have HR2 := Lib.hid h3
      have HG2 := Lib.hid (HG.out.trans g3)
      have hgs2 := HG2.out.size
      clear hown HRd HG g3 h3 hx
      go_wp2_with (at_builtin; refine wpList_append_own _ rfl _ _ 23 rfl w1.heap.size 9 i0 (.string ByteArray.empty) 1 16 Tryd.underlying23 hi hz0 hz1 hz2 rfl (by decide) _ _ _ rfl (hown2.alloc _) ⟨w3.heap.size, 0, none⟩ 1 1 [.string ({ data := #[72, 111, 112, 58, 32] } ++ x)] rfl rfl ?c1 ?c2 ?c3 ?c4 ?c5 ?_)
      case c1 => exact cell_one_new _ _ _
      case c2 => intro u hu; simp at hu; subst hu; rfl
      case c3 => unfold maxLen; omega
      case c4 => omega
      case c5 => simp; omega
      rw [← hy]
      intro v' w4 hown' hgrow _
      have hlt : ∀ k, (Value.slice oo xs.length cc).ownBlock = some k → w1.heap.size ≤ k := fun k e => (hown2.lt k e).1
      have HR3 := Lib.hid ((HR2.out.more' (.cells #[.string y] 9)).grown hgrow (fun k e => by have := hlt k e; omega))
      have HG3 := Lib.hid (grow_own (grow_more' HG2.out (.cells #[.string y] 9)) hgrow hlt)
      have ho1 := snoc_own hown'
      clear hown2 hgrow hown' HR2 HG2
      go_wp2
      go_roundw
      case rel => exact ⟨n - 1, xs ++ [y], by go_num, by rw [List.length_append, List.length_singleton]; omega, HS2, ho1, Lib.hid (HR3.out.mono (by rw [List.length_append, List.length_singleton]; omega)), HG3⟩
      case measure => simp [intOf]; omega
    · obtain rfl : n = 0 := by omega
      go_wp2_with fail
      refine (l20AnyBody_any w.heap.size b _ _ HRd.out (by omega)).mono ?_
      rintro e w3 ⟨a3, c3, ys, hy13, hys, rfl, ho3, h3, g3⟩
      have hown2 := Lib.hid (hown.kept g3 (by
        cases e : (Value.slice oo xs.length cc).ownBlock with
        | none => exact .inl rfl
        | some k => exact .inr (by have := (hown.lt k e).1; simp; omega)))
      have O3 := Lib.hid ho3
      have HY := Lib.hid hys
      have hs3 := g3.size
      have B3 : Hid (Below w.heap.size w w3) := Lib.hid (((B1.out).grown HG.out hs1 (fun k e => by have : b = k := Option.some.inj e; omega)).grown g3 (by omega) (fun k e => by have : b = k := Option.some.inj e; omega))
      clear hown ho3 hys h3 g3 HRd HG
      go_wp2_with (at_builtin; refine wpList_append_strs (by rfl) _ _ rfl i0 hi hz0 hz1 hz2 w1.heap.size _ xs xs.length rfl rfl hown2.out _ a3 c3 ys rfl O3.out ?d1 ?d2 (xs ++ ys) rfl ?_)
      case d1 => omega
      case d2 => omega
      intro v' w4 hown' hgrow
      have B4 : Below w.heap.size w w4 := B3.out.grown hgrow (by omega) (fun k e => by have := (hown2.out.lt k e).1; omega)
      obtain ⟨a4, c4, rfl⟩ := shape_own hown'
      have O4 := Lib.hid hown'
      clear hown' hgrow
      go_wp2
      go_ret
      refine ⟨a4, c4, xs ++ ys, by rw [List.length_append]; rfl, (by unfold Row; rw [List.length_append, List.map_append]; exact ownsRow_base O4.out hs1), by rw [List.length_append]; omega, fun x hx => ?_, B4⟩
      rcases List.mem_append.1 hx with hx | hx
      · exact HS.out x hx
      · exact HY.out x hx

set_option maxHeartbeats 2000000 in
set_option maxRecDepth 100000 in
theorem drawHopPut_any (ao : Option Addr) (len cap : Nat) (w : World) (hr : ByteRow w ao len) (hl : len ≤ cap) (hc : cap ≤ maxLen) :
    Calls Tryd.prog 20 #[.slice ao len cap] w fun e w' => ∃ (d : ByteArray) (v : Value), d.size ≤ 20 ∧ e = .returned (.tuple #[.string d, v]) ∧ Below w.heap.size w w' := by
  have C := Lib.hid (fun W h1 => l20Open_any ao len cap W h1 hl hc)
  have HR := Lib.hid hr
  clear hr hl hc
  go_enter Tryd.func20, Tryd.ntmps20
  go_wp2_with fail
  refine (C.out _ HR.out).mono ?_
  rintro e w1 ⟨b, rfl, h1, b1⟩
  go_wp2_with fail
  refine (l20AnyAddr_any w.heap.size b 0 _ h1 (by omega)).mono ?_
  rintro e w2 ⟨u, d, hu, hd, rfl, h2, g2⟩
  have b2 := b1.trans (h1.below g2 (Nat.le_refl _))
  have H2 := Lib.hid h2
  have hfd : ∀ w : World, (Instr.field 33 (.agg #[.string u, .string d]) 1).run Tryd.prog w = .ok (.string d) w := fun _ => by kernel_rfl
  clear h1 b1 g2 h2
  go_wp2_with fail
  refine (l20AnyBody_any w.heap.size b _ _ H2.out (by omega)).mono ?_
  rintro e w3 ⟨a3, c3, ys, _, _, rfl, _, h3, g3⟩
  have b3 := b2.trans (H2.out.below g3 (Nat.le_refl _))
  clear b2 g3 h3
  go_wp2
  go_ret2
  exact ⟨d, _, hd, rfl, b3⟩
end Go.Proofs.YtecjifbckjclfaaDoor
