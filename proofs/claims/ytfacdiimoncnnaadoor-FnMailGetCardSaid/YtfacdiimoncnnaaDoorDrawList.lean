/- Contracts: rows of lines drawn. -/
import Derived.Test.YtfacdiimoncnnaaDoorDrawBody
namespace Go.Proofs.YtfacdiimoncnnaaDoor
open Go Go.RowKit

theorem Rd.grown {B b P : Nat} {w w' : World} {r : Option Nat} (h : Rd B b P w) (hg : w.grownBy w' r) (hr : ∀ k, r = some k → b < k) : Rd B b P w' := by
  have hl := h.lt
  have hb : Below B w w' := (Below.refl B w).grown hg (by omega) fun k hk => by have := hr k hk; omega
  obtain ⟨ao, n, cap, p, h1, h2, h3, h4, h5, h6⟩ := h
  exact ⟨ao, n, cap, p, h1, (hg.block b hl.2 fun e => by have := hr b e.symm; omega).trans h2, h3, h4, h5, h6.kept hb h5⟩
theorem grow_own {w W W' : World} {r r' : Option Nat} (h : w.grownBy W r) (hg : W.grownBy W' r') (hr : ∀ k, r' = some k → w.heap.size ≤ k) : w.grownBy W' r :=
  ⟨hg.os.trans h.os, hg.tape.trans h.tape, hg.output.trans h.output, Nat.le_trans h.size hg.size, fun k hk hne => (hg.block k (Nat.lt_of_lt_of_le hk h.size) (fun e => by have := hr k e.symm; omega)).trans (h.block k hk hne)⟩

set_option maxHeartbeats 1000000 in
set_option maxRecDepth 100000 in
theorem l20Body_any (B b P most : Nat) (w : World) (h : Rd B b P w) (hP : P ≤ 900000) (hm : most ≤ 20) :
    Calls Tryd.prog 185 #[.pointer (some ⟨b, 0, none⟩), .int .i64 (most : Int)] w fun e w' => ∃ ao cap xs, xs.length ≤ most ∧ (∀ x ∈ xs, x.size ≤ 40) ∧ e = .returned (.slice ao xs.length cap) ∧ Row w' w.heap.size ao cap xs ∧ Rd B b (P + 21) w' ∧ w.grownBy w' (some b) := by
  obtain ⟨i0, hi, hz0, hz1, hz2⟩ := info_parts infoS
  have HP := Lib.hid hP
  have hbw := h.lt.2
  have H := Lib.hid (h.more' (.cells #[] 9))
  clear hP h
  go_enter Tryd.func185, Tryd.ntmps185
  go_wp2_with fail
  refine (pick_at (most + 1) H.out (by go_num) (by have := HP.out; omega) (by omega) (by omega)).mono ?_
  rintro e w1 ⟨N, rfl, hN, h1, g1⟩
  have O1 := Lib.hid ((World.ownsRow_made (e := 9) w #[] 0 (Nat.le_refl _) (by unfold maxLen; omega) rfl).kept (row := some b) g1 (.inr (by simp [Value.ownBlock]; omega)) : w1.ownsRow w.heap.size 9 1 (.slice (some ⟨w.heap.size, 0, none⟩) 0 0) 0 [])
  have H1 := Lib.hid h1
  have G1 := Lib.hid (grow_alloc g1)
  clear h1 g1 H
  go_wp2_with fail
  go_loopw [5, 6] (fun o i wr => ∃ (n : Nat) (xs : List ByteArray), i = .int .i64 n ∧ n + xs.length = N ∧ Hid (∀ x ∈ xs, x.size ≤ 40) ∧ wr.ownsRow w.heap.size 9 1 o xs.length (xs.map Value.string) ∧ Hid (Rd B b (P + 1 + xs.length) wr) ∧ Hid (w.grownBy wr (some b))) (fun _ i _ => (intOf i).toNat)
  case atStart => exact ⟨N, [], rfl, rfl, Lib.hid (fun x hx => by cases hx), O1.out, H1.out, G1.out⟩
  case round =>
    obtain ⟨n, xs, rfl, hn, HS, hown, HR, HG⟩ := hrel
    obtain ⟨ao, cap, rfl⟩ := shape_own hown
    clear O1 H1 G1
    have hgs := HG.out.size
    by_cases h0 : 0 < n
    · go_wp2_with fail
      refine (l20Line_any B b _ _ HR.out (by have := HP.out; omega)).mono ?_
      rintro e w2 ⟨x, hx, rfl, h2, g2⟩
      have HS2 : Hid (∀ y ∈ xs ++ [x], y.size ≤ 40) := Lib.hid (fun y hy => by
        rcases List.mem_append.1 hy with hy | hy
        · exact HS.out y hy
        · rw [List.mem_singleton.1 hy]; exact hx)
      have hown2 := hown.kept g2 (by
        cases e : (Value.slice ao xs.length cap).ownBlock with
        | none => exact .inl rfl
        | some k => exact .inr (by have := (hown.lt k e).1; simp; omega))
      have HR2 := Lib.hid h2
      have HG2 := Lib.hid (HG.out.trans g2)
      have hgs2 := HG2.out.size
      clear hown HR HG g2 h2 hx
      go_wp2_with (at_builtin; refine wpList_append_own _ rfl _ _ 22 rfl w.heap.size 9 i0 (.string ByteArray.empty) 1 16 Tryd.underlying22 hi hz0 hz1 hz2 rfl (by decide) _ _ _ rfl (hown2.alloc _) ⟨w2.heap.size, 0, none⟩ 1 1 [.string x] rfl rfl ?c1 ?c2 ?c3 ?c4 ?c5 ?_)
      case c1 => exact cell_one_new _ _ _
      case c2 => intro u hu; simp at hu; subst hu; rfl
      case c3 => unfold maxLen; omega
      case c4 => omega
      case c5 => simp; omega
      intro v' w3 hown' hgrow _
      have hlt : ∀ k, (Value.slice ao xs.length cap).ownBlock = some k → w.heap.size ≤ k := fun k e => (hown2.lt k e).1
      have HR3 := Lib.hid ((HR2.out.more' (.cells #[.string x] 9)).grown hgrow (fun k e => by have := hlt k e; omega))
      have HG3 := Lib.hid (grow_own (grow_more' HG2.out (.cells #[.string x] 9)) hgrow hlt)
      have ho1 := snoc_own hown'
      clear hown2 hgrow hown' HR2 HG2
      go_wp2
      go_roundw
      case rel => exact ⟨n - 1, xs ++ [x], by go_num, by rw [List.length_append, List.length_singleton]; omega, HS2, ho1, Lib.hid (HR3.out.mono (by rw [List.length_append, List.length_singleton]; omega)), HG3⟩
      case measure => simp [intOf]; omega
    · obtain rfl : n = 0 := by omega
      go_wp2
      go_ret
      exact ⟨ao, cap, xs, by omega, HS.out, rfl, hown, HR.out.mono (by omega), HG.out⟩
end Go.Proofs.YtfacdiimoncnnaaDoor
