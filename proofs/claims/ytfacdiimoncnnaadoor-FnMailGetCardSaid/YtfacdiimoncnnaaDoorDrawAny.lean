/- Contracts: a number of a list drawn; lines that are ok or not. -/
import Derived.Test.YtfacdiimoncnnaaDoorDrawList
namespace Go.Proofs.YtfacdiimoncnnaaDoor
open Go Go.RowKit

/-- 'one': one of the numbers; each is at most m. -/
theorem one_at {B b P n k m : Nat} {cs : Array Value} (xs : List Nat) {w : World} (h : Rd B b P w) (hk : k = w.heap.size) (hP : P ≤ 1000000) (hcs : cs.toList = xs.map fun (x : Nat) => Value.int .i64 (x : Int)) (hn : n = xs.length) (h0 : 1 ≤ xs.length) (h1 : xs.length ≤ 1000000) (hm : ∀ x ∈ xs, x ≤ m) :
    Calls Tryd.prog 175 #[.pointer (some ⟨b, 0, none⟩), .slice (some ⟨k, 0, none⟩) n n] (w.alloc (.cells cs 3)) fun e w' => ∃ x : Nat, x ≤ m ∧ e = .returned (.int .i64 (x : Int)) ∧ Rd B b (P + 1) w' ∧ w.grownBy w' (some b) := by
  subst hk hn
  have hbw := h.lt.2
  have HM := Lib.hid hm
  have H := Lib.hid (h.more' (.cells cs 3))
  have hc : ∀ (j x : Nat), xs[j]? = some x → (w.alloc (.cells cs 3)).cell? ⟨w.heap.size, j, none⟩ = some (.int .i64 (x : Int)) := fun j x hx => by
    rw [World.cell?_alloc_new w cs 3 j, ← Array.getElem?_toList, hcs, List.getElem?_map, hx]; rfl
  have HC := Lib.hid hc
  have HG : Hid (∀ w', (w.alloc (.cells cs 3)).grownBy w' (some b) → w.grownBy w' (some b)) := Lib.hid fun w' g => grow_alloc g
  clear hc hcs hm h
  generalize hW : w.alloc (.cells cs 3) = W at *
  go_enter Tryd.func175, Tryd.ntmps175
  go_wp2_with fail
  refine (pick_at xs.length H.out rfl hP h0 h1).mono ?_
  rintro e w1 ⟨i, rfl, hi, h2, g2⟩
  obtain ⟨x, hx⟩ : ∃ x, xs[i]? = some x := ⟨_, List.getElem?_eq_getElem hi⟩
  have hc1 : w1.cell? ⟨w.heap.size, i, none⟩ = some (.int .i64 (x : Int)) := g2.cell (HC.out i x hx) (fun e => by have := Option.some.inj e; simp at this; omega)
  have HX := Lib.hid (HM.out x (List.mem_of_getElem? hx))
  have H2 := Lib.hid h2
  have G2 := Lib.hid g2
  clear hx h2 g2
  go_wp2
  go_ret
  exact ⟨x, HX.out, rfl, H2.out, HG.out _ G2.out⟩

def lenOfV : Value → Nat
  | .slice _ n _ => n
  | _ => 0
def anyL : List ByteArray := [⟨#[97, 13]⟩, ⟨#[97, 10, 98]⟩, ⟨#[127]⟩, ⟨#[97, 32, 108, 105, 110, 101, 32, 116, 104, 97, 116, 32, 105, 115, 32, 111, 110, 101, 32, 98, 121, 116, 101, 32, 108, 111, 110, 103, 101, 114, 32, 116, 104, 97, 110, 32, 102, 111, 114, 116, 121]⟩]

set_option maxHeartbeats 1000000 in
set_option maxRecDepth 100000 in
theorem l20AnyBody_any (B b P : Nat) (w : World) (h : Rd B b P w) (hP : P ≤ 800000) :
    Calls Tryd.prog 172 #[.pointer (some ⟨b, 0, none⟩)] w fun e w' => ∃ ao cap xs, xs.length ≤ 13 ∧ (∀ x ∈ xs, x.size ≤ 45) ∧ e = .returned (.slice ao xs.length cap) ∧ Row w' w.heap.size ao cap xs ∧ Rd B b (P + 40) w' ∧ w.grownBy w' (some b) := by
  obtain ⟨i0, hi, hz0, hz1, hz2⟩ := info_parts infoS
  have HP := Lib.hid hP
  have hbw := h.lt.2
  have H := Lib.hid h
  clear hP h
  go_enter Tryd.func172, Tryd.ntmps172
  go_wp2_with fail
  refine (one_at (m := 12) [0, 3, 6, 12] H.out (by simp) (by have := HP.out; omega) rfl rfl (by decide) (by decide) (by decide)).mono ?_
  rintro e w1 ⟨m, hm, rfl, h1, g1⟩
  have H1 := Lib.hid h1
  have G1 := Lib.hid g1
  clear h1 g1 H
  go_wp2_with fail
  refine (l20Body_any B b _ m _ H1.out (by have := HP.out; omega) (by omega)).mono ?_
  rintro e w2 ⟨a2, c2, xs, hx, hs, rfl, r2, h2, g2⟩
  have H2 := Lib.hid h2
  have G2 := Lib.hid (G1.out.trans g2)
  have R2 : Hid (w2.ownsRow w.heap.size 9 1 (.slice a2 xs.length c2) xs.length (xs.map Value.string)) := Lib.hid ⟨r2.1, r2.2.imp id fun ⟨g, cap, cur, a, b, c⟩ => ⟨g, cap, cur, a, Nat.le_trans G1.out.size b, c⟩⟩
  have HS : Hid (∀ x ∈ xs, x.size ≤ 45) := Lib.hid fun x hx => Nat.le_trans (hs x hx) (by omega)
  clear h2 g2 r2 hs G1 H1
  go_wp2_with fail
  refine (pick_at 14 H2.out rfl (by have := HP.out; omega) (by decide) (by decide)).mono ?_
  rintro e w3 ⟨j, rfl, hj, h3, g3⟩
  have H3 := Lib.hid h3
  have G3 := Lib.hid (G2.out.trans g3)
  have R3 := Lib.hid (R2.out.kept g3 (by
    cases e : (Value.slice a2 xs.length c2).ownBlock with
    | none => exact .inl rfl
    | some k => exact .inr (by have := (R2.out.lt k e).1; simp; omega)))
  have hg3 := G3.out.size
  clear h3 g3 H2 G2 R2
  by_cases j0 : j = 0
  · subst j0
    go_wp2_with fail
    refine (of_at' anyL H3.out (by simp) (by have := HP.out; omega) rfl rfl (by decide) (by decide)).mono ?_
    rintro e w4 ⟨x, hx4, rfl, h4, g4⟩
    have zx : x.size ≤ 45 := small_in (by decide) hx4
    have HS2 : Hid (∀ y ∈ xs ++ [x], y.size ≤ 45) := Lib.hid (fun y hy => by
      rcases List.mem_append.1 hy with hy | hy
      · exact HS.out y hy
      · rw [List.mem_singleton.1 hy]; exact zx)
    have H4 := Lib.hid h4
    have G4 := Lib.hid (G3.out.trans g4)
    have R4 := Lib.hid (R3.out.kept g4 (by
      cases e : (Value.slice a2 xs.length c2).ownBlock with
      | none => exact .inl rfl
      | some k => exact .inr (by have := (R3.out.lt k e).1; simp; omega)))
    have hg4 := G4.out.size
    clear hx4 h4 g4 H3 G3 R3
    go_wp2_with (at_builtin; refine wpList_append_own _ rfl _ _ 22 rfl w.heap.size 9 i0 (.string ByteArray.empty) 1 16 Tryd.underlying22 hi hz0 hz1 hz2 rfl (by decide) _ _ _ rfl (R4.out.alloc _) ⟨w4.heap.size, 0, none⟩ 1 1 [.string x] rfl rfl ?c1 ?c2 ?c3 ?c4 ?c5 ?_)
    case c1 => exact cell_one_new _ _ _
    case c2 => intro u hu; simp at hu; subst hu; rfl
    case c3 => unfold maxLen; omega
    case c4 => omega
    case c5 => simp; omega
    intro v' w5 hown' hgrow _
    have hlt : ∀ k, (Value.slice a2 xs.length c2).ownBlock = some k → w.heap.size ≤ k := fun k e => (R4.out.lt k e).1
    have H5 := Lib.hid ((H4.out.more' (.cells #[.string x] 9)).grown hgrow (fun k e => by have := hlt k e; omega))
    have G5 := Lib.hid (grow_own (grow_more' G4.out (.cells #[.string x] 9)) hgrow hlt)
    have ho1 := snoc_own hown'
    obtain ⟨a5, c5, rfl⟩ := shape_own ho1
    have O5 := Lib.hid ho1
    clear hown' hgrow ho1 H4 G4 R4
    go_wp2
    go_ret
    exact ⟨a5, c5, xs ++ [x], by rw [List.length_append, List.length_singleton]; omega, HS2.out, by simp, O5.out, H5.out.mono (by omega), G5.out⟩
  · have hb0 : ((j : Int) == 0) = false := by rw [beq_eq_false_iff_ne]; omega
    by_cases j1 : j = 1
    · subst j1
      go_wp2_with fail
      go_loopw [3] (fun o wr => ∃ ys : List ByteArray, ys.length ≤ 13 ∧ Hid (∀ x ∈ ys, x.size ≤ 45) ∧ wr.ownsRow w.heap.size 9 1 o ys.length (ys.map Value.string) ∧ Hid (Rd B b (P + 40) wr) ∧ Hid (w.grownBy wr (some b))) (fun o _ => 13 - lenOfV o)
      case atStart => exact ⟨xs, by omega, HS, R3.out, Lib.hid (H3.out.mono (by omega)), G3⟩
      case round =>
        obtain ⟨ys, hy, HSy, hown, HR, HG⟩ := hrel
        obtain ⟨ay, cy, rfl⟩ := shape_own hown
        clear R3 H3 G3
        have hgs := HG.out.size
        by_cases hlt : ys.length < 13
        · go_wp2_with (at_builtin; refine wpList_append_own _ rfl _ _ 22 rfl w.heap.size 9 i0 (.string ByteArray.empty) 1 16 Tryd.underlying22 hi hz0 hz1 hz2 rfl (by decide) _ _ _ rfl (hown.alloc _) ⟨wr.heap.size, 0, none⟩ 1 1 [.string { data := #[120] }] rfl rfl ?d1 ?d2 ?d3 ?d4 ?d5 ?_)
          case d1 => exact cell_one_new _ _ _
          case d2 => intro u hu; simp at hu; subst hu; rfl
          case d3 => unfold maxLen; omega
          case d4 => omega
          case d5 => simp; omega
          intro v' w5 hown' hgrow _
          have hlt2 : ∀ k, (Value.slice ay ys.length cy).ownBlock = some k → w.heap.size ≤ k := fun k e => (hown.lt k e).1
          have H5 := Lib.hid ((HR.out.more' (.cells #[.string { data := #[120] }] 9)).grown hgrow (fun k e => by have := hlt2 k e; omega))
          have G5 := Lib.hid (grow_own (grow_more' HG.out (.cells #[.string { data := #[120] }] 9)) hgrow hlt2)
          have ho1 := snoc_own hown'
          have HS5 : Hid (∀ y ∈ ys ++ [({ data := #[120] } : ByteArray)], y.size ≤ 45) := Lib.hid (fun y hy => by
            rcases List.mem_append.1 hy with hy | hy
            · exact HSy.out y hy
            · rw [List.mem_singleton.1 hy]; decide)
          obtain ⟨a5, c5, rfl⟩ := shape_own ho1
          clear hown hown' hgrow HR HG
          go_wp2
          go_roundw
          case rel => exact ⟨ys ++ [{ data := #[120] }], by rw [List.length_append, List.length_singleton]; omega, HS5, by simpa using ho1, H5, G5⟩
          case measure => simp [lenOfV]; omega
        · go_wp2
          go_ret
          exact ⟨ay, cy, ys, hy, HSy.out, rfl, hown, HR.out, HG.out⟩
    · have hb1 : ((j : Int) == 1) = false := by rw [beq_eq_false_iff_ne]; omega
      go_wp2
      go_ret
      exact ⟨a2, c2, xs, by omega, HS.out, rfl, R3.out, H3.out.mono (by omega), G3.out⟩
end Go.Proofs.YtfacdiimoncnnaaDoor
