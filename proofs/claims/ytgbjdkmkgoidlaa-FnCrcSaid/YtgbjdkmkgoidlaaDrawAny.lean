/- Contracts: a number of a list drawn; lines that are ok or not. -/
import Derived.Test.YtgbjdkmkgoidlaaDrawList
namespace Go.Proofs.Ytgbjdkmkgoidlaa
open Go Go.RowKit

/-- 'one': one of the numbers; each is at most m. -/
theorem one_at {B b P n k m : Nat} {cs : Array Value} (xs : List Nat) {w : World} (h : Rd B b P w) (hk : k = w.heap.size) (hP : P ≤ 1000000) (hcs : cs.toList = xs.map fun (x : Nat) => Value.int .i64 (x : Int)) (hn : n = xs.length) (h0 : 1 ≤ xs.length) (h1 : xs.length ≤ 1000000) (hm : ∀ x ∈ xs, x ≤ m) :
    Calls Try.prog 14 #[.pointer (some ⟨b, 0, none⟩), .slice (some ⟨k, 0, none⟩) n n] (w.alloc (.cells cs 3)) fun e w' => ∃ x : Nat, x ≤ m ∧ e = .returned (.int .i64 (x : Int)) ∧ Rd B b (P + 1) w' ∧ w.grownBy w' (some b) := by
  subst hk hn
  have hbw := h.lt.2
  have HM := Lib.hid hm
  have H := Lib.hid (h.more' (.cells cs 3))
  have hc : ∀ (j x : Nat), xs[j]? = some x → (w.alloc (.cells cs 3)).cell? ⟨w.heap.size, j, none⟩ = some (.int .i64 (x : Int)) := fun j x hx => by
    rw [World.cell?_alloc_new w cs 3 j, ← Array.getElem?_toList, hcs, List.getElem?_map, hx]; rfl
  have HC := Lib.hid hc
  have HG : Hid (∀ w', (w.alloc (.cells cs 3)).grownBy w' (some b) → w.grownBy w' (some b)) := Lib.hid fun w' g => grow_alloc g
  clear hc hcs hm h
  generalize hW : w.alloc (.cells cs 3) = W at *
  go_enter Try.func14, Try.ntmps14
  go_wp2_with fail
  refine (pick_at xs.length H.out rfl hP h0 h1).mono ?_
  rintro e w1 ⟨i, rfl, hi, h2, g2⟩
  obtain ⟨x, hx⟩ : ∃ x, xs[i]? = some x := ⟨_, List.getElem?_eq_getElem hi⟩
  have hc1 : w1.cell? ⟨w.heap.size, i, none⟩ = some (.int .i64 (x : Int)) := g2.cell (HC.out i x hx) (fun e => by have := Option.some.inj e; simp at this; omega)
  have HX := Lib.hid (HM.out x (List.mem_of_getElem? hx))
  have H2 := Lib.hid h2
  have G2 := Lib.hid g2
  clear hx h2 g2
  go_wp2
  go_ret
  exact ⟨x, HX.out, rfl, H2.out, HG.out _ G2.out⟩

def lenOfV : Value → Nat
  | .slice _ n _ => n
  | _ => 0
def anyL : List ByteArray := [⟨#[97, 13]⟩, ⟨#[97, 10, 98]⟩, ⟨#[127]⟩, ⟨#[97, 32, 108, 105, 110, 101, 32, 116, 104, 97, 116, 32, 105, 115, 32, 111, 110, 101, 32, 98, 121, 116, 101, 32, 108, 111, 110, 103, 101, 114, 32, 116, 104, 97, 110, 32, 102, 111, 114, 116, 121]⟩]

end Go.Proofs.Ytgbjdkmkgoidlaa
