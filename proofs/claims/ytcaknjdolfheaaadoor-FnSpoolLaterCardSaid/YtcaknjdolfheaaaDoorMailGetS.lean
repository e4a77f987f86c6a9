/- Contracts: a mail read, of the model. -/
import Derived.Test.YtcaknjdolfheaaaDoorPlains
import Derived.Test.YtcaknjdolfheaaaDoorBasis
import Derived.Test.YtcaknjdolfheaaaDoorReads
import Derived.Test.YtcaknjdolfheaaaDoorAddrGet
import Derived.Test.YtcaknjdolfheaaaDoorMailPut
import Derived.Test.YtcaknjdolfheaaaDoorMails
import Derived.Test.YtcaknjdolfheaaaDoorMailRes
namespace Go.Proofs.YtcaknjdolfheaaaDoor
open Go Go.RowKit

theorem infoA : (Tryd.prog.info? 27).map (fun i => (i.zero, i.size, i.bytes)) = some (some (.agg #[.string ByteArray.empty, .string ByteArray.empty]), 2, 32) := by kernel_rfl
abbrev noMailV : List Value := [.string { data := #[] }, .string { data := #[] }, .slice none 0 0, .slice none 0 0]

/-- Of the lines ahead of a body: a mail so far, and how many bytes they take; 0, if they are none. -/
def HeadPost (w : World) (ls : List ByteArray) (e : Ending) (w' : World) : Prop :=
  ∃ (u d : ByteArray) (ps : List Pair) (a1 : Option Addr) (c1 : Nat) (p : Int), e = .returned (.tuple #[.agg (mailV ⟨u, d, ps, []⟩ a1 c1 none 0), .int .i64 p]) ∧ Below w.heap.size w w' ∧
    ((headS ls = false ∧ p = 0) ∨ (headS ls = true ∧ p = (headAt ls : Nat) ∧ (u, d) = firstP ls ∧ ps = tosOf ls ∧ PRow w' w.heap.size 27 a1 c1 ps))

theorem firstP_ne {ls : List ByteArray} {k : Nat} (hk : k ≠ 0) : whoK ls k = firstP ls := by unfold whoK; rw [if_neg hk]

theorem news_two (w : World) (t : TypeId) (u d : ByteArray) : ∀ (j : Nat) (x : Value), ([.string u, .string d] : List Value)[j]? = some x → (w.alloc (.cells #[.string u, .string d] t)).cell? ((⟨w.heap.size, 0, none⟩ : Addr).add j) = some x := by
  intro j x hx
  match j with
  | 0 => simp at hx; subst hx; exact (TwoAt.new w (.string u) (.string d) t).1
  | 1 => simp at hx; subst hx; exact (TwoAt.new w (.string u) (.string d) t).2.1
  | j + 2 => simp at hx
theorem pairs_snoc (ps : List Pair) (p : Pair) : pairCells (ps ++ [p]) = pairCells ps ++ [.string p.1, .string p.2] := by simp [pairCells]
theorem fill4 {w wr : World} {A B C : Res} {k : Nat} {x0 x1 x2 x3 : Value} (h : St w wr [A, B, C, Res.cells k [x0, x1, x2, x3]]) (v0 v1 v2 v3 : Value) : St w ((((wr.setCell ⟨k, 0, none⟩ v0).setCell ⟨k, 1, none⟩ v1).setCell ⟨k, 2, none⟩ v2).setCell ⟨k, 3, none⟩ v3) [Res.cells k [v0, v1, v2, v3], A, B, C] :=
  (((h.four.set 0 v0 (by simp)).set 1 v1 (by simp)).set 2 v2 (by simp)).set 3 v3 (by simp)
theorem no_ends {w w' : World} {ls : List ByteArray} {u d : ByteArray} {ps : List Pair} {a1 : Option Addr} {c1 : Nat} (h : headS ls = false) (hb : Below w.heap.size w w') : HeadPost w ls (.returned (.tuple #[.agg (mailV ⟨u, d, ps, []⟩ a1 c1 none 0), .int .i64 0])) w' :=
  ⟨u, d, ps, a1, c1, 0, rfl, hb, .inl ⟨h, rfl⟩⟩

end Go.Proofs.YtcaknjdolfheaaaDoor
