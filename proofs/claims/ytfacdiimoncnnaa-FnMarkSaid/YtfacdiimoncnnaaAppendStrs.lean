/- A row of texts behind a row of the call's own. -/
import Derived.Test.YtfacdiimoncnnaaHopPut
import Derived.Test.YtfacdiimoncnnaaOwn
import Derived.BigFrame
import Derived.Laws.AppendOwnNone
import Derived.Laws.OwnMore
namespace Go.Proofs.Ytfacdiimoncnnaa
open Go Go.RowKit
section
variable {w : World} {ops : Array Oper} {rest : List Oper} {o : Oper} {a : Act} {Q : Exit → Act → World → Prop}
/-- A row of texts behind a row of the call's own, the operation guarded or not. -/
theorem wpList_append_strs (hw : Region.wanted o (yielded ops a.tmps) = true) (s x : Operand) (ho : o.op = .call { callee := .builtin .append, args := #[s, x], argTypes := #[22, 22] })
    (i0 : TypeInfo) (hi : Try.prog.info? 9 = some i0) (hz0 : i0.zero = some (.string ByteArray.empty)) (hz1 : i0.size = 1) (hz2 : i0.bytes = 16)
    (B : Nat) (v : Value) (xs : List ByteArray) (n : Nat) (hn : n = xs.length) (hs : a.eval s = v) (hown : w.ownsRow B 9 1 v n (xs.map Value.string))
    (B2 : Nat) (bo : Option Addr) (c : Nat) (ys : List ByteArray) (hx : a.eval x = .slice bo ys.length c) (hy : Row w B2 bo c ys) (hl : xs.length + ys.length ≤ 100000) (hB : B ≤ w.heap.size) (zs : List ByteArray) (hzs : zs = xs ++ ys)
    (h : ∀ v' w', w'.ownsRow B 9 1 v' zs.length (zs.map Value.string) → w.grownBy w' v.ownBlock → wpList Try.prog ops Q rest (a.put o.dst v') w') : wpList Try.prog ops Q (o :: rest) a w := by
  subst hn hzs
  rcases hy.2 with ⟨hv, hn⟩ | ⟨g, cap, cur, hv, _⟩
  · obtain rfl : ys = [] := List.length_eq_zero_iff.1 hn
    rw [hv] at hx
    refine BigFrame.wpList_want hw fun K hK => ?_
    have hrun := run_append_owned_none (P := Try.prog) (w := w) B 22 o.type 9 i0 1 Try.underlying22 hi v xs.length (xs.map Value.string) hown
    unfold Oper.wp execOp
    simp only [ho, resolve, invoke, builtin, Sem.run_bind, Sem.run_pure, Result.andThen_ok, List.map_toArray, List.map_cons, List.map_nil, hs, hx, hrun]
    exact hK _ _ (h v w (by rw [List.append_nil]; exact hown) (World.grownBy.refl _ _))
  · have hv' := hv
    simp only [Value.slice.injEq, true_and] at hv'
    obtain ⟨rfl, rfl⟩ := hv'
    refine BigFrame.wpList_want hw fun K hK => ?_
    refine wp_append_own w s x 22 ho B 9 i0 (.string ByteArray.empty) 1 16 Try.underlying22 hi hz0 hz1 hz2 rfl (by decide) v xs.length (xs.map Value.string) hs hown ⟨g, 0, none⟩ ys.length c (ys.map Value.string) hx (by simp) (news_row hy.strs) (strs_one ys) (by unfold maxLen; omega) (by omega) hB fun v' w' h2 h3 _ => hK _ _ (h v' w' ?_ h3)
    rw [List.length_append, List.map_append]; exact h2
end
end Go.Proofs.Ytfacdiimoncnnaa
