/- A mail's two rows, each by itself; and together. -/
import Derived.Test.YtcaknjdolfheaaaDoorMailRes
namespace Go.Proofs.YtcaknjdolfheaaaDoor
open Go Go.RowKit

/-- A mail's two rows, each by itself; and together. -/
theorem StX.split {X : Nat → Prop} {w0 w : World} {l : List Res} {m : MailD} {a1 : Option Addr} {c1 : Nat} {a2 : Option Addr} {c2 : Nat} (h : StX X w0 w (Res.mail m a1 c1 a2 c2 :: l)) :
    StX X w0 w (Res.row 27 2 (.slice a1 m.rc.length c1) m.rc.length (pairCells m.rc) :: Res.row 9 1 (.slice a2 m.body.length c2) m.body.length (m.body.map Value.string) :: l) := by
  have hap := List.pairwise_cons.1 h.apart
  have e1 : ∀ i, (Value.slice a1 m.rc.length c1).ownBlock = some i → mailS a1 a2 i := fun i hi => .inl (by rw [← own_block a1 m.rc.length c1]; exact hi)
  have e2 : ∀ i, (Value.slice a2 m.body.length c2).ownBlock = some i → mailS a1 a2 i := fun i hi => .inr (by rw [← own_block a2 m.body.length c2]; exact hi)
  refine ⟨h.grown, fun q hq => ?_, .cons (fun q hq i hi hj => ?_) (.cons (fun q hq i hi hj => hap.1 q hq i (e2 i hi) hj) hap.2)⟩
  · rcases List.mem_cons.1 hq with rfl | hq
    · exact ⟨h.head.rc, fun i hi => h.low i (e1 i hi)⟩
    · rcases List.mem_cons.1 hq with rfl | hq
      · exact ⟨h.head.body, fun i hi => h.low i (e2 i hi)⟩
      · exact h.fits q (List.mem_cons_of_mem _ hq)
  · rcases List.mem_cons.1 hq with rfl | hq
    · have n1 := h.head.ne.1
      have f1 : blockOf a1 = some i := by rw [← own_block a1 m.rc.length c1]; exact hi
      have f2 : blockOf a2 = some i := by rw [← own_block a2 m.body.length c2]; exact hj
      rcases n1 with n1 | n1
      · rw [n1] at f1; cases f1
      · exact n1 (f1.trans f2.symm)
    · exact hap.1 q hq i (e1 i hi) hj
theorem StX.mailJoin {X : Nat → Prop} {w0 w : World} {l : List Res} {m : MailD} {a1 : Option Addr} {c1 : Nat} {a2 : Option Addr} {c2 : Nat} (h : StX X w0 w (Res.row 27 2 (.slice a1 m.rc.length c1) m.rc.length (pairCells m.rc) :: Res.row 9 1 (.slice a2 m.body.length c2) m.body.length (m.body.map Value.string) :: l)) : MailOwn w w0.heap.size m a1 c1 a2 c2 :=
  ⟨h.rowAt, h.two.rowAt, by have q := h.ne; rw [own_block, own_block] at q; exact q⟩

theorem StX.some {X : Nat → Prop} {w0 w : World} {l l' : List Res} (h : StX X w0 w l) (hs : l'.Sublist l) : StX X w0 w l' :=
  ⟨h.grown, fun r hr => h.fits r (hs.subset hr), h.apart.sublist hs⟩
end Go.Proofs.YtcaknjdolfheaaaDoor
