/- Contract: rules and a mail drawn, once more. -/
import Derived.Test.YtgniokkiejoccaaDoorDrawSieveFor
namespace Go.Proofs.YtgniokkiejoccaaDoor
open Go Go.RowKit

set_option maxHeartbeats 1600000 in
set_option maxRecDepth 100000 in
theorem drawSieveDo_any (ao : Option Addr) (len cap : Nat) (w : World) (hr : ByteRow w ao len) (hl : len ≤ cap) (hc : cap ≤ maxLen) :
    Calls Tryd.prog 15 #[.slice ao len cap] w fun e w' => ∃ xs bo d m a1 c1 a2 c2, e = .returned (.tuple #[.slice bo xs.length d, .agg (mailV m a1 c1 a2 c2)]) ∧ Rules5 xs ∧ Drawn m ∧ St w w' [Res.mail m a1 c1 a2 c2, rulesR bo d xs] := by
  have S0 : Seal _ := ⟨(St.start w).alloc #[.string { data := #[] }, .string { data := #[] }, .slice none 0 0, .slice none 0 0] 29⟩
  have C : Seal _ := ⟨drawSieveFor_any ao len cap _ (hr.below S0.out.below (Nat.le_refl _)) hl hc⟩
  clear hr hl hc
  go_enter Tryd.func15, Tryd.ntmps15
  go_wp2_with fail
  refine C.out.mono ?_
  rintro e w1 ⟨xs, bo, d, m, a1, c1, a2, c2, rfl, hx, hd, k1⟩
  have HX : Seal _ := ⟨hx⟩
  have HD : Seal _ := ⟨hd⟩
  have S1 : Seal (St w w1 [Res.mail m a1 c1 a2 c2, rulesR bo d xs, Res.cells w.heap.size noMailV]) := ⟨S0.out.join k1⟩
  obtain ⟨r0, r1, r2, r3, f0, f1, f2, f3⟩ := cells_two S1.out.three.head
  clear k1 S0 C hx hd
  go_wp2
  refine bodyPost_ret (v := .tuple #[.slice bo xs.length d, .agg (mailV m a1 c1 a2 c2)]) (by simp [results, Tryd.results15, go_sem, r0, r1, r2, r3]) rfl ⟨xs, bo, d, m, a1, c1, a2, c2, rfl, HX.out, HD.out, ?_⟩
  have s4 := (((S1.out.three.set 0 (.string m.fu) (by simp)).set 1 (.string m.fd) (by simp)).set 2 (.slice a1 m.rc.length c1) (by simp)).set 3 (.slice a2 m.body.length c2) (by simp)
  exact s4.tail
end Go.Proofs.YtgniokkiejoccaaDoor
