/- Contract: rules and a mail drawn. -/
import Derived.Test.YtgniokkiejoccaaDoorDrawSieve
namespace Go.Proofs.YtgniokkiejoccaaDoor
open Go Go.RowKit

/-- What was drawn goes to the caller's own parts: the reader lies in new memory, in none of them. -/
theorem StX.draws {B b P : Nat} {w0 w1 w : World} {l l' : List Res} (S : St w0 w1 l) (D : Dw B b P w1 w l') (hb : w0.heap.size ≤ b) (hn : ∀ r ∈ l, ¬ r.S b) : St w0 w (l' ++ l) := by
  have G := D.st.grown
  have G0 := S.grown
  refine ⟨⟨G.os.trans G0.os, G.tape.trans G0.tape, G.output.trans G0.output, Nat.le_trans G0.size G.size, fun i hi _ => (G.block i (Nat.lt_of_lt_of_le hi G0.size) (by omega)).trans (G0.block i hi (fun e => e))⟩, fun r hr => ?_, List.pairwise_append.2 ⟨D.st.apart, S.apart, fun r hr q hq i hi hj => ?_⟩⟩
  · rcases List.mem_append.1 hr with hr | hr
    · exact ⟨(D.st.fits r hr).1, fun i hi => ⟨Nat.le_trans G0.size ((D.st.fits r hr).2 i hi).1, ((D.st.fits r hr).2 i hi).2⟩⟩
    · exact ⟨r.loc w1 w (S.fits r hr).1 G.size fun i hi => G.block i ((S.fits r hr).2 i hi).2 fun e => hn r hr (e ▸ hi), fun i hi => ⟨((S.fits r hr).2 i hi).1, Nat.lt_of_lt_of_le ((S.fits r hr).2 i hi).2 G.size⟩⟩
  · have h1 := ((D.st.fits r hr).2 i hi).1
    have h2 := ((S.fits q hq).2 i hj).2
    omega

set_option maxHeartbeats 1600000 in
set_option maxRecDepth 100000 in
theorem drawSieveFor_any (ao : Option Addr) (len cap : Nat) (w : World) (hr : ByteRow w ao len) (hl : len ≤ cap) (hc : cap ≤ maxLen) :
    Calls Tryd.prog 9 #[.slice ao len cap] w fun e w' => ∃ xs bo d m a1 c1 a2 c2, e = .returned (.tuple #[.slice bo xs.length d, .agg (mailV m a1 c1 a2 c2)]) ∧ Rules5 xs ∧ Drawn m ∧ St w w' [Res.mail m a1 c1 a2 c2, rulesR bo d xs] := by
  have S0 : Seal _ := ⟨(St.start w).alloc #[.string { data := #[] }, .string { data := #[] }, .slice none 0 0, .slice none 0 0] 29⟩
  have C : Seal _ := ⟨l20Open_any ao len cap _ (hr.below S0.out.below (Nat.le_refl _)) hl hc⟩
  clear hr hl hc
  go_enter Tryd.func9, Tryd.ntmps9
  go_wp2_with fail
  refine C.out.mono ?_
  rintro e w1 ⟨b, rfl, h1, b1⟩
  have S1 : Seal _ := ⟨S0.out.later b1⟩
  have hbl := h1.lt
  have D1 : Seal _ := ⟨Dw.start h1⟩
  clear h1 b1 S0 C
  go_wp2_with fail
  refine (l20Sieve_any _ b 0 w1 D1.out.rd (by omega)).mono ?_
  rintro e w2 ⟨bo, d, xs, rfl, hx, o2, h2, g2⟩
  have D2 : Seal _ := ⟨D1.out.row h2 g2 o2⟩
  have HX : Seal _ := ⟨hx⟩
  clear hx o2 h2 g2 D1
  go_wp2_with fail
  refine (l20AnyMail_any _ b _ w2 D2.out.rd (by omega)).mono ?_
  rintro e w3 ⟨m, a1, c1, a2, c2, rfl, o3, hdr, h3, g3⟩
  have HD : Seal _ := ⟨hdr⟩
  have S3 : Seal (St w w3 [Res.mail m a1 c1 a2 c2, rulesR bo d xs, Res.cells w.heap.size noMailV]) := ⟨S1.out.draws (D2.out.mail h3 g3 o3) (by simp at hbl; omega) fun r hr => by
    rw [List.mem_singleton.1 hr]
    intro e
    have e' : b = w.heap.size := e
    simp at hbl
    omega⟩
  have K3 := S3.out.three.head
  obtain ⟨r0, r1, r2, r3, f0, f1, f2, f3⟩ := cells_two K3
  clear D2 h3 g3 o3 hdr S1 K3 hbl
  go_wp2
  refine bodyPost_ret (v := .tuple #[.slice bo xs.length d, .agg (mailV m a1 c1 a2 c2)]) (by simp [results, Tryd.results9, go_sem, r0, r1, r2, r3]) rfl ⟨xs, bo, d, m, a1, c1, a2, c2, rfl, HX.out, HD.out, ?_⟩
  have s4 := (((S3.out.three.set 0 (.string m.fu) (by simp)).set 1 (.string m.fd) (by simp)).set 2 (.slice a1 m.rc.length c1) (by simp)).set 3 (.slice a2 m.body.length c2) (by simp)
  exact s4.tail
end Go.Proofs.YtgniokkiejoccaaDoor
