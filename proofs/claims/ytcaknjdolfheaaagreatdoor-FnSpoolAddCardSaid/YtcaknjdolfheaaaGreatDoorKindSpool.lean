/- Kinds of arguments and answers, in one form: spools. -/
import Derived.Test.YtcaknjdolfheaaaGreatDoorKinds
import Derived.Test.YtcaknjdolfheaaaGreatDoorSpools
import Derived.Test.YtcaknjdolfheaaaGreatDoorSpoolMarks
import Derived.Test.YtcaknjdolfheaaaGreatDoorSpoolOks
namespace Go.Proofs.YtcaknjdolfheaaaGreatDoor
open Go Go.RowKit

/-- Where its rows lie. -/
structure SpoolP where
  a : Option Addr
  c : Nat
  ps : List ItemV
abbrev spoolKV (s : SpoolD) (p : SpoolP) : Array Value := #[.int .i64 s.last, .slice p.a s.items.length p.c]
abbrev spoolKL (s : SpoolD) (p : SpoolP) : List Value := [.int .i64 s.last, .slice p.a s.items.length p.c]
abbrev spoolKR (s : SpoolD) (p : SpoolP) : List Res := itemsR p.a p.c s.items p.ps
abbrev spoolKA (w : World) (s : SpoolD) (p : SpoolP) : Prop := ItemRow w p.a s.items
def spoolKF (s : SpoolD) (p : SpoolP) : Prop := p.ps.length = s.items.length
abbrev spoolKZ (s : SpoolD) : Prop := spoolN s ≤ 1048576
def spoolKM (s : SpoolD) : Nat := sumN itemMarks s.items
def spoolKmk (k : Nat) (s : SpoolD) : SpoolD := ⟨s.last, markIs k s.items⟩
theorem spoolK_below {B : Nat} {w w' : World} {s : SpoolD} {p : SpoolP} (h : spoolKA w s p) (hb : Below B w w') (hB : w.heap.size ≤ B) : spoolKA w' s p := h.below itemP_stays hb hB
theorem spoolK_read {w : World} {s : SpoolD} {p : SpoolP} (hf : spoolKF s p) (h : ∀ r ∈ spoolKR s p, r.P w) : spoolKA w s p := items_read hf h
theorem spoolK_marks {s : SpoolD} (h : spoolKZ s) : spoolKM s ≤ 4194304 := by
  have h1 : sumN itemMarks s.items ≤ sumN (fun x => 3 + 4 * itemN x) s.items := sumN_le fun x _ => by
    have a := rowN_length rcptN x.rc
    have b := rowN_length ByteArray.size x.body
    unfold itemMarks itemN
    omega
  have h2 : ∀ xs : List ItemD, sumN (fun x => 3 + 4 * itemN x) xs = 3 * xs.length + 4 * sumN itemN xs := fun xs => by
    induction xs with
    | nil => rfl
    | cons x xs ih =>
      unfold sumN at ih ⊢
      rw [List.map_cons, List.map_cons, List.sum_cons, List.sum_cons, List.length_cons]
      omega
  have h3 := h2 s.items
  have h4 : rowN itemN s.items ≤ 1048576 := h
  rw [rowN_eq] at h4
  unfold spoolKM
  omega
theorem spoolK_mkF {k : Nat} {s : SpoolD} {p : SpoolP} (h : spoolKF s p) : spoolKF (spoolKmk k s) p := by
  unfold spoolKF spoolKmk at *
  rw [markIs_length]
  exact h
theorem spoolK_small {s : SpoolD} {left : Int} (h : ¬ leftN (spoolN s) left < 0) (_ : 0 ≤ left) (h1 : left ≤ 1048576) : spoolKZ s := by
  have := leftN_small h
  unfold spoolKZ
  omega

theorem szSpool_K (s : SpoolD) (p : SpoolP) (left : Int) (w : World) (hat : spoolKA w s p) (hsz : SpoolF s) (h0 : 0 ≤ left) (h1 : left ≤ 1048576) :
    Calls Tryz.prog 39 #[.agg (spoolKV s p), .int .i64 left] w fun e w' => e = .returned (.int .i64 (leftN (spoolN s) left)) ∧ Below w.heap.size w w' := szSpool_any s p.a p.c left w hat h0 h1 hsz
theorem toSpool_K (s : SpoolD) (p : SpoolP) (w : World) (hat : spoolKA w s p) (hz : spoolKZ s) :
    Calls Tryz.prog 41 #[.agg (spoolKV s p)] w fun e w' => ∃ q, e = .returned (.agg (spoolKV s q)) ∧ spoolKF s q ∧ St w w' (spoolKR s q) := by
  refine (toSpool_any s p.a p.c w hat hz).mono ?_
  rintro e w' ⟨bo, c, ps, rfl, hp, h⟩
  exact ⟨⟨bo, c, ps⟩, rfl, hp, h⟩
theorem eqSpool_K (s : SpoolD) (p q : SpoolP) (w : World) (ha : spoolKA w s p) (hb : spoolKA w s q) (hz : spoolKZ s) :
    Calls Tryz.prog 43 #[.agg (spoolKV s p), .agg (spoolKV s q)] w fun e w' => e = .returned (.bool true) ∧ Below w.heap.size w w' := eqSpool_same s p.a q.a p.c q.c w ha hb hz
theorem markSpool_K (k : Nat) (s : SpoolD) (p : SpoolP) {w0 : World} {Ls : List (List Res)} (w : World) (h : Pt w0 w (spoolKR s p :: Ls)) (hf : spoolKF s p) (hz : spoolKZ s) (hl : k + spoolKM s ≤ 16777216) :
    Calls Tryz.prog 44 #[.agg (spoolKV s p), .int .i64 k] w fun e w' => e = .returned (.int .i64 ((k + spoolKM s : Nat) : Int)) ∧ Pt w0 w' (spoolKR (spoolKmk k s) p :: Ls) :=
  markSpool_any Ls.flatten k s p.a p.c p.ps hf w0 w h hl (spoolN_parts hz).1
theorem heldSpool_K (k : Nat) (s : SpoolD) (p : SpoolP) (w : World) (h : spoolKA w (spoolKmk k s) p) (hz : spoolKZ s) (hl : k + spoolKM s ≤ 16777216) :
    Calls Tryz.prog 45 #[.agg (spoolKV s p), .int .i64 k] w fun e w' => e = .returned (.int .i64 ((k + spoolKM s : Nat) : Int)) ∧ Below w.heap.size w w' :=
  heldSpool_any k s s.items.length rfl p.a p.c s.last w h hl (spoolN_parts hz).1
end Go.Proofs.YtcaknjdolfheaaaGreatDoor
