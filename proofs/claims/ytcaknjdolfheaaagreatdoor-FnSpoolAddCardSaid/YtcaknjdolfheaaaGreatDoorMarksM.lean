/- Contracts: marks written into a mail and into a client's state that a call owns: what else there is stays. -/
import Derived.Test.YtcaknjdolfheaaaGreatDoorMarks
namespace Go.Proofs.YtcaknjdolfheaaaGreatDoor
open Go Go.RowKit

/-- From w to w' only blocks of S and new ones may have been written. -/
structure GrownIn (S : Nat → Prop) (w w' : World) : Prop where
  os : w'.os = w.os
  tape : w'.tape = w.tape
  output : w'.output = w.output
  size : w.heap.size ≤ w'.heap.size
  block : ∀ i, i < w.heap.size → ¬ S i → w'.heap[i]? = w.heap[i]?
theorem GrownIn.trans {S : Nat → Prop} {a b c : World} (h : GrownIn S a b) (k : GrownIn S b c) : GrownIn S a c :=
  ⟨k.os.trans h.os, k.tape.trans h.tape, k.output.trans h.output, Nat.le_trans h.size k.size, fun i hi1 hi2 => (k.block i (Nat.lt_of_lt_of_le hi1 h.size) hi2).trans (h.block i hi1 hi2)⟩
theorem GrownIn.mono {S T : Nat → Prop} {a b : World} (h : GrownIn S a b) (hST : ∀ i, S i → T i) : GrownIn T a b :=
  ⟨h.os, h.tape, h.output, h.size, fun i h1 h2 => h.block i h1 (fun e => h2 (hST i e))⟩
theorem GrownIn.of_grown {S : Nat → Prop} {w w' : World} {row : Option Nat} (hg : w.grownBy w' row) (hr : ∀ g, row = some g → S g) : GrownIn S w w' :=
  ⟨hg.os, hg.tape, hg.output, hg.size, fun i h1 h2 => hg.block i h1 (fun e => h2 (hr i e.symm))⟩
theorem GrownIn.of_below {S : Nat → Prop} {w w' : World} (hb : Below w.heap.size w w') : GrownIn S w w' :=
  ⟨hb.os, hb.tape, hb.output, hb.size, fun i h1 _ => hb.block i h1⟩
theorem GrownIn.below {S : Nat → Prop} {lo : Nat} {w w' : World} (h : GrownIn S w w') (hw : lo ≤ w.heap.size) (hS : ∀ i, S i → lo ≤ i) : Below lo w w' :=
  ⟨h.os, h.tape, h.output, h.size, fun i h1 => h.block i (Nat.lt_of_lt_of_le h1 hw) (fun e => by have := hS i e; omega)⟩
theorem GrownIn.own {S : Nat → Prop} {base size n : Nat} {e : TypeId} {v : Value} {xs : List Value} {w w' : World} (h : GrownIn S w w') (ho : w.ownsRow base e size v n xs) (hne : ∀ g, v.ownBlock = some g → ¬ S g) : w'.ownsRow base e size v n xs := by
  refine ⟨ho.1, ?_⟩
  rcases ho.2 with hn | ⟨g, cap, cur, rfl, hb, hgg, rest⟩
  · exact .inl hn
  · refine .inr ⟨g, cap, cur, rfl, hb, ?_, rest⟩
    rw [h.block g (Array.getElem?_eq_some_iff.1 hgg).1 (hne g rfl)]
    exact hgg
theorem GrownIn.cells {S : Nat → Prop} {k : Nat} {xs : List Value} {w w' : World} (h : GrownIn S w w') (hk : CellsM w k xs) (hS : ¬ S k) : CellsM w' k xs :=
  have hb := h.block k hk.lt hS
  ⟨fun j v e => (World.cell?_of_block (a := ⟨k, j, none⟩) hb).trans (hk.c j v e), fun j e => (World.frozen?_of_block (a := ⟨k, j, none⟩) hb).trans (hk.f j e), Nat.lt_of_lt_of_le hk.lt h.size⟩
/-- Rows of two kinds are two blocks. -/
theorem own_ne_type {w : World} {B1 B2 s1 s2 n1 n2 : Nat} {e1 e2 : TypeId} {v1 v2 : Value} {xs1 xs2 : List Value} (h1 : w.ownsRow B1 e1 s1 v1 n1 xs1) (h2 : w.ownsRow B2 e2 s2 v2 n2 xs2) (hne : e1 ≠ e2) : v1.ownBlock = none ∨ v1.ownBlock ≠ v2.ownBlock := by
  rcases h1.2 with ⟨rfl, _⟩ | ⟨g, c, cur, rfl, _, hg, _⟩
  · exact .inl rfl
  · rcases h2.2 with ⟨rfl, _⟩ | ⟨g', c', cur', rfl, _, hg', _⟩
    · exact .inr (by simp [Value.ownBlock])
    · refine .inr fun e => ?_
      have e' : g = g' := Option.some.inj e
      subst e'
      cases hg.symm.trans hg'
      exact hne rfl
theorem grown_later {w w1 w2 : World} {r : Option Nat} (h : w.grownBy w1 r) (hb : Below w1.heap.size w1 w2) : w.grownBy w2 r :=
  ⟨hb.os.trans h.os, hb.tape.trans h.tape, hb.output.trans h.output, Nat.le_trans h.size hb.size, fun i h1 h2 => (hb.block i (Nat.lt_of_lt_of_le h1 h.size)).trans (h.block i h1 h2)⟩
theorem grown_set {w w1 : World} {g : Nat} (h : w.grownBy w1 (some g)) (j : Nat) (u : Value) : w.grownBy (w1.setCell ⟨g, j, none⟩ u) (some g) :=
  ⟨h.os, h.tape, h.output, by simpa using h.size, fun i h1 h2 => (Below.heap_setCell _ _ _ _ (fun e => h2 (congrArg some e))).trans (h.block i h1 h2)⟩

def markP (k n : Nat) : List Pair := (List.range n).map fun i => (markT (k + i * 2), markT (k + i * 2 + 1))
theorem markP_length (k n : Nat) : (markP k n).length = n := by simp [markP]
def markPR (k i : Nat) (ps : List Pair) : List Pair := markP k i ++ ps.drop i
theorem pairCells_app (A B : List Pair) : pairCells (A ++ B) = pairCells A ++ pairCells B := by simp [pairCells]
theorem pairCells_set0 (A B : List Pair) (p : Pair) (u : ByteArray) : (pairCells (A ++ p :: B)).set (A.length * 2) (.string u) = pairCells (A ++ (u, p.2) :: B) := by
  rw [pairCells_app, pairCells_app, List.set_append_right _ _ (by rw [pairCells_length]; exact Nat.le_refl _), pairCells_length, Nat.sub_self]
  rfl
theorem pairCells_set1 (A B : List Pair) (p : Pair) (u : ByteArray) : (pairCells (A ++ p :: B)).set (A.length * 2 + 1) (.string u) = pairCells (A ++ (p.1, u) :: B) := by
  rw [pairCells_app, pairCells_app, List.set_append_right _ _ (by rw [pairCells_length]; omega), pairCells_length, show A.length * 2 + 1 - A.length * 2 = 1 by omega]
  rfl
theorem markPR_at (k i : Nat) (ps : List Pair) (h : i < ps.length) : ∃ p, markPR k i ps = markP k i ++ p :: ps.drop (i + 1) := ⟨ps[i], by rw [markPR, List.drop_eq_getElem_cons h]⟩
theorem markPR_next (k i : Nat) (ps : List Pair) : markP k i ++ (markT (k + i * 2), markT (k + i * 2 + 1)) :: ps.drop (i + 1) = markPR k (i + 1) ps := by
  simp [markPR, markP, List.range_succ]
theorem markPR_end (k : Nat) (ps : List Pair) : markPR k ps.length ps = markP k ps.length := by simp [markPR]
theorem markText_int (q : Int) (k : Nat) (hq : q = k) (hk : k ≤ 16777216) (w : World) :
    Calls Tryz.prog 172 #[.int .i64 q] w fun e w' => e = .returned (.string (markT k)) ∧ Below w.heap.size w w' := by
  subst hq
  exact markText_any k hk w

set_option maxHeartbeats 3200000 in
set_option maxRecDepth 100000 in
theorem markAddrS_any (B k : Nat) (ao : Option Addr) (cap : Nat) (ps : List Pair) (w : World) (ho : PRow w B 27 ao cap ps) (hl : k + ps.length * 2 ≤ 16777216) :
    Calls Tryz.prog 161 #[.slice ao ps.length cap, .int .i64 k] w fun e w' => e = .returned (.int .i64 ((k + ps.length * 2 : Nat) : Int)) ∧ w'.ownsRow B 27 2 (.slice ao ps.length cap) ps.length (pairCells (markP k ps.length)) ∧ w.grownBy w' (blockOf ao) := by
  rcases own_split ho with ⟨rfl, h0, rfl⟩ | ⟨g, rfl⟩
  · obtain rfl : ps = [] := List.eq_nil_of_length_eq_zero h0
    clear ho
    go_enter Tryz.func161, Tryz.ntmps161
    go_wp2
    go_loop [1, 5] (fun c i => c = .int .i64 k ∧ i = .int .i64 0) (fun _ _ => 0)
    case atStart => exact ⟨rfl, rfl⟩
    case round =>
      obtain ⟨rfl, rfl⟩ := hrel
      go_wp2
      go_ret
      exact ⟨by simp, World.ownsRow_nil _ _ _ _, ⟨rfl, rfl, rfl, Nat.le_refl _, fun _ _ _ => rfl⟩⟩
  · have G0 : w.grownBy w (some g) := ⟨rfl, rfl, rfl, Nat.le_refl _, fun _ _ _ => rfl⟩
    unfold PRow at ho
    go_enter Tryz.func161, Tryz.ntmps161
    go_wp2
    go_loopw [1, 5] (fun c i wr => ∃ n : Nat, n ≤ ps.length ∧ i = .int .i64 n ∧ c = .int .i64 ((k + n * 2 : Nat) : Int) ∧ wr.ownsRow B 27 2 (.slice (some ⟨g, 0, none⟩) ps.length cap) ps.length (pairCells (markPR k n ps)) ∧ Hid (w.grownBy wr (some g))) (fun _ i _ => ps.length - (intOf i).toNat)
    case atStart => exact ⟨0, Nat.zero_le _, rfl, rfl, by simpa [markPR, markP] using ho, Lib.hid G0⟩
    case round =>
      obtain ⟨n, hn, rfl, rfl, hown, HG⟩ := hrel
      clear ho G0
      by_cases hlt : n < ps.length
      · obtain ⟨p, hp⟩ := markPR_at k n ps hlt
        rw [hp] at hown
        have hml := markP_length k n
        go_wp2_with (go_at_call 172; refine (markText_int _ (k + n * 2) rfl (by omega) _).mono ?_)
        rintro e w1 ⟨rfl, hb1⟩
        have ho1 := own_later hown hb1
        have G1 := grown_later HG.out hb1
        have hgt : (pairCells (markP k n ++ p :: ps.drop (n + 1)))[n * 2]? = some (.string p.1) := (pairCells_get (ps := markP k n ++ p :: ps.drop (n + 1)) (k := n) (by rw [List.getElem?_append_right (by omega), hml, Nat.sub_self]; rfl)).1
        have hc1 := (ho1.cellAt (n * 2) (by omega)).trans hgt
        have hf1 := ho1.frozenAt (n * 2)
        have s1 := (ho1.stored (n * 2) (.string (markT (k + n * 2)))).1
        have hx : (pairCells (markP k n ++ p :: ps.drop (n + 1))).set (n * 2) (.string (markT (k + n * 2))) = pairCells (markP k n ++ (markT (k + n * 2), p.2) :: ps.drop (n + 1)) := by
          have := pairCells_set0 (markP k n) (ps.drop (n + 1)) p (markT (k + n * 2))
          rwa [hml] at this
        rw [hx] at s1
        have HS1 := Lib.hid s1
        have HG1 := Lib.hid (grown_set G1 (n * 2) (.string (markT (k + n * 2))))
        have HM := Lib.hid hml
        clear hx hgt ho1 hown G1 HG s1 hp hb1 hml
        go_wp2_with (go_at_call 172; refine (markText_int _ (k + n * 2 + 1) (by push_cast; omega) (by omega) _).mono ?_)
        rintro e w2 ⟨rfl, hb2⟩
        have ho2 := own_later HS1.out hb2
        have G2 := grown_later HG1.out hb2
        have hgt : (pairCells (markP k n ++ (markT (k + n * 2), p.2) :: ps.drop (n + 1)))[n * 2 + 1]? = some (.string p.2) := (pairCells_get (ps := markP k n ++ (markT (k + n * 2), p.2) :: ps.drop (n + 1)) (k := n) (p := (markT (k + n * 2), p.2)) (by have hml := HM.out; rw [List.getElem?_append_right (by omega), hml, Nat.sub_self]; rfl)).2
        have hc2 := (ho2.cellAt (n * 2 + 1) (by omega)).trans hgt
        have hf2 := ho2.frozenAt (n * 2 + 1)
        have s2 := (ho2.stored (n * 2 + 1) (.string (markT (k + n * 2 + 1)))).1
        have hx : (pairCells (markP k n ++ (markT (k + n * 2), p.2) :: ps.drop (n + 1))).set (n * 2 + 1) (.string (markT (k + n * 2 + 1))) = pairCells (markPR k (n + 1) ps) := by
          have := pairCells_set1 (markP k n) (ps.drop (n + 1)) (markT (k + n * 2), p.2) (markT (k + n * 2 + 1))
          rw [HM.out] at this
          rw [this, ← markPR_next]
        rw [hx] at s2
        have HS2 := Lib.hid s2
        have HG2 := Lib.hid (grown_set G2 (n * 2 + 1) (.string (markT (k + n * 2 + 1))))
        clear hx hgt ho2 G2 s2 HS1 HG1 hb2 hc1 hf1
        go_wp2
        go_roundw
        case rel => exact ⟨n + 1, by omega, by go_num, by go_num, HS2.out, HG2⟩
        case measure => simp [intOf]; omega
      · obtain rfl : n = ps.length := by omega
        rw [markPR_end] at hown
        have HO := Lib.hid hown
        clear hown
        go_wp2
        go_ret
        exact ⟨rfl, HO.out, HG.out⟩

def mailS (a1 a2 : Option Addr) : Nat → Prop := fun i => blockOf a1 = some i ∨ blockOf a2 = some i
def cliS (a1 a2 a3 : Option Addr) (n c : Nat) : Nat → Prop := fun i => mailS a1 a2 i ∨ (Value.slice a3 n c).ownBlock = some i

set_option maxHeartbeats 1600000 in
theorem markMail_any (B k : Nat) (m : MailD) (a1 : Option Addr) (c1 : Nat) (a2 : Option Addr) (c2 : Nat) (w : World) (ho : MailOwn w B m a1 c1 a2 c2) (hB : B ≤ w.heap.size) (hl : k + m.rc.length * 2 + m.body.length ≤ 16777216) :
    Calls Tryz.prog 93 #[.agg (mailV m a1 c1 a2 c2), .int .i64 k] w fun e w' => e = .returned (.int .i64 ((k + m.rc.length * 2 + m.body.length : Nat) : Int)) ∧ GrownIn (mailS a1 a2) w w' := by
  have X0 := Lib.hid (CellsM.new w (mailV m a1 c1 a2 c2) 31)
  have b0 : Below w.heap.size w (w.alloc (.cells (mailV m a1 c1 a2 c2) 31)) := (Below.refl _ _).alloc (Nat.le_refl _) _
  have O0 := Lib.hid (ho.later b0)
  have G0 : Hid (GrownIn (mailS a1 a2) w (w.alloc (.cells (mailV m a1 c1 a2 c2) 31))) := Lib.hid (.of_below b0)
  have N0 : Hid (¬ mailS a1 a2 w.heap.size) := Lib.hid (by
    rintro (h | h)
    · have := (ho.rc.lt h).2; omega
    · have := (ho.body.lt h).2; omega)
  have hs0 : w.heap.size ≤ (w.alloc (.cells (mailV m a1 c1 a2 c2) 31)).heap.size := by simp
  clear ho b0
  go_enter Tryz.func93, Tryz.ntmps93
  go_wp2_with fail
  generalize w.alloc (.cells (mailV m a1 c1 a2 c2) 31) = W at *
  refine (markAddrS_any B k a1 c1 m.rc W O0.out.rc (by omega)).mono ?_
  rintro e w1 ⟨rfl, _, g1⟩
  have G1 : GrownIn (mailS a1 a2) W w1 := .of_grown g1 (fun g e => .inl e)
  have X1 := G1.cells X0.out N0.out
  have R1 := Lib.hid (O0.out.body.other g1 O0.out.ne.2)
  have HG := Lib.hid (G0.out.trans G1)
  have hs1 := g1.size
  have q0 := X1.c 0 _ rfl
  have q1 := X1.c 1 _ rfl
  have q2 := X1.c 2 _ rfl
  have q3 := X1.c 3 _ rfl
  clear X1 G1 g1 X0 O0 G0
  go_wp2_with fail
  refine (markStringS_own B c2 (k + m.rc.length * 2) a2 m.body _ R1.out (by omega) (by omega)).mono ?_
  rintro e w2 ⟨rfl, _, g2⟩
  have HG2 := Lib.hid (HG.out.trans (.of_grown g2 (fun g e => .inr e)))
  clear g2 q0 q1 q2 q3
  go_wp2
  go_ret
  exact ⟨rfl, HG2.out⟩

end Go.Proofs.YtcaknjdolfheaaaGreatDoor
