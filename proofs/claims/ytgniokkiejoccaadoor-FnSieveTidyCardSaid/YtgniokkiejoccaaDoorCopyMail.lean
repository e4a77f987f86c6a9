/- Copies, CopiesN. -/
import Derived.Test.YtgniokkiejoccaaDoorMailRes
import Derived.Test.YtgniokkiejoccaaDoorClone
import Derived.Test.YtgniokkiejoccaaDoorMailRows
import Derived.Test.YtgniokkiejoccaaDoorMailGetS
import Derived.Laws.AppendOwnNone
import Derived.Deep.RegionHeld3
namespace Go.Proofs.YtgniokkiejoccaaDoor
open Go Go.RowKit

section
variable {w : World} {ops : Array Oper} {o : Oper} {a : Act} {K : Act → World → Prop} {Q : Exit → Act → World → Prop} {E : Prop}
theorem step_append_at (hgd : o.guard = none) (s x : Operand) (t : TypeId)
    (ho : o.op = .call { callee := .builtin .append, args := #[s, x], argTypes := #[t, t] })
    (base : Nat) (e : TypeId) (i : TypeInfo) (z : Value) (size bytes : Nat) (ht : Tryd.prog.underlying t = some (.slice e)) (hi : Tryd.prog.info? e = some i) (hz : i.zero = some z)
    (hsize : i.size = size) (hby : i.bytes = bytes) (hzs : z.cells.size = size) (hsz : 0 < size)
    (v : Value) (n : Nat) (xs : List Value) (hs : a.eval s = v) (hown : w.ownsRow base e size v n xs)
    (ad : Addr) (m c : Nat) (news : List Value) (hx : a.eval x = .slice (some ad) m c) (hl : news.length = m * size) (hnews : ∀ j u, news[j]? = some u → w.cell? (ad.add j) = some u) (h1 : ∀ u ∈ news, u.oneCell' = true)
    (h63 : n + m ≤ maxLen) (hbytes : (n + m) * bytes ≤ 140737488355328) (hbase : base ≤ w.heap.size)
    (h : ∀ v' w', w'.ownsRow base e size v' (n + m) (xs ++ news) → w.grownBy w' v.ownBlock → (v'.ownBlock = v.ownBlock ∨ v'.ownBlock = some w.heap.size) → K (a.put o.dst v') w') :
    if Region.wanted o (yielded ops a.tmps) = true then Oper.wp Tryd.prog o a w K Q else E := by
  have hw : Region.wanted o (yielded ops a.tmps) = true := by simp [Region.wanted, hgd]
  rw [if_pos hw]
  obtain ⟨v', w', hr, h2, h3, _, h5⟩ := run_append_own_at (P := Tryd.prog) w base t o.type e i z size bytes ht hi hz hsize hby hzs hsz v n xs hown ad m c news hl hnews h1 h63 hbytes hbase
  unfold Oper.wp execOp
  simp only [ho, resolve, invoke, builtin, Sem.run_bind, Sem.run_pure, Result.andThen_ok, List.map_toArray, List.map_cons, List.map_nil, hs, hx, hr]
  exact h v' w' h2 h3 h5
theorem step_append_nothing (hgd : o.guard = none) (s x : Operand) (t : TypeId)
    (ho : o.op = .call { callee := .builtin .append, args := #[s, x], argTypes := #[t, t] })
    (base : Nat) (e : TypeId) (i : TypeInfo) (size : Nat) (ht : Tryd.prog.underlying t = some (.slice e)) (hi : Tryd.prog.info? e = some i)
    (v : Value) (n : Nat) (xs : List Value) (hs : a.eval s = v) (hown : w.ownsRow base e size v n xs) (hx : a.eval x = .slice none 0 0)
    (h : K (a.put o.dst v) w) :
    if Region.wanted o (yielded ops a.tmps) = true then Oper.wp Tryd.prog o a w K Q else E := by
  have hw : Region.wanted o (yielded ops a.tmps) = true := by simp [Region.wanted, hgd]
  rw [if_pos hw]
  have hrun := run_append_owned_none (P := Tryd.prog) (w := w) base t o.type e i size ht hi v n xs hown
  unfold Oper.wp execOp
  simp only [ho, resolve, invoke, builtin, Sem.run_bind, Sem.run_pure, Result.andThen_ok, List.map_toArray, List.map_cons, List.map_nil, hs, hx, hrun]
  exact h
end

/-- The cells of a row that may be appended. -/
theorem news_row2 {w : World} {B : Nat} {e : TypeId} {size n cap g : Nat} {xs : List Value} (h : w.ownsRow B e size (.slice (some ⟨g, 0, none⟩) n cap) n xs) : ∀ j u, xs[j]? = some u → w.cell? ((⟨g, 0, none⟩ : Addr).add j) = some u := own_news h
theorem cell_kept4 {w0 w w' : World} {k : Nat} {x0 x1 x2 x3 : Value} {r : Option Nat} (h0 : w.cell? ⟨k, 0, none⟩ = some x0) (h1 : w.cell? ⟨k, 1, none⟩ = some x1) (h2 : w.cell? ⟨k, 2, none⟩ = some x2) (h3 : w.cell? ⟨k, 3, none⟩ = some x3) (hb : Below w0.heap.size w0 w) (hg : w.grownBy w' r) (hk : k < w0.heap.size) (hr : ∀ g, r = some g → w0.heap.size ≤ g) :
    w'.cell? ⟨k, 0, none⟩ = some x0 ∧ w'.cell? ⟨k, 1, none⟩ = some x1 ∧ w'.cell? ⟨k, 2, none⟩ = some x2 ∧ w'.cell? ⟨k, 3, none⟩ = some x3 ∧ Below w0.heap.size w0 w' := by
  have hlt : k < w.heap.size := Nat.lt_of_lt_of_le hk hb.size
  have e := hg.block k hlt (fun e => by have := hr k e.symm; omega)
  exact ⟨(World.cell?_of_block (a := ⟨k, 0, none⟩) e).trans h0, (World.cell?_of_block (a := ⟨k, 1, none⟩) e).trans h1, (World.cell?_of_block (a := ⟨k, 2, none⟩) e).trans h2, (World.cell?_of_block (a := ⟨k, 3, none⟩) e).trans h3, hb.grown hg hb.size hr⟩

theorem keep4 {C : Nat} {W w' : World} {k : Nat} {x0 x1 x2 x3 : Value} (h : CellsM W k [x0, x1, x2, x3]) (hk : k < C) (hb : Below C W w') : w'.cell? ⟨k, 0, none⟩ = some x0 ∧ w'.cell? ⟨k, 1, none⟩ = some x1 ∧ w'.cell? ⟨k, 2, none⟩ = some x2 ∧ w'.cell? ⟨k, 3, none⟩ = some x3 ∧ Below C W w' := by
  obtain ⟨q0, q1, q2, q3, _⟩ := cells_two h
  exact ⟨(hb.cell (p := ⟨k, 0, none⟩) hk).trans q0, (hb.cell (p := ⟨k, 1, none⟩) hk).trans q1, (hb.cell (p := ⟨k, 2, none⟩) hk).trans q2, (hb.cell (p := ⟨k, 3, none⟩) hk).trans q3, hb⟩
/-- A row that lies below C. -/
theorem row_below {w w' : World} {B C : Nat} {e : TypeId} {size : Nat} {v : Value} {n : Nat} {xs : List Value} (h : w.ownsRow B e size v n xs) (hv : ∀ g, v.ownBlock = some g → g < C) (hb : Below C w w') : w'.ownsRow 0 e size v n xs :=
  (Res.row e size v n xs).loc w w' (row_zero h) hb.size fun i hi => hb.block i (hv i hi)

set_option maxHeartbeats 6400000 in
set_option maxRecDepth 100000 in
theorem l2Copy_some (B : Nat) (m : MailD) (g1 c1 g2 c2 : Nat) (w : World) (ho : MailOwn w B m (some ⟨g1, 0, none⟩) c1 (some ⟨g2, 0, none⟩) c2) (hsz : MailSz 1048576 m) :
    Calls Tryd.prog 48 #[.agg (mailV m (some ⟨g1, 0, none⟩) c1 (some ⟨g2, 0, none⟩) c2)] w fun e w' => ∃ b1 d1 b2 d2, e = .returned (.agg (mailV m b1 d1 b2 d2)) ∧ MailOwn w' w.heap.size m b1 d1 b2 d2 ∧ Below w.heap.size w w' := by
  obtain ⟨i0, hi, hz0, hz1, hz2⟩ := info_parts infoA
  obtain ⟨j0, ji, jz0, jz1, jz2⟩ := info_parts infoS
  have z1 := hsz.rcl
  have z2 := hsz.bol
  have S0 : Seal (St w _ [_, _]) := ⟨((St.start w).alloc (mailV m (some ⟨g1, 0, none⟩) c1 (some ⟨g2, 0, none⟩) c2) 29).alloc #[.string { data := #[] }, .string { data := #[] }, .slice none 0 0, .slice none 0 0] 29⟩
  have hs0 : ((w.alloc (.cells (mailV m (some ⟨g1, 0, none⟩) c1 (some ⟨g2, 0, none⟩) c2) 29)).alloc (.cells #[.string { data := #[] }, .string { data := #[] }, .slice none 0 0, .slice none 0 0] 29)).heap.size = w.heap.size + 1 + 1 := by simp
  have O0 : Seal _ := ⟨ho.later (S0.out.below)⟩
  have LA : Seal (∀ g, (Value.slice (some ⟨g1, 0, none⟩) m.rc.length c1).ownBlock = some g → g < w.heap.size) := ⟨fun g e => (World.ownsRow.lt ho.rc g e).2⟩
  have LS : Seal (∀ g, (Value.slice (some ⟨g2, 0, none⟩) m.body.length c2).ownBlock = some g → g < w.heap.size) := ⟨fun g e => (World.ownsRow.lt ho.body g e).2⟩
  clear ho hsz
  go_enter Tryd.func48, Tryd.ntmps48
  go_wp2_with fail
  generalize hW : (w.alloc (.cells (mailV m (some ⟨g1, 0, none⟩) c1 (some ⟨g2, 0, none⟩) c2) 29)).alloc (.cells #[.string { data := #[] }, .string { data := #[] }, .slice none 0 0, .slice none 0 0] 29) = W at *
  have K1 : Seal (CellsM W w.heap.size [.string m.fu, .string m.fd, .slice (some ⟨g1, 0, none⟩) m.rc.length c1, .slice (some ⟨g2, 0, none⟩) m.body.length c2]) := ⟨S0.out.two.head⟩
  have K2 : Seal (CellsM W (w.heap.size + 1) noMailV) := ⟨by have := S0.out.head; simp only [World.size_alloc] at this; exact this⟩
  have B0 : Seal (Below w.heap.size w W) := ⟨S0.out.below⟩
  have HS0 : Seal _ := ⟨hs0⟩
  have hk1 : w.heap.size < W.heap.size := by omega
  have hk2 : w.heap.size + 1 < W.heap.size := by omega
  clear hW S0 hs0
  have OA : Seal (∀ W', Below (w.heap.size + 1) W W' → W'.ownsRow 0 25 2 (.slice (some ⟨g1, 0, none⟩) m.rc.length c1) m.rc.length (pairCells m.rc)) := ⟨fun W' hb => row_below O0.out.rc (fun g e => Nat.lt_succ_of_lt (LA.out g e)) hb⟩
  have OS : Seal (∀ W', Below (w.heap.size + 1) W W' → W'.ownsRow 0 9 1 (.slice (some ⟨g2, 0, none⟩) m.body.length c2) m.body.length (m.body.map Value.string)) := ⟨fun W' hb => row_below O0.out.body (fun g e => Nat.lt_succ_of_lt (LS.out g e)) hb⟩
  have SA1 : Seal (St W (W.drew.alloc (.cells #[] 25)) _) := ⟨(St.start W).drew.made 25 2 #[] 0 (by unfold maxLen; omega) rfl⟩
  have ST1 : Seal (St W (W.drew.alloc (.cells #[] 9)) _) := ⟨(St.start W).drew.made 9 1 #[] 0 (by unfold maxLen; omega) rfl⟩
  have SA3 : Seal (St W ((W.drew.alloc (.cells #[] 9)).alloc (.cells #[] 25)) [Res.row 25 2 (.slice (some ⟨W.heap.size + 1, 0, none⟩) 0 0) 0 [], Res.row 9 1 (.slice (some ⟨W.heap.size, 0, none⟩) 0 0) 0 []]) := ⟨by
    have h := ST1.out.made 25 2 #[] 0 (by unfold maxLen; omega) rfl
    simp only [World.size_alloc] at h
    exact h⟩
  have ST3 : Seal (St W ((W.drew.alloc (.cells #[] 25)).alloc (.cells #[] 9)) [Res.row 9 1 (.slice (some ⟨W.heap.size + 1, 0, none⟩) 0 0) 0 [], Res.row 25 2 (.slice (some ⟨W.heap.size, 0, none⟩) 0 0) 0 []]) := ⟨by
    have h := SA1.out.made 9 1 #[] 0 (by unfold maxLen; omega) rfl
    simp only [World.size_alloc] at h
    exact h⟩
  have SA2 : Seal (St W ((W.drew.alloc (.cells #[] 25)).alloc (.cells #[] 9)) [Res.row 25 2 (.slice (some ⟨W.heap.size, 0, none⟩) 0 0) 0 [], Res.row 9 1 (.slice (some ⟨W.heap.size + 1, 0, none⟩) 0 0) 0 []]) := ⟨ST3.out.two⟩
  have ST2 : Seal (St W ((W.drew.alloc (.cells #[] 9)).alloc (.cells #[] 25)) [Res.row 9 1 (.slice (some ⟨W.heap.size, 0, none⟩) 0 0) 0 [], Res.row 25 2 (.slice (some ⟨W.heap.size + 1, 0, none⟩) 0 0) 0 []]) := ⟨SA3.out.two⟩
  obtain ⟨q0, q1, q2, q3, _⟩ := cells_two K1.out
  go_region_held3 (fun w' => w'.cell? ⟨w.heap.size, 0, none⟩ = some (.string m.fu) ∧ w'.cell? ⟨w.heap.size, 1, none⟩ = some (.string m.fd) ∧ w'.cell? ⟨w.heap.size, 2, none⟩ = some (.slice (some ⟨g1, 0, none⟩) m.rc.length c1) ∧ w'.cell? ⟨w.heap.size, 3, none⟩ = some (.slice (some ⟨g2, 0, none⟩) m.body.length c2) ∧ Below (w.heap.size + 1) W w') (first | exact keep4 K1.out (Nat.lt_succ_self _) (Below.refl _ _).drew | (go_split_ands; exact keep4 K1.out (Nat.lt_succ_self _) (hb8.mono (by omega))) | (go_split_ands; have hbx := (by assumption : Below (w.heap.size + 1) W _); exact keep4 K1.out (Nat.lt_succ_self _) (hbx.alloc (Nat.le_trans (by omega) hbx.size) _)) | (go_split_ands; have hbx := (by assumption : Below (w.heap.size + 1) W _); exact keep4 K1.out (Nat.lt_succ_self _) ((((hbx.setCell (Nat.le_refl _) _).setCell (Nat.le_refl _) _).setCell (Nat.le_refl _) _).setCell (Nat.le_refl _) _)) | (go_split_ands; exact ⟨by assumption, by assumption, by assumption, by assumption, by assumption⟩)) (first | (go_split_ands; have hbx := (by assumption : Below (w.heap.size + 1) W _); first | (refine step_append_at (by rfl) _ _ 26 (by rfl) 0 25 i0 (.agg #[.string ByteArray.empty, .string ByteArray.empty]) 2 32 Tryd.underlying26 hi hz0 hz1 hz2 rfl (by decide) _ 0 [] (by rfl) (SA1.out.head) ⟨g1, 0, none⟩ m.rc.length c1 (pairCells m.rc) (by rfl) (pairCells_length _) (own_news (OA.out _ hbx)) (pairs_one' _) (by unfold maxLen; omega) (by omega) (Nat.zero_le _) ?_; intro v8 w8 ho8 hg8 hat8; have S8A : Seal _ := ⟨SA1.out.app ho8 hg8 hat8⟩; have hb8 : Below W.heap.size W w8 := S8A.out.below; obtain ⟨eA, dA, rfl⟩ := shape_own ho8; obtain ⟨r0, r1, r2, r3, f0, f1, f2, f3⟩ := cells_two (K2.out.later hb8); clear ho8 hg8 hat8) | (refine step_append_at (by rfl) _ _ 26 (by rfl) 0 25 i0 (.agg #[.string ByteArray.empty, .string ByteArray.empty]) 2 32 Tryd.underlying26 hi hz0 hz1 hz2 rfl (by decide) _ 0 [] (by rfl) (SA2.out.head) ⟨g1, 0, none⟩ m.rc.length c1 (pairCells m.rc) (by rfl) (pairCells_length _) (own_news (OA.out _ hbx)) (pairs_one' _) (by unfold maxLen; omega) (by omega) (Nat.zero_le _) ?_; intro v8 w8 ho8 hg8 hat8; have S8A : Seal _ := ⟨SA2.out.app ho8 hg8 hat8⟩; have hb8 : Below W.heap.size W w8 := S8A.out.below; obtain ⟨eA, dA, rfl⟩ := shape_own ho8; obtain ⟨r0, r1, r2, r3, f0, f1, f2, f3⟩ := cells_two (K2.out.later hb8); clear ho8 hg8 hat8) | (refine step_append_at (by rfl) _ _ 26 (by rfl) 0 25 i0 (.agg #[.string ByteArray.empty, .string ByteArray.empty]) 2 32 Tryd.underlying26 hi hz0 hz1 hz2 rfl (by decide) _ 0 [] (by rfl) (SA3.out.head) ⟨g1, 0, none⟩ m.rc.length c1 (pairCells m.rc) (by rfl) (pairCells_length _) (own_news (OA.out _ hbx)) (pairs_one' _) (by unfold maxLen; omega) (by omega) (Nat.zero_le _) ?_; intro v8 w8 ho8 hg8 hat8; have S8A : Seal _ := ⟨SA3.out.app ho8 hg8 hat8⟩; have hb8 : Below W.heap.size W w8 := S8A.out.below; obtain ⟨eA, dA, rfl⟩ := shape_own ho8; obtain ⟨r0, r1, r2, r3, f0, f1, f2, f3⟩ := cells_two (K2.out.later hb8); clear ho8 hg8 hat8) | (refine step_append_at (by rfl) _ _ 26 (by rfl) 0 25 i0 (.agg #[.string ByteArray.empty, .string ByteArray.empty]) 2 32 Tryd.underlying26 hi hz0 hz1 hz2 rfl (by decide) _ 0 [] (by rfl) ((⟨S8S.out.two⟩ : Seal (St W _ [_, _])).out.head) ⟨g1, 0, none⟩ m.rc.length c1 (pairCells m.rc) (by rfl) (pairCells_length _) (own_news (OA.out _ hbx)) (pairs_one' _) (by unfold maxLen; omega) (by omega) (Nat.zero_le _) ?_; intro v8 w8 ho8 hg8 hat8; have S8A : Seal _ := ⟨(⟨S8S.out.two⟩ : Seal (St W _ [_, _])).out.app ho8 hg8 hat8⟩; have hb8 : Below W.heap.size W w8 := S8A.out.below; obtain ⟨eA, dA, rfl⟩ := shape_own ho8; obtain ⟨r0, r1, r2, r3, f0, f1, f2, f3⟩ := cells_two (K2.out.later hb8); clear ho8 hg8 hat8) | (refine step_append_at (by rfl) _ _ 26 (by rfl) 0 25 i0 (.agg #[.string ByteArray.empty, .string ByteArray.empty]) 2 32 Tryd.underlying26 hi hz0 hz1 hz2 rfl (by decide) _ 0 [] (by rfl) ((⟨S8S.out.made 25 2 #[] 0 (by unfold maxLen; omega) rfl⟩ : Seal (St W _ _)).out.head) ⟨g1, 0, none⟩ m.rc.length c1 (pairCells m.rc) (by rfl) (pairCells_length _) (own_news (OA.out _ hbx)) (pairs_one' _) (by unfold maxLen; omega) (by omega) (Nat.zero_le _) ?_; intro v8 w8 ho8 hg8 hat8; have S8A : Seal _ := ⟨(⟨S8S.out.made 25 2 #[] 0 (by unfold maxLen; omega) rfl⟩ : Seal (St W _ _)).out.app ho8 hg8 hat8⟩; have hb8 : Below W.heap.size W w8 := S8A.out.below; obtain ⟨eA, dA, rfl⟩ := shape_own ho8; obtain ⟨r0, r1, r2, r3, f0, f1, f2, f3⟩ := cells_two (K2.out.later hb8); clear ho8 hg8 hat8) | (refine step_append_at (by rfl) _ _ 27 (by rfl) 0 9 j0 (.string ByteArray.empty) 1 16 Tryd.underlying27 ji jz0 jz1 jz2 rfl (by decide) _ 0 [] (by rfl) (ST1.out.head) ⟨g2, 0, none⟩ m.body.length c2 (m.body.map Value.string) (by rfl) (by simp) (own_news (OS.out _ hbx)) (strs_one _) (by unfold maxLen; omega) (by omega) (Nat.zero_le _) ?_; intro v8 w8 ho8 hg8 hat8; have S8S : Seal _ := ⟨ST1.out.app ho8 hg8 hat8⟩; have hb8 : Below W.heap.size W w8 := S8S.out.below; obtain ⟨eS, dS, rfl⟩ := shape_own ho8; obtain ⟨r0, r1, r2, r3, f0, f1, f2, f3⟩ := cells_two (K2.out.later hb8); clear ho8 hg8 hat8) | (refine step_append_at (by rfl) _ _ 27 (by rfl) 0 9 j0 (.string ByteArray.empty) 1 16 Tryd.underlying27 ji jz0 jz1 jz2 rfl (by decide) _ 0 [] (by rfl) (ST2.out.head) ⟨g2, 0, none⟩ m.body.length c2 (m.body.map Value.string) (by rfl) (by simp) (own_news (OS.out _ hbx)) (strs_one _) (by unfold maxLen; omega) (by omega) (Nat.zero_le _) ?_; intro v8 w8 ho8 hg8 hat8; have S8S : Seal _ := ⟨ST2.out.app ho8 hg8 hat8⟩; have hb8 : Below W.heap.size W w8 := S8S.out.below; obtain ⟨eS, dS, rfl⟩ := shape_own ho8; obtain ⟨r0, r1, r2, r3, f0, f1, f2, f3⟩ := cells_two (K2.out.later hb8); clear ho8 hg8 hat8) | (refine step_append_at (by rfl) _ _ 27 (by rfl) 0 9 j0 (.string ByteArray.empty) 1 16 Tryd.underlying27 ji jz0 jz1 jz2 rfl (by decide) _ 0 [] (by rfl) (ST3.out.head) ⟨g2, 0, none⟩ m.body.length c2 (m.body.map Value.string) (by rfl) (by simp) (own_news (OS.out _ hbx)) (strs_one _) (by unfold maxLen; omega) (by omega) (Nat.zero_le _) ?_; intro v8 w8 ho8 hg8 hat8; have S8S : Seal _ := ⟨ST3.out.app ho8 hg8 hat8⟩; have hb8 : Below W.heap.size W w8 := S8S.out.below; obtain ⟨eS, dS, rfl⟩ := shape_own ho8; obtain ⟨r0, r1, r2, r3, f0, f1, f2, f3⟩ := cells_two (K2.out.later hb8); clear ho8 hg8 hat8) | (refine step_append_at (by rfl) _ _ 27 (by rfl) 0 9 j0 (.string ByteArray.empty) 1 16 Tryd.underlying27 ji jz0 jz1 jz2 rfl (by decide) _ 0 [] (by rfl) ((⟨S8A.out.two⟩ : Seal (St W _ [_, _])).out.head) ⟨g2, 0, none⟩ m.body.length c2 (m.body.map Value.string) (by rfl) (by simp) (own_news (OS.out _ hbx)) (strs_one _) (by unfold maxLen; omega) (by omega) (Nat.zero_le _) ?_; intro v8 w8 ho8 hg8 hat8; have S8S : Seal _ := ⟨(⟨S8A.out.two⟩ : Seal (St W _ [_, _])).out.app ho8 hg8 hat8⟩; have hb8 : Below W.heap.size W w8 := S8S.out.below; obtain ⟨eS, dS, rfl⟩ := shape_own ho8; obtain ⟨r0, r1, r2, r3, f0, f1, f2, f3⟩ := cells_two (K2.out.later hb8); clear ho8 hg8 hat8) | (refine step_append_at (by rfl) _ _ 27 (by rfl) 0 9 j0 (.string ByteArray.empty) 1 16 Tryd.underlying27 ji jz0 jz1 jz2 rfl (by decide) _ 0 [] (by rfl) ((⟨S8A.out.made 9 1 #[] 0 (by unfold maxLen; omega) rfl⟩ : Seal (St W _ _)).out.head) ⟨g2, 0, none⟩ m.body.length c2 (m.body.map Value.string) (by rfl) (by simp) (own_news (OS.out _ hbx)) (strs_one _) (by unfold maxLen; omega) (by omega) (Nat.zero_le _) ?_; intro v8 w8 ho8 hg8 hat8; have S8S : Seal _ := ⟨(⟨S8A.out.made 9 1 #[] 0 (by unfold maxLen; omega) rfl⟩ : Seal (St W _ _)).out.app ho8 hg8 hat8⟩; have hb8 : Below W.heap.size W w8 := S8S.out.below; obtain ⟨eS, dS, rfl⟩ := shape_own ho8; obtain ⟨r0, r1, r2, r3, f0, f1, f2, f3⟩ := cells_two (K2.out.later hb8); clear ho8 hg8 hat8)))
  all_goals
    have FIN : MailOwn w8 W.heap.size m eA dA eS dS := by
      first
        | (refine StX.mailJoin (X := fun _ => False) (w0 := W) (l := []) ?_
           have h := S8S.out.two
           simp only [Nat.zero_add, List.nil_append] at h
           exact h)
        | (refine StX.mailJoin (X := fun _ => False) (w0 := W) (l := []) ?_
           have h := S8A.out
           simp only [Nat.zero_add, List.nil_append] at h
           exact h)
    have BF : Seal (Below w.heap.size w w8) := ⟨B0.out.trans (hb8.mono B0.out.size)⟩
    have FF : Seal _ := ⟨FIN⟩
    clear FIN S8A S8S
    go_wp2
    refine bodyPost_ret (v := .agg (mailV m eA dA eS dS)) (by simp [results, Tryd.results48, go_sem, r0, r1, r2, r3]) rfl ⟨eA, dA, eS, dS, rfl, ?_, ?_⟩
    · refine (?_ : MailOwn _ W.heap.size m eA dA eS dS).base (by omega)
      iterate 4 (refine MailOwn.low ?_ (by omega) _ _)
      exact FF.out
    · iterate 4 (refine Below.setCell ?_ (by simp) _)
      exact BF.out
end Go.Proofs.YtgniokkiejoccaaDoor
namespace Go.Proofs.YtgniokkiejoccaaDoor
open Go Go.RowKit

set_option maxHeartbeats 6400000 in
set_option maxRecDepth 100000 in
theorem l2Copy_none (B : Nat) (m : MailD) (g1 c1 : Nat) (w : World) (ho : MailOwn w B m (some ⟨g1, 0, none⟩) c1 none 0) (hsz : MailSz 1048576 m) (hb0 : m.body = []) :
    Calls Tryd.prog 48 #[.agg (mailV m (some ⟨g1, 0, none⟩) c1 none 0)] w fun e w' => ∃ b1 d1 b2 d2, e = .returned (.agg (mailV m b1 d1 b2 d2)) ∧ MailOwn w' w.heap.size m b1 d1 b2 d2 ∧ Below w.heap.size w w' := by
  obtain ⟨i0, hi, hz0, hz1, hz2⟩ := info_parts infoA
  obtain ⟨j0, ji, jz0, jz1, jz2⟩ := info_parts infoS
  obtain ⟨fu, fd, rc, body⟩ := m
  cases hb0
  have z1 : rc.length ≤ 1048576 := hsz.rcl
  have z2 : True := trivial
  have S0 : Seal (St w _ [_, _]) := ⟨((St.start w).alloc (mailV ⟨fu, fd, rc, []⟩ (some ⟨g1, 0, none⟩) c1 none 0) 29).alloc #[.string { data := #[] }, .string { data := #[] }, .slice none 0 0, .slice none 0 0] 29⟩
  have hs0 : ((w.alloc (.cells (mailV ⟨fu, fd, rc, []⟩ (some ⟨g1, 0, none⟩) c1 none 0) 29)).alloc (.cells #[.string { data := #[] }, .string { data := #[] }, .slice none 0 0, .slice none 0 0] 29)).heap.size = w.heap.size + 1 + 1 := by simp
  have O0 : Seal _ := ⟨ho.later (S0.out.below)⟩
  have LA : Seal (∀ g, (Value.slice (some ⟨g1, 0, none⟩) rc.length c1).ownBlock = some g → g < w.heap.size) := ⟨fun g e => (World.ownsRow.lt ho.rc g e).2⟩
  clear ho hsz
  go_enter Tryd.func48, Tryd.ntmps48
  go_wp2_with fail
  generalize hW : (w.alloc (.cells (mailV ⟨fu, fd, rc, []⟩ (some ⟨g1, 0, none⟩) c1 none 0) 29)).alloc (.cells #[.string { data := #[] }, .string { data := #[] }, .slice none 0 0, .slice none 0 0] 29) = W at *
  have K1 : Seal (CellsM W w.heap.size [.string fu, .string fd, .slice (some ⟨g1, 0, none⟩) rc.length c1, .slice none 0 0]) := ⟨S0.out.two.head⟩
  have K2 : Seal (CellsM W (w.heap.size + 1) noMailV) := ⟨by have := S0.out.head; simp only [World.size_alloc] at this; exact this⟩
  have B0 : Seal (Below w.heap.size w W) := ⟨S0.out.below⟩
  have HS0 : Seal _ := ⟨hs0⟩
  have hk1 : w.heap.size < W.heap.size := by omega
  have hk2 : w.heap.size + 1 < W.heap.size := by omega
  clear hW S0 hs0
  have OA : Seal (∀ W', Below (w.heap.size + 1) W W' → W'.ownsRow 0 25 2 (.slice (some ⟨g1, 0, none⟩) rc.length c1) rc.length (pairCells rc)) := ⟨fun W' hb => row_below O0.out.rc (fun g e => Nat.lt_succ_of_lt (LA.out g e)) hb⟩
  have SA1 : Seal (St W (W.drew.alloc (.cells #[] 25)) _) := ⟨(St.start W).drew.made 25 2 #[] 0 (by unfold maxLen; omega) rfl⟩
  have ST1 : Seal (St W (W.drew.alloc (.cells #[] 9)) _) := ⟨(St.start W).drew.made 9 1 #[] 0 (by unfold maxLen; omega) rfl⟩
  have SA3 : Seal (St W ((W.drew.alloc (.cells #[] 9)).alloc (.cells #[] 25)) [Res.row 25 2 (.slice (some ⟨W.heap.size + 1, 0, none⟩) 0 0) 0 [], Res.row 9 1 (.slice (some ⟨W.heap.size, 0, none⟩) 0 0) 0 []]) := ⟨by
    have h := ST1.out.made 25 2 #[] 0 (by unfold maxLen; omega) rfl
    simp only [World.size_alloc] at h
    exact h⟩
  have ST3 : Seal (St W ((W.drew.alloc (.cells #[] 25)).alloc (.cells #[] 9)) [Res.row 9 1 (.slice (some ⟨W.heap.size + 1, 0, none⟩) 0 0) 0 [], Res.row 25 2 (.slice (some ⟨W.heap.size, 0, none⟩) 0 0) 0 []]) := ⟨by
    have h := SA1.out.made 9 1 #[] 0 (by unfold maxLen; omega) rfl
    simp only [World.size_alloc] at h
    exact h⟩
  have SA2 : Seal (St W ((W.drew.alloc (.cells #[] 25)).alloc (.cells #[] 9)) [Res.row 25 2 (.slice (some ⟨W.heap.size, 0, none⟩) 0 0) 0 [], Res.row 9 1 (.slice (some ⟨W.heap.size + 1, 0, none⟩) 0 0) 0 []]) := ⟨ST3.out.two⟩
  have ST2 : Seal (St W ((W.drew.alloc (.cells #[] 9)).alloc (.cells #[] 25)) [Res.row 9 1 (.slice (some ⟨W.heap.size, 0, none⟩) 0 0) 0 [], Res.row 25 2 (.slice (some ⟨W.heap.size + 1, 0, none⟩) 0 0) 0 []]) := ⟨SA3.out.two⟩
  obtain ⟨q0, q1, q2, q3, _⟩ := cells_two K1.out
  go_region_held3 (fun w' => w'.cell? ⟨w.heap.size, 0, none⟩ = some (.string fu) ∧ w'.cell? ⟨w.heap.size, 1, none⟩ = some (.string fd) ∧ w'.cell? ⟨w.heap.size, 2, none⟩ = some (.slice (some ⟨g1, 0, none⟩) rc.length c1) ∧ w'.cell? ⟨w.heap.size, 3, none⟩ = some (.slice none 0 0) ∧ Below (w.heap.size + 1) W w') (first | exact keep4 K1.out (Nat.lt_succ_self _) (Below.refl _ _).drew | (go_split_ands; exact keep4 K1.out (Nat.lt_succ_self _) (hb8.mono (by omega))) | (go_split_ands; have hbx := (by assumption : Below (w.heap.size + 1) W _); exact keep4 K1.out (Nat.lt_succ_self _) (hbx.alloc (Nat.le_trans (by omega) hbx.size) _)) | (go_split_ands; have hbx := (by assumption : Below (w.heap.size + 1) W _); exact keep4 K1.out (Nat.lt_succ_self _) ((((hbx.setCell (Nat.le_refl _) _).setCell (Nat.le_refl _) _).setCell (Nat.le_refl _) _).setCell (Nat.le_refl _) _)) | (go_split_ands; exact ⟨by assumption, by assumption, by assumption, by assumption, by assumption⟩)) (first | (go_split_ands; have hbx := (by assumption : Below (w.heap.size + 1) W _); first | (refine step_append_at (by rfl) _ _ 26 (by rfl) 0 25 i0 (.agg #[.string ByteArray.empty, .string ByteArray.empty]) 2 32 Tryd.underlying26 hi hz0 hz1 hz2 rfl (by decide) _ 0 [] (by rfl) (SA1.out.head) ⟨g1, 0, none⟩ rc.length c1 (pairCells rc) (by rfl) (pairCells_length _) (own_news (OA.out _ hbx)) (pairs_one' _) (by unfold maxLen; omega) (by omega) (Nat.zero_le _) ?_; intro v8 w8 ho8 hg8 hat8; have S8A : Seal _ := ⟨SA1.out.app ho8 hg8 hat8⟩; have hb8 : Below W.heap.size W w8 := S8A.out.below; obtain ⟨eA, dA, rfl⟩ := shape_own ho8; obtain ⟨r0, r1, r2, r3, f0, f1, f2, f3⟩ := cells_two (K2.out.later hb8); obtain ⟨ra0, ra1, ra2, ra3, fa0, fa1, fa2, fa3⟩ := cells_two ((K2.out.later hb8).more (.cells #[] 9)); clear ho8 hg8 hat8) | (refine step_append_at (by rfl) _ _ 26 (by rfl) 0 25 i0 (.agg #[.string ByteArray.empty, .string ByteArray.empty]) 2 32 Tryd.underlying26 hi hz0 hz1 hz2 rfl (by decide) _ 0 [] (by rfl) (SA2.out.head) ⟨g1, 0, none⟩ rc.length c1 (pairCells rc) (by rfl) (pairCells_length _) (own_news (OA.out _ hbx)) (pairs_one' _) (by unfold maxLen; omega) (by omega) (Nat.zero_le _) ?_; intro v8 w8 ho8 hg8 hat8; have S8A : Seal _ := ⟨SA2.out.app ho8 hg8 hat8⟩; have hb8 : Below W.heap.size W w8 := S8A.out.below; obtain ⟨eA, dA, rfl⟩ := shape_own ho8; obtain ⟨r0, r1, r2, r3, f0, f1, f2, f3⟩ := cells_two (K2.out.later hb8); obtain ⟨ra0, ra1, ra2, ra3, fa0, fa1, fa2, fa3⟩ := cells_two ((K2.out.later hb8).more (.cells #[] 9)); clear ho8 hg8 hat8) | (refine step_append_at (by rfl) _ _ 26 (by rfl) 0 25 i0 (.agg #[.string ByteArray.empty, .string ByteArray.empty]) 2 32 Tryd.underlying26 hi hz0 hz1 hz2 rfl (by decide) _ 0 [] (by rfl) (SA3.out.head) ⟨g1, 0, none⟩ rc.length c1 (pairCells rc) (by rfl) (pairCells_length _) (own_news (OA.out _ hbx)) (pairs_one' _) (by unfold maxLen; omega) (by omega) (Nat.zero_le _) ?_; intro v8 w8 ho8 hg8 hat8; have S8A : Seal _ := ⟨SA3.out.app ho8 hg8 hat8⟩; have hb8 : Below W.heap.size W w8 := S8A.out.below; obtain ⟨eA, dA, rfl⟩ := shape_own ho8; obtain ⟨r0, r1, r2, r3, f0, f1, f2, f3⟩ := cells_two (K2.out.later hb8); obtain ⟨ra0, ra1, ra2, ra3, fa0, fa1, fa2, fa3⟩ := cells_two ((K2.out.later hb8).more (.cells #[] 9)); clear ho8 hg8 hat8) | (refine step_append_nothing (by rfl) _ _ 27 (by rfl) 0 9 j0 1 Tryd.underlying27 ji _ 0 [] (by rfl) (ST1.out.head) (by rfl) ?_) | (refine step_append_nothing (by rfl) _ _ 27 (by rfl) 0 9 j0 1 Tryd.underlying27 ji _ 0 [] (by rfl) (ST2.out.head) (by rfl) ?_) | (refine step_append_nothing (by rfl) _ _ 27 (by rfl) 0 9 j0 1 Tryd.underlying27 ji _ 0 [] (by rfl) (ST3.out.head) (by rfl) ?_) | (refine step_append_nothing (by rfl) _ _ 27 (by rfl) 0 9 j0 1 Tryd.underlying27 ji _ 0 [] (by rfl) ((⟨S8A.out.two⟩ : Seal (St W _ [_, _])).out.head) (by rfl) ?_) | (refine step_append_nothing (by rfl) _ _ 27 (by rfl) 0 9 j0 1 Tryd.underlying27 ji _ 0 [] (by rfl) ((⟨S8A.out.made 9 1 #[] 0 (by unfold maxLen; omega) rfl⟩ : Seal (St W _ _)).out.head) (by rfl) ?_)))
  all_goals
    have hlk : w.heap.size + 1 < w8.heap.size := by have := hb8.size; omega
    have BF : Seal (Below w.heap.size w w8) := ⟨B0.out.trans (hb8.mono B0.out.size)⟩
    have hs8 := hb8.size
    first
      | (have FIN : MailOwn w8 W.heap.size ⟨fu, fd, rc, []⟩ eA dA (some ⟨W.heap.size, 0, none⟩) 0 := by
           refine StX.mailJoin (X := fun _ => False) (w0 := W) (l := []) ?_
           have h := S8A.out
           simp only [Nat.zero_add, List.nil_append] at h
           exact h
         have FF : Seal _ := ⟨FIN⟩
         clear FIN S8A
         go_wp2
         refine bodyPost_ret (v := .agg (mailV ⟨fu, fd, rc, []⟩ eA dA (some ⟨W.heap.size, 0, none⟩) 0)) (by simp [results, Tryd.results48, go_sem, r0, r1, r2, r3]) rfl ⟨eA, dA, some ⟨W.heap.size, 0, none⟩, 0, rfl, ?_, ?_⟩
         · refine (?_ : MailOwn _ W.heap.size ⟨fu, fd, rc, []⟩ eA dA (some ⟨W.heap.size, 0, none⟩) 0).base (by omega)
           iterate 4 (refine MailOwn.low ?_ (by omega) _ _)
           exact FF.out
         · iterate 4 (refine Below.setCell ?_ (by simp) _)
           exact BF.out)
      | (have FIN : MailOwn w8 W.heap.size ⟨fu, fd, rc, []⟩ eA dA (some ⟨W.heap.size + 1, 0, none⟩) 0 := by
           refine StX.mailJoin (X := fun _ => False) (w0 := W) (l := []) ?_
           have h := S8A.out
           simp only [Nat.zero_add, List.nil_append] at h
           exact h
         have FF : Seal _ := ⟨FIN⟩
         clear FIN S8A
         go_wp2
         refine bodyPost_ret (v := .agg (mailV ⟨fu, fd, rc, []⟩ eA dA (some ⟨W.heap.size + 1, 0, none⟩) 0)) (by simp [results, Tryd.results48, go_sem, r0, r1, r2, r3]) rfl ⟨eA, dA, some ⟨W.heap.size + 1, 0, none⟩, 0, rfl, ?_, ?_⟩
         · refine (?_ : MailOwn _ W.heap.size ⟨fu, fd, rc, []⟩ eA dA (some ⟨W.heap.size + 1, 0, none⟩) 0).base (by omega)
           iterate 4 (refine MailOwn.low ?_ (by omega) _ _)
           exact FF.out
         · iterate 4 (refine Below.setCell ?_ (by simp) _)
           exact BF.out)
      | (have FIN : MailOwn (w8.alloc (.cells #[] 9)) W.heap.size ⟨fu, fd, rc, []⟩ eA dA (some ⟨w8.heap.size, 0, none⟩) 0 := by
           refine StX.mailJoin (X := fun _ => False) (w0 := W) (l := []) ?_
           have h := (S8A.out.made 9 1 #[] 0 (by unfold maxLen; omega) rfl).two
           simp only [Nat.zero_add, List.nil_append] at h
           exact h
         have FF : Seal _ := ⟨FIN⟩
         have BG : Seal (Below w.heap.size w (w8.alloc (.cells #[] 9))) := ⟨BF.out.alloc (by omega) _⟩
         clear FIN S8A
         go_wp2
         refine bodyPost_ret (v := .agg (mailV ⟨fu, fd, rc, []⟩ eA dA (some ⟨w8.heap.size, 0, none⟩) 0)) (by simp [results, Tryd.results48, go_sem, r0, r1, r2, r3, hlk]) rfl ⟨eA, dA, some ⟨w8.heap.size, 0, none⟩, 0, rfl, ?_, ?_⟩
         · refine (?_ : MailOwn _ W.heap.size ⟨fu, fd, rc, []⟩ eA dA (some ⟨w8.heap.size, 0, none⟩) 0).base (by omega)
           iterate 4 (refine MailOwn.low ?_ (by omega) _ _)
           exact FF.out
         · iterate 4 (refine Below.setCell ?_ (by simp) _)
           exact BG.out)

theorem l2Copy_any (B : Nat) (m : MailD) (a1 : Option Addr) (c1 : Nat) (a2 : Option Addr) (c2 : Nat) (w : World) (ho : MailOwn w B m a1 c1 a2 c2) (hsz : MailSz 1048576 m) (h1 : 1 ≤ m.rc.length) :
    Calls Tryd.prog 48 #[.agg (mailV m a1 c1 a2 c2)] w fun e w' => ∃ b1 d1 b2 d2, e = .returned (.agg (mailV m b1 d1 b2 d2)) ∧ MailOwn w' w.heap.size m b1 d1 b2 d2 ∧ Below w.heap.size w w' := by
  rcases own_split ho.rc with ⟨_, h0, _⟩ | ⟨g1, rfl⟩
  · omega
  rcases own_split ho.body with ⟨rfl, h0, rfl⟩ | ⟨g2, rfl⟩
  · exact l2Copy_none B m g1 c1 w ho hsz (List.eq_nil_of_length_eq_zero h0)
  · exact l2Copy_some B m g1 c1 g2 c2 w ho hsz
end Go.Proofs.YtgniokkiejoccaaDoor
