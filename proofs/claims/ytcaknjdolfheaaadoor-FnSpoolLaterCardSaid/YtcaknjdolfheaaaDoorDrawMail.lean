/- Contract: a mail drawn. -/
import Derived.Test.YtcaknjdolfheaaaDoorDraws
import Derived.Test.YtcaknjdolfheaaaDoorMails
import Derived.Deep.QuietTactic
import Derived.BigQuiet
namespace Go.Proofs.YtcaknjdolfheaaaDoor
open Go Go.RowKit

theorem infoAddr2 : (Tryd.prog.info? 27).map (fun i => (i.zero, i.size, i.bytes)) = some (some (.agg #[.string ByteArray.empty, .string ByteArray.empty]), 2, 32) := by kernel_rfl

theorem FourM.kept {W W' : World} {r : Option Nat} {k : Nat} {x0 x1 x2 x3 : Value} (h : FourM W k x0 x1 x2 x3) (hg : W.grownBy W' r) (hne : r ≠ some k) : FourM W' k x0 x1 x2 x3 := by
  have hl := h.lt
  have hk := hg.block k hl (fun e => hne e.symm)
  obtain ⟨⟨c0, c1, c2, c3⟩, f0, f1, f2, f3⟩ := h
  exact ⟨⟨(World.cell?_of_block (a := ⟨k, 0, none⟩) hk).trans c0, (World.cell?_of_block (a := ⟨k, 1, none⟩) hk).trans c1, (World.cell?_of_block (a := ⟨k, 2, none⟩) hk).trans c2, (World.cell?_of_block (a := ⟨k, 3, none⟩) hk).trans c3⟩,
    (World.frozen?_of_block (a := ⟨k, 0, none⟩) hk).trans f0, (World.frozen?_of_block (a := ⟨k, 1, none⟩) hk).trans f1, (World.frozen?_of_block (a := ⟨k, 2, none⟩) hk).trans f2, (World.frozen?_of_block (a := ⟨k, 3, none⟩) hk).trans f3⟩
theorem grow_below {w w' : World} {r : Option Nat} (h : Below w.heap.size w w') : w.grownBy w' r := ⟨h.os, h.tape, h.output, h.size, fun k hk _ => h.block k hk⟩

/-- A mail that is being drawn: the box of the result in block w.heap.size, its own box in block M. -/
structure DMail (w : World) (B b P M : Nat) (m : MailD) (a1 : Option Addr) (c1 : Nat) (a2 : Option Addr) (c2 : Nat) (W : World) : Prop where
  res : FourM W w.heap.size (.string ByteArray.empty) (.string ByteArray.empty) (.slice none 0 0) (.slice none 0 0)
  four : FourM W M (.string m.fu) (.string m.fd) (.slice a1 m.rc.length c1) (.slice a2 m.body.length c2)
  rc : PRow W (M + 1) 27 a1 c1 m.rc
  body : Row W (w.heap.size + 1) a2 c2 m.body
  low : ∀ k, blockOf a2 = some k → k < M
  rd : Rd B b P W
  grown : w.grownBy W (some b)
  le : w.heap.size < M
  lt : b < w.heap.size
theorem own_keep {w w' : World} {base b : Nat} {e : TypeId} {size n : Nat} {v : Value} {xs : List Value} (h : w.ownsRow base e size v n xs) (hg : w.grownBy w' (some b)) (hb : b < base) : w'.ownsRow base e size v n xs :=
  h.kept hg (by
    cases e : v.ownBlock with
    | none => exact .inl rfl
    | some k => exact .inr (fun q => by have := (h.lt k e).1; have := Option.some.inj q; omega))
theorem DMail.step {w : World} {B b P P' M : Nat} {m : MailD} {a1 : Option Addr} {c1 : Nat} {a2 : Option Addr} {c2 : Nat} {W W' : World} (h : DMail w B b P M m a1 c1 a2 c2 W) (hg : W.grownBy W' (some b)) (hr : Rd B b P' W') : DMail w B b P' M m a1 c1 a2 c2 W' :=
  have h1 := h.le
  have h2 := h.lt
  ⟨h.res.kept hg (fun e => by have := Option.some.inj e; omega), h.four.kept hg (fun e => by have := Option.some.inj e; omega), own_keep h.rc hg (by omega), own_keep h.body hg (by omega), h.low, hr, h.grown.trans hg, h1, h2⟩
theorem DMail.up {w : World} {B b P P' M : Nat} {m : MailD} {a1 : Option Addr} {c1 : Nat} {a2 : Option Addr} {c2 : Nat} {W : World} (h : DMail w B b P M m a1 c1 a2 c2 W) (hP : P ≤ P') : DMail w B b P' M m a1 c1 a2 c2 W :=
  ⟨h.res, h.four, h.rc, h.body, h.low, h.rd.mono hP, h.grown, h.le, h.lt⟩
theorem DMail.later {w : World} {B b P M : Nat} {m : MailD} {a1 : Option Addr} {c1 : Nat} {a2 : Option Addr} {c2 : Nat} {W W' : World} (h : DMail w B b P M m a1 c1 a2 c2 W) (hb : Below W.heap.size W W') : DMail w B b P M m a1 c1 a2 c2 W' :=
  h.step (grow_below hb) (h.rd.later hb)
theorem DMail.more {w : World} {B b P M : Nat} {m : MailD} {a1 : Option Addr} {c1 : Nat} {a2 : Option Addr} {c2 : Nat} {W : World} (h : DMail w B b P M m a1 c1 a2 c2 W) (o : Obj) : DMail w B b P M m a1 c1 a2 c2 (W.alloc o) :=
  h.later ((Below.refl _ _).alloc (Nat.le_refl _) _)
theorem DMail.from {w : World} {B b P M : Nat} {m : MailD} {a1 : Option Addr} {c1 : Nat} {a2 : Option Addr} {c2 : Nat} {W : World} (h : DMail w B b P M m a1 c1 a2 c2 W) (u d : ByteArray) : DMail w B b P M ⟨u, d, m.rc, m.body⟩ a1 c1 a2 c2 ((W.setCell ⟨M, 0, none⟩ (.string u)).setCell ⟨M, 1, none⟩ (.string d)) := by
  have h1 := h.le
  have h2 := h.lt
  have hlow : ∀ (W : World) (j : Nat) (v : Value), Row W (w.heap.size + 1) a2 c2 m.body → Row (W.setCell ⟨M, j, none⟩ v) (w.heap.size + 1) a2 c2 m.body := fun W j v ho => by
    refine World.ownsRow.kept (row := some M) ho ⟨rfl, rfl, rfl, by simp, fun i _ hi => heap_setCell_other W ⟨M, j, none⟩ i v (fun e => hi (by simp [e]))⟩ ?_
    rw [own_block]
    cases e : blockOf a2 with
    | none => exact .inl rfl
    | some g => exact .inr fun e2 => by have := h.low g e; have := Option.some.inj e2; omega
  refine ⟨(h.res.far _ (by omega)).far _ (by omega), (h.four.set0 _).set1 _, (h.rc.low (by omega) _).low (by omega) _, hlow _ _ _ (hlow _ _ _ h.body), h.low, (h.rd.set (by omega) _).set (by omega) _, grow_set (grow_set h.grown (by omega) _) (by omega) _, h1, h2⟩
theorem DMail.ne {w : World} {B b P M : Nat} {m : MailD} {a1 : Option Addr} {c1 : Nat} {a2 : Option Addr} {c2 : Nat} {W : World} (h : DMail w B b P M m a1 c1 a2 c2 W) : (blockOf a1 = none ∨ blockOf a1 ≠ blockOf a2) ∧ (blockOf a2 = none ∨ blockOf a2 ≠ blockOf a1) := by
  have key : ∀ k, blockOf a1 = some k → blockOf a2 = some k → False := fun k e1 e2 => by
    have := (h.rc.lt e1).1
    have := h.low k e2
    omega
  constructor
  · cases e : blockOf a1 with
    | none => exact .inl rfl
    | some k => exact .inr fun e2 => key k e e2.symm
  · cases e : blockOf a2 with
    | none => exact .inl rfl
    | some k => exact .inr fun e2 => key k e2.symm e
theorem pairCells_snoc (ps : List Pair) (p : Pair) : pairCells (ps ++ [p]) = pairCells ps ++ [.string p.1, .string p.2] := by simp [pairCells]
theorem DMail.app {w : World} {B b P M : Nat} {fu fd : ByteArray} {ps : List Pair} {xs : List ByteArray} {a1 : Option Addr} {c1 : Nat} {a2 : Option Addr} {c2 : Nat} {W W' : World} (h : DMail w B b P M ⟨fu, fd, ps, xs⟩ a1 c1 a2 c2 W) (p : Pair) {v : Value}
    (ho : W'.ownsRow (M + 1) 27 2 v (ps.length + 1) (pairCells ps ++ [.string p.1, .string p.2])) (hg : W.grownBy W' (Value.slice a1 ps.length c1).ownBlock) :
    ∃ a5 c5, v = .slice a5 (ps ++ [p]).length c5 ∧ DMail w B b P M ⟨fu, fd, ps ++ [p], xs⟩ a5 c5 a2 c2 (W'.setCell ⟨M, 2, none⟩ v) := by
  obtain ⟨a5, c5, e⟩ := shape_own ho
  have h1 := h.le
  have h2 := h.lt
  have hl : ∀ k, (Value.slice a1 ps.length c1).ownBlock = some k → M + 1 ≤ k := fun k e => (World.ownsRow.lt h.rc k e).1
  have hb' : Row W' (w.heap.size + 1) a2 c2 xs := World.ownsRow.kept h.body hg (by
    rw [own_block]
    cases e : blockOf a2 with
    | none => exact .inl rfl
    | some g => exact .inr fun e2 => by have := h.low g e; have := hl g e2.symm; omega)
  have hb2 : Row (W'.setCell ⟨M, 2, none⟩ v) (w.heap.size + 1) a2 c2 xs := by
    refine World.ownsRow.kept (row := some M) hb' ⟨rfl, rfl, rfl, by simp, fun i _ hi => heap_setCell_other W' ⟨M, 2, none⟩ i v (fun e => hi (by simp [e]))⟩ ?_
    rw [own_block]
    cases e : blockOf a2 with
    | none => exact .inl rfl
    | some g => exact .inr fun e2 => by have := h.low g e; have := Option.some.inj e2; omega
  have hd : Rd B b P W' := h.rd.grown hg (fun k e => by have := hl k e; omega)
  have hgr : w.grownBy W' (some b) := grow_own h.grown hg (fun k e => by have := hl k e; omega)
  have hl1 : (ps ++ [p]).length = ps.length + 1 := by rw [List.length_append, List.length_singleton]
  subst e
  have hp : PRow W' (M + 1) 27 a5 c5 (ps ++ [p]) := by
    unfold PRow
    rw [pairCells_snoc, hl1]
    exact ho
  refine ⟨a5, c5, by rw [hl1], ?_⟩
  have h4 := (h.four.kept hg (fun e => by have := hl _ e; omega)).set2 (Value.slice a5 (ps.length + 1) c5)
  refine ⟨(h.res.kept hg (fun e => by have := hl _ e; omega)).far _ (by omega), ?_, hp.low (by omega) _, hb2, h.low, hd.set (by omega) _, grow_set hgr (by omega) _, h1, h2⟩
  rw [hl1]
  exact h4

theorem two_news (w : World) (t : TypeId) (u d : ByteArray) : ∀ (j : Nat) (x : Value), ([.string u, .string d] : List Value)[j]? = some x → (w.alloc (.cells #[.string u, .string d] t)).cell? ((⟨w.heap.size, 0, none⟩ : Addr).add j) = some x := by
  intro j x hx
  match j with
  | 0 => simp at hx; subst hx; exact (TwoAt.new w (.string u) (.string d) t).1
  | 1 => simp at hx; subst hx; exact (TwoAt.new w (.string u) (.string d) t).2.1
  | j + 2 => simp at hx

set_option maxHeartbeats 4000000 in
set_option maxRecDepth 100000 in
theorem l20Mail_any (B b P : Nat) (w : World) (h : Rd B b P w) (hP : P ≤ 700000) :
    Calls Tryd.prog 98 #[.pointer (some ⟨b, 0, none⟩)] w fun e w' => ∃ m a1 c1 a2 c2, e = .returned (.agg (mailV m a1 c1 a2 c2)) ∧ MailOwn w' w.heap.size m a1 c1 a2 c2 ∧ MailSz 40 m ∧ 1 ≤ m.rc.length ∧ m.rc.length ≤ 4 ∧ m.body.length ≤ 9 ∧ Rd B b (P + 60) w' ∧ w.grownBy w' (some b) := by
  obtain ⟨i0, hi, hz0, hz1, hz2⟩ := info_parts infoAddr2
  have HP := Lib.hid hP
  have hbw := h.lt.2
  have H := Lib.hid h
  clear hP h
  go_enter Tryd.func98, Tryd.ntmps98
  go_wp2_with fail
  refine (l20Addr_any B b P _ (H.out.more _) (by have := HP.out; omega)).mono ?_
  rintro e w1 ⟨u, d, hu, hd, rfl, h1, g1⟩
  have zu : u.size ≤ 20 := small_of (by decide) hu
  have zd : d.size ≤ 20 := small_of (by decide) hd
  have R1 := Lib.hid ((FourM.new w (.string ByteArray.empty) (.string ByteArray.empty) (.slice none 0 0) (.slice none 0 0) 61).kept g1 (fun e => by have := Option.some.inj e; omega))
  have G1 := Lib.hid (grow_alloc g1)
  have H1 := Lib.hid h1
  have s1 := g1.size
  simp only [World.size_alloc] at s1
  clear hu hd h1 g1 H
  go_wp2_with fail
  refine (one_at (m := 9) [1, 4, 9] H1.out (by simp) (by have := HP.out; omega) rfl rfl (by decide) (by decide) (by decide)).mono ?_
  rintro e w2 ⟨most, hm, rfl, h2, g2⟩
  have R2 := Lib.hid (R1.out.kept g2 (fun e => by have := Option.some.inj e; omega))
  have G2 := Lib.hid (G1.out.trans g2)
  have H2 := Lib.hid h2
  have s2 := g2.size
  clear h2 g2 R1 G1 H1
  go_wp2_with fail
  refine (l20Body_any B b _ most _ H2.out (by have := HP.out; omega) (by omega)).mono ?_
  rintro e w3 ⟨a2, c2, xs, hx, hs, rfl, r3, h3, g3⟩
  have s3 := g3.size
  have hlow : ∀ k, blockOf a2 = some k → k < w3.heap.size := fun k e => (r3.lt e).2
  have D3 : Hid (DMail w B b (P + 30) w3.heap.size ⟨u, d, [], xs⟩ none 0 a2 c2 (w3.alloc (.cells #[.string u, .string d, .slice none 0 0, .slice a2 xs.length c2] 61))) := Lib.hid
    ⟨(R2.out.kept g3 (fun e => by have := Option.some.inj e; omega)).later ((Below.refl _ _).alloc (Nat.le_refl _) _), FourM.new w3 _ _ _ _ _, ⟨rfl, .inl ⟨rfl, rfl⟩⟩, (show Row _ _ a2 c2 xs from ownsRow_base (r3.later ((Below.refl _ _).alloc (Nat.le_refl _) _)) (by omega)), hlow, (h3.more _).mono (by omega), grow_more (G2.out.trans g3) _, by omega, hbw⟩
  have HS := Lib.hid hs
  clear hs r3 h3 g3 hlow R2 G2 H2
  go_wp2_with fail
  refine (pick_any B b _ 5 _ D3.out.rd (by have := HP.out; omega) (by decide) (by decide)).mono ?_
  rintro e w4 ⟨k, rfl, hk, h4, g4⟩
  have D4 := Lib.hid (D3.out.step g4 h4)
  clear h4 g4 D3
  by_cases k0 : k = 0
  · subst k0
    obtain ⟨⟨q0, q1, q2, q3⟩, p0, p1, p2, p3⟩ := D4.out.four.cells
    go_wp2_with fail
    have D5 : Hid (DMail w B b (P + 31) w3.heap.size ⟨{ data := #[] }, { data := #[] }, [], xs⟩ none 0 a2 c2 ((w4.setCell ⟨w3.heap.size, 0, none⟩ (.string { data := #[] })).setCell ⟨w3.heap.size, 1, none⟩ (.string { data := #[] }))) := Lib.hid (D4.out.from _ _)
    clear q0 q1 q2 q3 p0 p1 p2 p3 D4
    generalize (w4.setCell ⟨w3.heap.size, 0, none⟩ (.string { data := #[] })).setCell ⟨w3.heap.size, 1, none⟩ (.string { data := #[] }) = W at D5 ⊢
    obtain ⟨fu, fd, zfu, zfd, D6⟩ : ∃ fu fd : ByteArray, fu.size ≤ 20 ∧ fd.size ≤ 20 ∧ Hid (DMail w B b (P + 31) w3.heap.size ⟨fu, fd, [], xs⟩ none 0 a2 c2 W) := ⟨_, _, by decide, by decide, D5⟩
    clear D5
    generalize w3.heap.size = M at *
    refine (pick_any B b _ 4 _ D6.out.rd (by have := HP.out; omega) (by decide) (by decide)).mono ?_
    rintro e w5 ⟨n0, rfl, hn0, h5, g5⟩
    have D7 := Lib.hid (D6.out.step g5 h5)
    clear h5 g5 D6
    go_wp2_with fail
    go_loopw [4] (fun n wr => ∃ (N : Nat) (ps : List Pair) (a1 : Option Addr) (c1 : Nat), n = .int .i64 N ∧ 1 ≤ N + ps.length ∧ N + ps.length ≤ 4 ∧ Hid (∀ p ∈ ps, p.1.size ≤ 20 ∧ p.2.size ≤ 20) ∧ Hid (DMail w B b (P + 32 + 2 * (4 - N)) M ⟨fu, fd, ps, xs⟩ a1 c1 a2 c2 wr)) (fun n _ => (intOf n).toNat)
    case atStart => exact ⟨1 + n0, [], none, 0, by go_num, by simp, by simp; omega, Lib.hid (fun p hp => by cases hp), Lib.hid (D7.out.up (by omega))⟩
    case round =>
      obtain ⟨N, ps, a1, c1, rfl, hN1, hN4, HPS, DR⟩ := hrel
      clear D7
      by_cases h0 : 0 < N
      · go_wp2_with fail
        refine (l20Addr_any B b _ _ DR.out.rd (by have := HP.out; omega)).mono ?_
        rintro e w6 ⟨ua, da, hu, hd, rfl, h6, g6⟩
        have zua : ua.size ≤ 20 := small_of (by decide) hu
        have zda : da.size ≤ 20 := small_of (by decide) hd
        have DA := Lib.hid ((DR.out.step g6 h6).more (.cells #[.string ua, .string da] 27))
        have TA := Lib.hid (TwoAt.new w6 (.string ua) (.string da) 27)
        clear hu hd h6 g6 DR
        go_wp2_with fail
        go_loopw [6, 7] (fun s i wx => ∃ (q : Bool) (j : Nat), s = .bool q ∧ i = .int .i64 j ∧ j ≤ ps.length ∧ (q = true → 1 ≤ ps.length) ∧ Hid (Below (w6.alloc (.cells #[.string ua, .string da] 27)).heap.size (w6.alloc (.cells #[.string ua, .string da] 27)) wx)) (fun _ i _ => ps.length - (intOf i).toNat)
        case atStart => exact ⟨false, 0, rfl, rfl, Nat.zero_le _, (fun h => by cases h), Lib.hid (Below.refl _ _)⟩
        case round =>
          obtain ⟨q, j, rfl, rfl, hj, hq, HB⟩ := hrel
          have DX := Lib.hid (DA.out.later HB.out)
          have TX := Lib.hid (TA.out.later HB.out)
          obtain ⟨⟨q0, q1, q2, q3⟩, p0, p1, p2, p3⟩ := DX.out.four.cells
          replace q2 : World.cell? _ ⟨M, 2, none⟩ = some (.slice a1 ps.length c1) := q2
          have hown : World.ownsRow _ (M + 1) 27 2 (.slice a1 ps.length c1) ps.length (pairCells ps) := DX.out.rc
          obtain ⟨t0, t1, _, _⟩ := TX.out
          by_cases hlt : j < ps.length
          · cases q
            · obtain ⟨p, hp⟩ : ∃ p, ps[j]? = some p := ⟨_, List.getElem?_eq_getElem hlt⟩
              obtain ⟨b', off', rfl, hd1, hd2⟩ := DX.out.rc.pairs j p hp
              clear hp
              by_cases hqp : p = (ua, da)
              · subst hqp
                go_wp2_with fail
                go_quiet (fail)
                go_wp2
                exact ⟨⟨true, j + 1, rfl, by go_num, by omega, (fun _ => by omega), Lib.hid (drewN_below HB.out _)⟩, by simp [intOf]; omega⟩
              · rcases pair_ne hqp with h1 | ⟨h1, h2⟩
                all_goals
                  go_wp2_with fail
                  go_quiet (fail)
                  go_wp2
                  exact ⟨⟨false, j + 1, rfl, by go_num, by omega, (fun h => by cases h), Lib.hid (drewN_below HB.out _)⟩, by simp [intOf]; omega⟩
            · go_wp2_with fail
              go_quiet (fail)
              go_wp2
              exact ⟨⟨true, j + 1, rfl, by go_num, by omega, (fun _ => by omega), Lib.hid (drewN_below HB.out _)⟩, by simp [intOf]; omega⟩
          · cases q
            · have HPS2 : Hid (∀ p ∈ ps ++ [(ua, da)], p.1.size ≤ 20 ∧ p.2.size ≤ 20) := Lib.hid (fun p hp => by
                rcases List.mem_append.1 hp with hp | hp
                · exact HPS.out p hp
                · rw [List.mem_singleton.1 hp]; exact ⟨zua, zda⟩)
              go_wp2_with (at_builtin; refine wpList_append_own _ rfl _ _ 59 rfl (M + 1) 27 i0 (.agg #[.string ByteArray.empty, .string ByteArray.empty]) 2 32 Tryd.underlying59 hi hz0 hz1 hz2 rfl (by decide) _ _ _ rfl (hown.alloc _) ⟨wr.heap.size, 0, none⟩ 1 1 [.string ua, .string da] rfl rfl ?c1 ?c2 ?c3 ?c4 ?c5 ?_)
              case c2 => exact ⟨rfl, rfl⟩
              case c3 => unfold maxLen; omega
              case c4 => omega
              case c5 => have := DX.out.four.lt; omega
              intro v' w7 hown' hgrow _
              obtain ⟨a5, c5, rfl, D8⟩ := (DX.out.more (.cells #[.string ua, .string da] 27)).app (ua, da) hown' hgrow
              have hM7 := (((DX.out.four.later ((Below.refl _ _).alloc (Nat.le_refl _) (.cells #[.string ua, .string da] 27))).kept hgrow (fun e => by have := (World.ownsRow.lt DX.out.rc _ e).1; omega))).cells
              obtain ⟨⟨x0, x1, x2, x3⟩, y0, y1, y2, y3⟩ := hM7
              have D8 := Lib.hid D8
              have hl1 : (ps ++ [(ua, da)]).length = ps.length + 1 := by rw [List.length_append, List.length_singleton]
              have D9 : Hid (DMail w B b (P + 32 + 2 * (4 - (N - 1))) M ⟨fu, fd, ps ++ [(ua, da)], xs⟩ a5 c5 a2 c2 _) := Lib.hid (D8.out.up (by omega))
              rw [hl1] at D9
              clear hown' hgrow q0 q1 q2 q3 p0 p1 p2 p3 t0 t1 DX TX HB D8
              go_wp2
              go_roundw
              case rel => exact ⟨N - 1, ps ++ [(ua, da)], a5, c5, by go_num, by rw [hl1]; omega, by rw [hl1]; omega, HPS2, D9⟩
              case measure => simp [intOf]; omega
            · have hq1 := hq rfl
              have D9 : Hid (DMail w B b (P + 32 + 2 * (4 - (N - 1))) M ⟨fu, fd, ps, xs⟩ a1 c1 a2 c2 _) := Lib.hid (DX.out.up (by omega))
              go_wp2
              go_roundw
              case rel => exact ⟨N - 1, ps, a1, c1, by go_num, by omega, by omega, HPS, D9⟩
              case measure => simp [intOf]; omega
      · obtain rfl : N = 0 := by omega
        obtain ⟨⟨q0, q1, q2, q3⟩, p0, p1, p2, p3⟩ := DR.out.four.cells
        obtain ⟨⟨r0, r1, r2, r3⟩, s0', s1', s2', s3'⟩ := DR.out.res.cells
        have hne := DR.out.le
        have hn : M ≠ w.heap.size := by omega
        have hn' : w.heap.size ≠ M := by omega
        have NE := Lib.hid DR.out.ne
        replace q1 : World.cell? _ ⟨M, 1, none⟩ = some (.string fd) := q1
        replace q0 : World.cell? _ ⟨M, 0, none⟩ = some (.string fu) := q0
        replace q2 : World.cell? _ ⟨M, 2, none⟩ = some (.slice a1 ps.length c1) := q2
        replace q3 : World.cell? _ ⟨M, 3, none⟩ = some (.slice a2 xs.length c2) := q3
        go_wp2
        refine bodyPost_ret (v := .agg (mailV ⟨fu, fd, ps, xs⟩ a1 c1 a2 c2)) (by simp [results, Tryd.results98, go_sem, r0, r1, r2, r3]) rfl ⟨_, a1, c1, a2, c2, rfl, ?_, ⟨by show fu.size ≤ 40; omega, by show fd.size ≤ 40; omega, by show ps.length ≤ 40; omega, fun p hp => ⟨Nat.le_trans (HPS.out p hp).1 (by omega), Nat.le_trans (HPS.out p hp).2 (by omega)⟩, by show xs.length ≤ 40; omega, HS.out⟩, by show 1 ≤ ps.length; omega, by show ps.length ≤ 4; omega, by show xs.length ≤ 9; omega, ?_, ?_⟩
        · exact ⟨ownsRow_base ((((DR.out.rc.low (by omega) _).low (by omega) _).low (by omega) _).low (by omega) _) (by omega), ownsRow_base ((((DR.out.body.low (by omega) _).low (by omega) _).low (by omega) _).low (by omega) _) (by omega), NE.out⟩
        · exact (((((DR.out.rd.set hbw _).set hbw _).set hbw _).set hbw _).mono (by omega))
        · exact grow_set (grow_set (grow_set (grow_set DR.out.grown (Nat.le_refl _) _) (Nat.le_refl _) _) (Nat.le_refl _) _) (Nat.le_refl _) _
  · have hb0 : ((k : Int) == 0) = false := by rw [beq_eq_false_iff_ne]; omega
    go_wp2_with fail
    have D5 : Hid (DMail w B b (P + 31) w3.heap.size ⟨u, d, [], xs⟩ none 0 a2 c2 w4) := D4
    clear D4
    generalize w4 = W at D5 ⊢
    obtain ⟨fu, fd, zfu, zfd, D6⟩ : ∃ fu fd : ByteArray, fu.size ≤ 20 ∧ fd.size ≤ 20 ∧ Hid (DMail w B b (P + 31) w3.heap.size ⟨fu, fd, [], xs⟩ none 0 a2 c2 W) := ⟨u, d, zu, zd, D5⟩
    clear D5
    generalize w3.heap.size = M at *
    refine (pick_any B b _ 4 _ D6.out.rd (by have := HP.out; omega) (by decide) (by decide)).mono ?_
    rintro e w5 ⟨n0, rfl, hn0, h5, g5⟩
    have D7 := Lib.hid (D6.out.step g5 h5)
    clear h5 g5 D6
    go_wp2_with fail
    go_loopw [4] (fun n wr => ∃ (N : Nat) (ps : List Pair) (a1 : Option Addr) (c1 : Nat), n = .int .i64 N ∧ 1 ≤ N + ps.length ∧ N + ps.length ≤ 4 ∧ Hid (∀ p ∈ ps, p.1.size ≤ 20 ∧ p.2.size ≤ 20) ∧ Hid (DMail w B b (P + 32 + 2 * (4 - N)) M ⟨fu, fd, ps, xs⟩ a1 c1 a2 c2 wr)) (fun n _ => (intOf n).toNat)
    case atStart => exact ⟨1 + n0, [], none, 0, by go_num, by simp, by simp; omega, Lib.hid (fun p hp => by cases hp), Lib.hid (D7.out.up (by omega))⟩
    case round =>
      obtain ⟨N, ps, a1, c1, rfl, hN1, hN4, HPS, DR⟩ := hrel
      clear D7
      by_cases h0 : 0 < N
      · go_wp2_with fail
        refine (l20Addr_any B b _ _ DR.out.rd (by have := HP.out; omega)).mono ?_
        rintro e w6 ⟨ua, da, hu, hd, rfl, h6, g6⟩
        have zua : ua.size ≤ 20 := small_of (by decide) hu
        have zda : da.size ≤ 20 := small_of (by decide) hd
        have DA := Lib.hid ((DR.out.step g6 h6).more (.cells #[.string ua, .string da] 27))
        have TA := Lib.hid (TwoAt.new w6 (.string ua) (.string da) 27)
        clear hu hd h6 g6 DR
        go_wp2_with fail
        go_loopw [6, 7] (fun s i wx => ∃ (q : Bool) (j : Nat), s = .bool q ∧ i = .int .i64 j ∧ j ≤ ps.length ∧ (q = true → 1 ≤ ps.length) ∧ Hid (Below (w6.alloc (.cells #[.string ua, .string da] 27)).heap.size (w6.alloc (.cells #[.string ua, .string da] 27)) wx)) (fun _ i _ => ps.length - (intOf i).toNat)
        case atStart => exact ⟨false, 0, rfl, rfl, Nat.zero_le _, (fun h => by cases h), Lib.hid (Below.refl _ _)⟩
        case round =>
          obtain ⟨q, j, rfl, rfl, hj, hq, HB⟩ := hrel
          have DX := Lib.hid (DA.out.later HB.out)
          have TX := Lib.hid (TA.out.later HB.out)
          obtain ⟨⟨q0, q1, q2, q3⟩, p0, p1, p2, p3⟩ := DX.out.four.cells
          replace q2 : World.cell? _ ⟨M, 2, none⟩ = some (.slice a1 ps.length c1) := q2
          have hown : World.ownsRow _ (M + 1) 27 2 (.slice a1 ps.length c1) ps.length (pairCells ps) := DX.out.rc
          obtain ⟨t0, t1, _, _⟩ := TX.out
          by_cases hlt : j < ps.length
          · cases q
            · obtain ⟨p, hp⟩ : ∃ p, ps[j]? = some p := ⟨_, List.getElem?_eq_getElem hlt⟩
              obtain ⟨b', off', rfl, hd1, hd2⟩ := DX.out.rc.pairs j p hp
              clear hp
              by_cases hqp : p = (ua, da)
              · subst hqp
                go_wp2_with fail
                go_quiet (fail)
                go_wp2
                exact ⟨⟨true, j + 1, rfl, by go_num, by omega, (fun _ => by omega), Lib.hid (drewN_below HB.out _)⟩, by simp [intOf]; omega⟩
              · rcases pair_ne hqp with h1 | ⟨h1, h2⟩
                all_goals
                  go_wp2_with fail
                  go_quiet (fail)
                  go_wp2
                  exact ⟨⟨false, j + 1, rfl, by go_num, by omega, (fun h => by cases h), Lib.hid (drewN_below HB.out _)⟩, by simp [intOf]; omega⟩
            · go_wp2_with fail
              go_quiet (fail)
              go_wp2
              exact ⟨⟨true, j + 1, rfl, by go_num, by omega, (fun _ => by omega), Lib.hid (drewN_below HB.out _)⟩, by simp [intOf]; omega⟩
          · cases q
            · have HPS2 : Hid (∀ p ∈ ps ++ [(ua, da)], p.1.size ≤ 20 ∧ p.2.size ≤ 20) := Lib.hid (fun p hp => by
                rcases List.mem_append.1 hp with hp | hp
                · exact HPS.out p hp
                · rw [List.mem_singleton.1 hp]; exact ⟨zua, zda⟩)
              go_wp2_with (at_builtin; refine wpList_append_own _ rfl _ _ 59 rfl (M + 1) 27 i0 (.agg #[.string ByteArray.empty, .string ByteArray.empty]) 2 32 Tryd.underlying59 hi hz0 hz1 hz2 rfl (by decide) _ _ _ rfl (hown.alloc _) ⟨wr.heap.size, 0, none⟩ 1 1 [.string ua, .string da] rfl rfl ?d1 ?d2 ?d3 ?d4 ?d5 ?_)
              case d2 => exact ⟨rfl, rfl⟩
              case d3 => unfold maxLen; omega
              case d4 => omega
              case d5 => have := DX.out.four.lt; omega
              intro v' w7 hown' hgrow _
              obtain ⟨a5, c5, rfl, D8⟩ := (DX.out.more (.cells #[.string ua, .string da] 27)).app (ua, da) hown' hgrow
              have hM7 := (((DX.out.four.later ((Below.refl _ _).alloc (Nat.le_refl _) (.cells #[.string ua, .string da] 27))).kept hgrow (fun e => by have := (World.ownsRow.lt DX.out.rc _ e).1; omega))).cells
              obtain ⟨⟨x0, x1, x2, x3⟩, y0, y1, y2, y3⟩ := hM7
              have D8 := Lib.hid D8
              have hl1 : (ps ++ [(ua, da)]).length = ps.length + 1 := by rw [List.length_append, List.length_singleton]
              have D9 : Hid (DMail w B b (P + 32 + 2 * (4 - (N - 1))) M ⟨fu, fd, ps ++ [(ua, da)], xs⟩ a5 c5 a2 c2 _) := Lib.hid (D8.out.up (by omega))
              rw [hl1] at D9
              clear hown' hgrow q0 q1 q2 q3 p0 p1 p2 p3 t0 t1 DX TX HB D8
              go_wp2
              go_roundw
              case rel => exact ⟨N - 1, ps ++ [(ua, da)], a5, c5, by go_num, by rw [hl1]; omega, by rw [hl1]; omega, HPS2, D9⟩
              case measure => simp [intOf]; omega
            · have hq1 := hq rfl
              have D9 : Hid (DMail w B b (P + 32 + 2 * (4 - (N - 1))) M ⟨fu, fd, ps, xs⟩ a1 c1 a2 c2 _) := Lib.hid (DX.out.up (by omega))
              go_wp2
              go_roundw
              case rel => exact ⟨N - 1, ps, a1, c1, by go_num, by omega, by omega, HPS, D9⟩
              case measure => simp [intOf]; omega
      · obtain rfl : N = 0 := by omega
        obtain ⟨⟨q0, q1, q2, q3⟩, p0, p1, p2, p3⟩ := DR.out.four.cells
        obtain ⟨⟨r0, r1, r2, r3⟩, s0', s1', s2', s3'⟩ := DR.out.res.cells
        have hne := DR.out.le
        have hn : M ≠ w.heap.size := by omega
        have hn' : w.heap.size ≠ M := by omega
        have NE := Lib.hid DR.out.ne
        replace q1 : World.cell? _ ⟨M, 1, none⟩ = some (.string fd) := q1
        replace q0 : World.cell? _ ⟨M, 0, none⟩ = some (.string fu) := q0
        replace q2 : World.cell? _ ⟨M, 2, none⟩ = some (.slice a1 ps.length c1) := q2
        replace q3 : World.cell? _ ⟨M, 3, none⟩ = some (.slice a2 xs.length c2) := q3
        go_wp2
        refine bodyPost_ret (v := .agg (mailV ⟨fu, fd, ps, xs⟩ a1 c1 a2 c2)) (by simp [results, Tryd.results98, go_sem, r0, r1, r2, r3]) rfl ⟨_, a1, c1, a2, c2, rfl, ?_, ⟨by show fu.size ≤ 40; omega, by show fd.size ≤ 40; omega, by show ps.length ≤ 40; omega, fun p hp => ⟨Nat.le_trans (HPS.out p hp).1 (by omega), Nat.le_trans (HPS.out p hp).2 (by omega)⟩, by show xs.length ≤ 40; omega, HS.out⟩, by show 1 ≤ ps.length; omega, by show ps.length ≤ 4; omega, by show xs.length ≤ 9; omega, ?_, ?_⟩
        · exact ⟨ownsRow_base ((((DR.out.rc.low (by omega) _).low (by omega) _).low (by omega) _).low (by omega) _) (by omega), ownsRow_base ((((DR.out.body.low (by omega) _).low (by omega) _).low (by omega) _).low (by omega) _) (by omega), NE.out⟩
        · exact (((((DR.out.rd.set hbw _).set hbw _).set hbw _).set hbw _).mono (by omega))
        · exact grow_set (grow_set (grow_set (grow_set DR.out.grown (Nat.le_refl _) _) (Nat.le_refl _) _) (Nat.le_refl _) _) (Nat.le_refl _) _
end Go.Proofs.YtcaknjdolfheaaaDoor
