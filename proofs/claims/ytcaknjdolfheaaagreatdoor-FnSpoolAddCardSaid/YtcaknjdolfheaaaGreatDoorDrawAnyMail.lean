/- Contract: a mail drawn, or one with a fault. -/
import Derived.Test.YtcaknjdolfheaaaGreatDoorDrawMail
import Derived.Test.YtcaknjdolfheaaaGreatDoorDraws
import Derived.Test.YtcaknjdolfheaaaGreatDoorMailRes
import Derived.Test.YtcaknjdolfheaaaGreatDoorMailRows
import Derived.Test.YtcaknjdolfheaaaGreatDoorMailGetS
import Derived.Deep.RegionLaw
import Derived.Deep.AppendLies
namespace Go.Proofs.YtcaknjdolfheaaaGreatDoor
open Go Go.RowKit

/-- A draw under way: the reader lies at b, older than w0; parts of the call's own. -/
structure Dw (B b P : Nat) (w0 w : World) (l : List Res) : Prop where
  st : StX (fun i => i = b) w0 w l
  rd : Rd B b P w
  lt : b < w0.heap.size
theorem Dw.start {B b P : Nat} {w : World} (h : Rd B b P w) : Dw B b P w w [] := ⟨StX.start _ w, h, h.lt.2⟩
theorem Dw.draw {B b P P' : Nat} {w0 w w' : World} {l : List Res} (h : Dw B b P w0 w l) (hr : Rd B b P' w') (hg : w.grownBy w' (some b)) : Dw B b P' w0 w' l :=
  ⟨h.st.out (Only.of_grown hg fun g e => (Option.some.inj e).symm) fun i e => by subst e; exact h.lt, hr, h.lt⟩
theorem Dw.more {B b P : Nat} {w0 w : World} {l : List Res} (h : Dw B b P w0 w l) (o : Obj) : Dw B b P w0 (w.alloc o) l := ⟨h.st.more o, h.rd.more o, h.lt⟩
theorem Dw.later {B b P : Nat} {w0 w w' : World} {l : List Res} (h : Dw B b P w0 w l) (hb : Below w.heap.size w w') : Dw B b P w0 w' l := ⟨h.st.later hb, h.rd.later hb, h.lt⟩
theorem Dw.alloc {B b P : Nat} {w0 w : World} {l : List Res} (h : Dw B b P w0 w l) (cs : Array Value) (t : TypeId) : Dw B b P w0 (w.alloc (.cells cs t)) (Res.cells w.heap.size cs.toList :: l) := ⟨h.st.alloc cs t, h.rd.more _, h.lt⟩
theorem Dw.push {B b P P' : Nat} {w0 w w' : World} {l : List Res} (h : Dw B b P w0 w l) (hr : Rd B b P' w') (hg : w.grownBy w' (some b)) (r : Res) (hp : r.P w') (hS : ∀ i, r.S i → w.heap.size ≤ i ∧ i < w'.heap.size) : Dw B b P' w0 w' (r :: l) :=
  ⟨h.st.push (h.draw hr hg).st r hp hS, hr, h.lt⟩
theorem Dw.mail {B b P P' : Nat} {w0 w w' : World} {l : List Res} (h : Dw B b P w0 w l) (hr : Rd B b P' w') (hg : w.grownBy w' (some b)) {m : MailD} {a1 : Option Addr} {c1 : Nat} {a2 : Option Addr} {c2 : Nat} (ho : MailOwn w' w.heap.size m a1 c1 a2 c2) : Dw B b P' w0 w' (Res.mail m a1 c1 a2 c2 :: l) :=
  h.push hr hg _ (mail_zero ho) (mailS_lt ho)
theorem Dw.row {B b P P' : Nat} {w0 w w' : World} {l : List Res} (h : Dw B b P w0 w l) (hr : Rd B b P' w') (hg : w.grownBy w' (some b)) {e : TypeId} {size : Nat} {v : Value} {n : Nat} {xs : List Value} (ho : w'.ownsRow w.heap.size e size v n xs) : Dw B b P' w0 w' (Res.row e size v n xs :: l) :=
  h.push hr hg _ (row_zero ho) fun i hi => World.ownsRow.lt ho i hi
theorem Dw.perm {B b P : Nat} {w0 w : World} {l l' : List Res} (h : Dw B b P w0 w l) (hp : l.Perm l') : Dw B b P w0 w l' := ⟨h.st.perm hp, h.rd, h.lt⟩
theorem Dw.st' {B b P : Nat} {w0 w w' : World} {l l' : List Res} (h : Dw B b P w0 w l) (hs : StX (fun i => i = b) w0 w' l') (hr : Rd B b P w') : Dw B b P w0 w' l' := ⟨hs, hr, h.lt⟩
theorem Dw.set {B b P : Nat} {w0 w : World} {k : Nat} {xs : List Value} {l : List Res} (h : Dw B b P w0 w (Res.cells k xs :: l)) (j : Nat) (v : Value) (hj : j < xs.length) : Dw B b P w0 (w.setCell ⟨k, j, none⟩ v) (Res.cells k (xs.set j v) :: l) :=
  ⟨h.st.set j v hj, h.rd.set (by have := (h.st.low k rfl).1; have := h.lt; omega) v, h.lt⟩
theorem Dw.app {B b P : Nat} {w0 w w' : World} {e : TypeId} {size : Nat} {v v' : Value} {n n' C : Nat} {xs xs' : List Value} {l : List Res} (h : Dw B b P w0 w (Res.row e size v n xs :: l)) (ho : w'.ownsRow C e size v' n' xs') (hg : w.grownBy w' v.ownBlock) (hat : v'.ownBlock = v.ownBlock ∨ v'.ownBlock = some w.heap.size) : Dw B b P w0 w' (Res.row e size v' n' xs' :: l) :=
  ⟨h.st.app ho hg hat, h.rd.grown hg fun k e => by have := (h.st.low k e).1; have := h.lt; omega, h.lt⟩
theorem Dw.two {B b P : Nat} {w0 w : World} {x y : Res} {l : List Res} (h : Dw B b P w0 w (x :: y :: l)) : Dw B b P w0 w (y :: x :: l) := ⟨h.st.two, h.rd, h.lt⟩
theorem Dw.three {B b P : Nat} {w0 w : World} {x y z : Res} {l : List Res} (h : Dw B b P w0 w (x :: y :: z :: l)) : Dw B b P w0 w (z :: x :: y :: l) := ⟨h.st.three, h.rd, h.lt⟩
theorem Dw.four {B b P : Nat} {w0 w : World} {x y z u : Res} {l : List Res} (h : Dw B b P w0 w (x :: y :: z :: u :: l)) : Dw B b P w0 w (u :: x :: y :: z :: l) := ⟨h.st.four, h.rd, h.lt⟩
theorem Dw.tail {B b P : Nat} {w0 w : World} {x : Res} {l : List Res} (h : Dw B b P w0 w (x :: l)) : Dw B b P w0 w l := ⟨h.st.tail, h.rd, h.lt⟩
theorem Dw.up {B b P P' : Nat} {w0 w : World} {l : List Res} (h : Dw B b P w0 w l) (hP : P ≤ P') : Dw B b P' w0 w l := ⟨h.st, h.rd.mono hP, h.lt⟩
theorem Dw.grown {B b P : Nat} {w0 w : World} {l : List Res} (h : Dw B b P w0 w l) : w0.grownBy w (some b) :=
  ⟨h.st.grown.os, h.st.grown.tape, h.st.grown.output, h.st.grown.size, fun i hi hn => h.st.grown.block i hi fun e => hn (by rw [e])⟩

theorem Dw.some {B b P : Nat} {w0 w : World} {l l' : List Res} (h : Dw B b P w0 w l) (hs : l'.Sublist l) : Dw B b P w0 w l' := ⟨h.st.some hs, h.rd, h.lt⟩

/-- What a drawn mail is: not large. -/
structure Drawn (m : MailD) : Prop where
  sz : MailSz 100 m
  rc : m.rc.length ≤ 5
  body : m.body.length ≤ 13

/-- The result's cells, filled: the mail is the call's own. -/
theorem anyFilled {B b P : Nat} {w W : World} {k : Nat} {m : MailD} {a1 : Option Addr} {c1 : Nat} {a2 : Option Addr} {c2 : Nat} {C : Res} (h : Dw B b P w W [C, Res.row 27 2 (.slice a1 m.rc.length c1) m.rc.length (pairCells m.rc), Res.row 9 1 (.slice a2 m.body.length c2) m.body.length (m.body.map Value.string), Res.cells k noMailV]) :
    let W' := (((W.setCell ⟨k, 0, none⟩ (.string m.fu)).setCell ⟨k, 1, none⟩ (.string m.fd)).setCell ⟨k, 2, none⟩ (.slice a1 m.rc.length c1)).setCell ⟨k, 3, none⟩ (.slice a2 m.body.length c2)
    MailOwn W' w.heap.size m a1 c1 a2 c2 ∧ Rd B b P W' ∧ w.grownBy W' (some b) := by
  have D := (((h.four.set 0 (.string m.fu) (by simp)).set 1 (.string m.fd) (by simp)).set 2 (.slice a1 m.rc.length c1) (by simp)).set 3 (.slice a2 m.body.length c2) (by simp)
  exact ⟨D.st.tail.tail.mailJoin, D.rd, D.grown⟩

set_option maxHeartbeats 3200000 in
set_option maxRecDepth 100000 in
theorem l20AnyMail_any (B b P : Nat) (w : World) (h : Rd B b P w) (hP : P ≤ 700000) :
    Calls Tryz.prog 57 #[.pointer (some ⟨b, 0, none⟩)] w fun e w' => ∃ m a1 c1 a2 c2, e = .returned (.agg (mailV m a1 c1 a2 c2)) ∧ MailOwn w' w.heap.size m a1 c1 a2 c2 ∧ Drawn m ∧ Rd B b (P + 110) w' ∧ w.grownBy w' (some b) := by
  obtain ⟨i0, hi, hz0, hz1, hz2⟩ := info_parts infoA
  have D0 : Seal _ := ⟨(Dw.start h).alloc #[.string { data := #[] }, .string { data := #[] }, .slice none 0 0, .slice none 0 0] 31⟩
  have C0 : Seal _ := ⟨l20Mail_any B b P _ D0.out.rd hP⟩
  clear h
  go_enter Tryz.func57, Tryz.ntmps57
  go_wp2_with fail
  refine C0.out.mono ?_
  rintro e w2 ⟨⟨u, d, ps, xs⟩, a1, c1, a2, c2, rfl, o2, hs, hr1, hr4, hb9, h2, g2⟩
  have D2 : Seal _ := ⟨D0.out.mail h2 g2 o2⟩
  have HS : Seal (MailSz 40 ⟨u, d, ps, xs⟩) := ⟨hs⟩
  have hr1' : 1 ≤ ps.length := hr1
  have hr4' : ps.length ≤ 4 := hr4
  have hb9' : xs.length ≤ 9 := hb9
  have l2 := D2.out.tail.st.head.lt
  have D3 : Seal (Dw B b (P + 60) w (w2.alloc (.cells #[.string u, .string d, .slice a1 ps.length c1, .slice a2 xs.length c2] 31)) [Res.cells w2.heap.size [.string u, .string d, .slice a1 ps.length c1, .slice a2 xs.length c2], Res.row 27 2 (.slice a1 ps.length c1) ps.length (pairCells ps), Res.row 9 1 (.slice a2 xs.length c2) xs.length (xs.map Value.string), Res.cells w.heap.size noMailV]) :=
    ⟨(⟨D2.out.st.split, D2.out.rd, D2.out.lt⟩ : Dw B b (P + 60) w w2 _).alloc #[.string u, .string d, .slice a1 ps.length c1, .slice a2 xs.length c2] 31⟩
  have hn12 : w.heap.size ≠ w2.heap.size := by omega
  have hn21 : w2.heap.size ≠ w.heap.size := by omega
  clear h2 g2 o2 hs hr1 hr4 hb9 D0 C0 D2
  go_wp2_with fail
  refine (pick_at 12 D3.out.rd rfl (by omega) (by decide) (by decide)).mono ?_
  rintro e w4 ⟨k, rfl, hk, h4, g4⟩
  have D4 : Seal _ := ⟨D3.out.draw h4 g4⟩
  obtain ⟨q0, q1, q2, q3, f0, f1, f2, f3⟩ := cells_two D4.out.st.head
  obtain ⟨r0, r1, r2, r3, g0, g1, g2, g3⟩ := cells_two D4.out.st.four.head
  clear h4 g4 D3
  have hsz : ∀ ys : List ByteArray, (∀ x ∈ ys, x.size ≤ 45) → ys.length ≤ 13 → Drawn ⟨u, d, ps, ys⟩ := fun ys h1 h2 =>
    ⟨⟨Nat.le_trans HS.out.fu (by omega), Nat.le_trans HS.out.fd (by omega), Nat.le_trans HS.out.rcl (by omega), fun p hp => ⟨Nat.le_trans (HS.out.rcs p hp).1 (by omega), Nat.le_trans (HS.out.rcs p hp).2 (by omega)⟩, Nat.le_trans h2 (by omega), fun x hx => Nat.le_trans (h1 x hx) (by omega)⟩, Nat.le_trans hr4' (by omega), h2⟩
  have HSZ : Seal _ := ⟨hsz⟩
  have HX : Seal (∀ x ∈ xs, x.size ≤ 45) := ⟨fun x hx => Nat.le_trans (HS.out.bos x hx) (by omega)⟩
  clear hsz
  by_cases h0 : k = 0
  · subst h0
    go_wp2_with fail
    refine (l20AnyBody_any B b _ _ D4.out.rd (by omega)).mono ?_
    rintro e w5 ⟨a5, c5, ys, hy1, hy2, rfl, o5, h5, g5⟩
    have D5 : Seal _ := ⟨D4.out.row h5 g5 o5⟩
    clear q0 q1 q2 q3 f0 f1 f2 f3 r0 r1 r2 r3 g0 g1 g2 g3 h5 g5 o5
    obtain ⟨q0, q1, q2, q3, f0, f1, f2, f3⟩ := cells_two D5.out.st.two.head
    obtain ⟨r0, r1, r2, r3, g0, g1, g2, g3⟩ := cells_two (D5.out.st.get (r := Res.cells w.heap.size noMailV) (by simp))
    have D6 : Seal (Dw B b (P + 60 + 1 + 40) w (w5.setCell ⟨w2.heap.size, 3, none⟩ (.slice a5 ys.length c5)) [Res.cells w2.heap.size [.string u, .string d, .slice a1 ps.length c1, .slice a5 ys.length c5], Res.row 27 2 (.slice a1 ps.length c1) ps.length (pairCells ps), Res.row 9 1 (.slice a5 ys.length c5) ys.length (ys.map Value.string), Res.cells w.heap.size noMailV]) :=
      ⟨((D5.out.two.set 3 (.slice a5 ys.length c5) (by simp)).some (l' := [_, _, _, _]) (.cons_cons _ (.cons_cons _ (.cons_cons _ (.cons _ (.cons_cons _ .slnil)))))).three.two⟩
    have E := anyFilled (m := ⟨u, d, ps, ys⟩) D6.out
    have EE : Seal _ := ⟨E⟩
    have DD : Seal _ := ⟨HSZ.out ys hy2 hy1⟩
    clear E
    go_wp2
    refine bodyPost_ret (v := .agg (mailV ⟨u, d, ps, ys⟩ a1 c1 a5 c5)) (by simp [results, Tryz.results57, go_sem, r0, r1, r2, r3]) rfl ⟨⟨u, d, ps, ys⟩, a1, c1, a5, c5, rfl, EE.out.1, DD.out, EE.out.2.1.mono (by omega), EE.out.2.2⟩
  have b0 : ((k : Int) == 0) = false := by rw [beq_eq_false_iff_ne]; omega
  by_cases h1 : k = 1
  · subst h1
    have hown : w4.ownsRow 0 27 2 (.slice a1 ps.length c1) ps.length (pairCells ps) := D4.out.st.two.head
    obtain ⟨p0, hp0⟩ : ∃ p0, ps[0]? = some p0 := ⟨_, List.getElem?_eq_getElem (by omega)⟩
    obtain ⟨gg, off, rfl, hc1, hc2⟩ := PRow.pairs (B := 0) hown 0 p0 hp0
    rw [Nat.zero_mul, Nat.add_zero] at hc1 hc2
    have hi1 : (0 : Int) < (ps.length : Int) := by omega
    have hi2 : 0 < ps.length := by omega
    have l4 := D4.out.st.head.lt
    have l4n : w2.heap.size ≠ w4.heap.size := by omega
    have HP0 : Seal (p0 ∈ ps) := ⟨List.mem_of_getElem? hp0⟩
    have hne : (Value.slice (some ⟨gg, off, none⟩) ps.length c1).ownBlock ≠ some w2.heap.size := fun e => D4.out.st.away _ rfl e
    have K4 : Seal (CellsM (w4.drew.alloc (.cells #[.string p0.1, .string p0.2] 27)) w2.heap.size [.string u, .string d, .slice (some ⟨gg, off, none⟩) ps.length c1, .slice a2 xs.length c2]) := ⟨(D4.out.st.head.later ((Below.refl _ _).drew)).more _⟩
    clear hp0
    go_wp2_with fail
    go_region_law ((refine step_append_lies _ (by rfl) _ _ _ (by rfl) 0 27 i0 _ 2 32 Tryz.underlying28 hi hz0 hz1 hz2 rfl (by omega) (.slice (some ⟨gg, off, none⟩) ps.length c1) ps.length (pairCells ps) (by rfl) (hown.drew.alloc _) ⟨w4.heap.size, 0, none⟩ 1 1 [.string p0.1, .string p0.2] (by rfl) (by rfl) (news_two w4.drew 27 p0.1 p0.2) (fun v hv => by simp at hv; rcases hv with rfl | rfl <;> rfl) (by omega) (by unfold maxLen; omega) (by omega) (Nat.zero_le _) (w4.heap.size + 1) (by simp) ?_; intro g5 c5 w7 hown7 hgrow hat hlt; have KX := K4.out.kept hgrow hne; have x2 := KX.c 2 _ rfl; have y2 := KX.f 2 (by simp); clear KX))
    all_goals
      have DB := (D4.out.more (.cells #[.string p0.1, .string p0.2] 27)).later (Below.refl _ _).drew
      have D7 := DB.two.app hown7 hgrow (by
        rcases hat with e | e
        · exact .inl e.symm
        · exact .inr (by rw [e]; simp [Value.ownBlock]))
      have D8 : Seal (Dw B b (P + 60 + 1) w (w7.setCell ⟨w2.heap.size, 2, none⟩ (.slice (some ⟨g5, 0, none⟩) (ps.length + 1) c5)) [Res.cells w2.heap.size [.string u, .string d, .slice (some ⟨g5, 0, none⟩) (ps ++ [p0]).length c5, .slice a2 xs.length c2], Res.row 27 2 (.slice (some ⟨g5, 0, none⟩) (ps ++ [p0]).length c5) (ps ++ [p0]).length (pairCells (ps ++ [p0])), Res.row 9 1 (.slice a2 xs.length c2) xs.length (xs.map Value.string), Res.cells w.heap.size noMailV]) := ⟨by
        rw [List.length_append, pairs_snoc]
        exact D7.two.set 2 (.slice (some ⟨g5, 0, none⟩) (ps.length + 1) c5) (by simp)⟩
      have E := anyFilled (m := ⟨u, d, ps ++ [p0], xs⟩) D8.out
      have EE : Seal _ := ⟨E⟩
      have hl1 : (ps ++ [p0]).length = ps.length + 1 := by simp
      rw [hl1] at EE
      have DD : Seal (Drawn ⟨u, d, ps ++ [p0], xs⟩) := ⟨⟨⟨Nat.le_trans HS.out.fu (by omega), Nat.le_trans HS.out.fd (by omega), by rw [hl1]; omega, fun p hp => (by
          rcases List.mem_append.1 hp with hp | hp
          · exact ⟨Nat.le_trans (HS.out.rcs p hp).1 (by omega), Nat.le_trans (HS.out.rcs p hp).2 (by omega)⟩
          · rw [List.mem_singleton.1 hp]; exact ⟨Nat.le_trans (HS.out.rcs p0 HP0.out).1 (by omega), Nat.le_trans (HS.out.rcs p0 HP0.out).2 (by omega)⟩), Nat.le_trans hb9' (by omega), fun x hx => Nat.le_trans (HX.out x hx) (by omega)⟩, by rw [hl1]; omega, Nat.le_trans hb9' (by omega)⟩⟩
      clear r0 r1 r2 r3 g0 g1 g2 g3 q0 q1 q2 q3 f0 f1 f2 f3 x2 y2 hc1 hc2 hown
      obtain ⟨x0, x1, x2, x3, y0, y1, y2, y3⟩ := cells_two D7.two.st.head
      obtain ⟨r0, r1, r2, r3, g0, g1, g2, g3⟩ := cells_two D7.four.st.head
      clear E DB D7 hown7 hgrow hat hlt hl1 D8
      go_wp2
      refine bodyPost_ret (v := .agg (mailV ⟨u, d, ps ++ [p0], xs⟩ (some ⟨g5, 0, none⟩) c5 a2 c2)) (by simp [results, Tryz.results57, go_sem, r0, r1, r2, r3]) rfl ⟨⟨u, d, ps ++ [p0], xs⟩, some ⟨g5, 0, none⟩, c5, a2, c2, rfl, EE.out.1, DD.out, EE.out.2.1.mono (by omega), EE.out.2.2⟩
  have b1 : ((k : Int) == 1) = false := by rw [beq_eq_false_iff_ne]; omega
  by_cases h2 : k = 2
  · subst h2
    have D6 : Seal (Dw B b (P + 60 + 1) w (w4.setCell ⟨w2.heap.size, 2, none⟩ (.slice none 0 0)) [Res.cells w2.heap.size [.string u, .string d, .slice none 0 0, .slice a2 xs.length c2], Res.row 27 2 (.slice none ([] : List Pair).length 0) ([] : List Pair).length (pairCells []), Res.row 9 1 (.slice a2 xs.length c2) xs.length (xs.map Value.string), Res.cells w.heap.size noMailV]) := ⟨by
      have D5 := (D4.out.set 2 (.slice none 0 0) (by simp)).some (l' := [_, _, _]) (.cons_cons _ (.cons _ (.cons_cons _ (.cons_cons _ .slnil))))
      exact (⟨D5.st.nothing 27 2, D5.rd, D5.lt⟩ : Dw B b (P + 60 + 1) w _ _).two⟩
    have E := anyFilled (m := ⟨u, d, [], xs⟩) D6.out
    have EE : Seal _ := ⟨E⟩
    have DD : Seal (Drawn ⟨u, d, [], xs⟩) := ⟨⟨⟨Nat.le_trans HS.out.fu (by omega), Nat.le_trans HS.out.fd (by omega), by simp, fun p hp => (List.not_mem_nil hp).elim, Nat.le_trans hb9' (by omega), fun x hx => Nat.le_trans (HX.out x hx) (by omega)⟩, by simp, Nat.le_trans hb9' (by omega)⟩⟩
    clear E
    go_wp2
    refine bodyPost_ret (v := .agg (mailV ⟨u, d, [], xs⟩ none 0 a2 c2)) (by simp [results, Tryz.results57, go_sem, r0, r1, r2, r3]) rfl ⟨⟨u, d, [], xs⟩, none, 0, a2, c2, rfl, EE.out.1, DD.out, EE.out.2.1.mono (by omega), EE.out.2.2⟩
  have b2 : ((k : Int) == 2) = false := by rw [beq_eq_false_iff_ne]; omega
  by_cases h3 : k = 3
  · subst h3
    go_wp2_with fail
    refine (l20AnyAddr_any B b _ _ D4.out.rd (by omega)).mono ?_
    rintro e w5 ⟨u5, d5, hu5, hd5, rfl, h5, g5⟩
    have D5 : Seal _ := ⟨D4.out.draw h5 g5⟩
    clear q0 q1 q2 q3 f0 f1 f2 f3 r0 r1 r2 r3 g0 g1 g2 g3 h5 g5
    obtain ⟨q0, q1, q2, q3, f0, f1, f2, f3⟩ := cells_two D5.out.st.head
    obtain ⟨r0, r1, r2, r3, g0, g1, g2, g3⟩ := cells_two D5.out.st.four.head
    have D6 : Seal _ := ⟨(D5.out.set 0 (.string u5) (by simp)).set 1 (.string d5) (by simp)⟩
    have E := anyFilled (m := ⟨u5, d5, ps, xs⟩) D6.out
    have EE : Seal _ := ⟨E⟩
    have DD : Seal (Drawn ⟨u5, d5, ps, xs⟩) := ⟨⟨⟨Nat.le_trans hu5 (by omega), Nat.le_trans hd5 (by omega), Nat.le_trans hr4' (by omega), fun p hp => ⟨Nat.le_trans (HS.out.rcs p hp).1 (by omega), Nat.le_trans (HS.out.rcs p hp).2 (by omega)⟩, Nat.le_trans hb9' (by omega), fun x hx => Nat.le_trans (HX.out x hx) (by omega)⟩, Nat.le_trans hr4' (by omega), Nat.le_trans hb9' (by omega)⟩⟩
    clear E
    go_wp2
    refine bodyPost_ret (v := .agg (mailV ⟨u5, d5, ps, xs⟩ a1 c1 a2 c2)) (by simp [results, Tryz.results57, go_sem, r0, r1, r2, r3]) rfl ⟨⟨u5, d5, ps, xs⟩, a1, c1, a2, c2, rfl, EE.out.1, DD.out, EE.out.2.1.mono (by omega), EE.out.2.2⟩
  have b3 : ((k : Int) == 3) = false := by rw [beq_eq_false_iff_ne]; omega
  have E := anyFilled (m := ⟨u, d, ps, xs⟩) D4.out
  have EE : Seal _ := ⟨E⟩
  have DD : Seal _ := ⟨HSZ.out xs HX.out (Nat.le_trans hb9' (by omega))⟩
  clear E
  go_wp2
  refine bodyPost_ret (v := .agg (mailV ⟨u, d, ps, xs⟩ a1 c1 a2 c2)) (by simp [results, Tryz.results57, go_sem, r0, r1, r2, r3]) rfl ⟨⟨u, d, ps, xs⟩, a1, c1, a2, c2, rfl, EE.out.1, DD.out, EE.out.2.1.mono (by omega), EE.out.2.2⟩
end Go.Proofs.YtcaknjdolfheaaaGreatDoor
