/- Contracts: hosts that are ok or not; a host and an address drawn. -/
import Derived.Test.YtfffocfcnigogaaDoorDrawConf
import Derived.Test.YtfffocfcnigogaaDoorHopPut
namespace Go.Proofs.YtfffocfcnigogaaDoor
open Go Go.RowKit

theorem news_pairs {w : World} {ad : Addr} {ps : List Pair} (hr : PairRow w (some ad) ps) : ∀ j u, (pairCells ps)[j]? = some u → w.cell? (ad.add j) = some u := by
  intro j u hj
  have hlen : j < ps.length * 2 := by
    have := (List.getElem?_eq_some_iff.1 hj).1
    rwa [pairCells_length] at this
  obtain ⟨p, hp⟩ : ∃ p, ps[j / 2]? = some p := ⟨_, List.getElem?_eq_getElem (by omega)⟩
  obtain ⟨b, off, e, h1, h2⟩ := hr (j / 2) p hp
  injection e with e
  subst e
  obtain ⟨g1, g2⟩ := pairCells_get hp
  have hadd : (⟨b, off, none⟩ : Addr).add j = ⟨b, off + j, none⟩ := by
    by_cases h0 : j = 0
    · subst h0; simp [Addr.add]
    · simp [Addr.add, h0]
  rw [hadd]
  rcases (show j = j / 2 * 2 ∨ j = j / 2 * 2 + 1 by omega) with h | h
  · rw [← h] at g1 h1
    rw [g1] at hj
    rw [h1, Option.some.inj hj]
  · rw [← h] at g2
    rw [g2] at hj
    rw [show off + j = off + j / 2 * 2 + 1 by omega, h2, Option.some.inj hj]
theorem pairs_one (ps : List Pair) : ∀ u ∈ pairCells ps, u.oneCell' = true := by
  intro u hu
  unfold pairCells at hu
  obtain ⟨p, _, hp⟩ := List.mem_flatMap.1 hu
  simp at hp
  rcases hp with rfl | rfl <;> rfl

def anyN : List ByteArray := [{ data := #[] }, ⟨#[65]⟩, ⟨#[97, 46, 46, 98]⟩]
def anyE : List ByteArray := [{ data := #[] }, ⟨#[98, 46, 111, 114, 103]⟩, ⟨#[111, 110, 101, 46, 111, 114, 103]⟩]

/-- A host in its box, ahead of what is bent. -/
structure DC (w : World) (B b P M : Nat) (c : ConfD) (g1 c1 g2 c2 : Nat) (W : World) : Prop where
  res : CellsM W w.heap.size [.string { data := #[] }, .slice none 0 0, .slice none 0 0]
  box : CellsM W M [.string c.name, .slice (some ⟨g1, 0, none⟩) c.own.length c1, .slice (some ⟨g2, 0, none⟩) c.ways.length c2]
  own : CfOwn W (w.heap.size + 1) c g1 c1 g2 c2
  low : g1 < M ∧ g2 < M
  rd : Rd B b P W
  grown : w.grownBy W (some b)
  lt : b < w.heap.size
  le : w.heap.size < M
theorem DC.step {w : World} {B b P P' M : Nat} {c : ConfD} {g1 c1 g2 c2 : Nat} {W W' : World} (h : DC w B b P M c g1 c1 g2 c2 W) (hg : W.grownBy W' (some b)) (hr : Rd B b P' W') : DC w B b P' M c g1 c1 g2 c2 W' :=
  have h1 := h.lt
  have h2 := h.le
  ⟨h.res.kept hg (fun e => by have := Option.some.inj e; omega), h.box.kept hg (fun e => by have := Option.some.inj e; omega), h.own.keep hg (by omega), h.low, hr, h.grown.trans hg, h1, h2⟩
theorem DC.more {w : World} {B b P M : Nat} {c : ConfD} {g1 c1 g2 c2 : Nat} {W : World} (h : DC w B b P M c g1 c1 g2 c2 W) (o : Obj) : DC w B b P M c g1 c1 g2 c2 (W.alloc o) :=
  h.step (grow_below ((Below.refl _ _).alloc (Nat.le_refl _) o)) (h.rd.later ((Below.refl _ _).alloc (Nat.le_refl _) o))
theorem DC.later {w : World} {B b P M : Nat} {c : ConfD} {g1 c1 g2 c2 : Nat} {W W' : World} (h : DC w B b P M c g1 c1 g2 c2 W) (hb : Below W.heap.size W W') : DC w B b P M c g1 c1 g2 c2 W' := h.step (grow_below hb) (h.rd.later hb)
theorem confSz_up {c : ConfD} (h : ConfSz 20 c) : ConfSz 40 c := ⟨Nat.le_trans h.nm (by omega), Nat.le_trans h.owl (by omega), fun x hx => Nat.le_trans (h.ows x hx) (by omega), Nat.le_trans h.wal (by omega), fun p hp => ⟨Nat.le_trans (h.was p hp).1 (by omega), Nat.le_trans (h.was p hp).2 (by omega)⟩⟩
/-- With another value in the box, and rows of the call's own. -/
theorem DC.set {w : World} {B b P M : Nat} {c c' : ConfD} {g1 c1 g2 c2 h1 d1 h2 d2 : Nat} {W : World} (h : DC w B b P M c g1 c1 g2 c2 W) (j : Nat) (v : Value) (hj : j < 3)
    (hbox : ([.string c.name, .slice (some ⟨g1, 0, none⟩) c.own.length c1, .slice (some ⟨g2, 0, none⟩) c.ways.length c2] : List Value).set j v = [.string c'.name, .slice (some ⟨h1, 0, none⟩) c'.own.length d1, .slice (some ⟨h2, 0, none⟩) c'.ways.length d2])
    (ho : CfOwn W (w.heap.size + 1) c' h1 d1 h2 d2) (n1 : h1 ≠ M) (n2 : h2 ≠ M) :
    CellsM (W.setCell ⟨M, j, none⟩ v) w.heap.size [.string { data := #[] }, .slice none 0 0, .slice none 0 0] ∧ CellsM (W.setCell ⟨M, j, none⟩ v) M [.string c'.name, .slice (some ⟨h1, 0, none⟩) c'.own.length d1, .slice (some ⟨h2, 0, none⟩) c'.ways.length d2] ∧ CfOwn (W.setCell ⟨M, j, none⟩ v) (w.heap.size + 1) c' h1 d1 h2 d2 ∧ Rd B b P (W.setCell ⟨M, j, none⟩ v) ∧ w.grownBy (W.setCell ⟨M, j, none⟩ v) (some b) :=
  have e1 := h.le
  have e2 := h.lt
  ⟨h.res.far v (by omega), hbox ▸ h.box.set j v hj, ⟨own_far ho.own v (ne_own n1), own_far ho.ways v (ne_own n2)⟩, h.rd.set (by omega) v, grow_set h.grown (by omega) v⟩
theorem fin3 {w : World} {B b P : Nat} {c : ConfD} {g1 c1 g2 c2 : Nat} {W : World} (ho : CfOwn W (w.heap.size + 1) c g1 c1 g2 c2) (hr : Rd B b P W) (hg : w.grownBy W (some b)) (hb : b < w.heap.size) (u v x : Value) :
    CfOwn (((W.setCell ⟨w.heap.size, 0, none⟩ u).setCell ⟨w.heap.size, 1, none⟩ v).setCell ⟨w.heap.size, 2, none⟩ x) w.heap.size c g1 c1 g2 c2 ∧ Rd B b P (((W.setCell ⟨w.heap.size, 0, none⟩ u).setCell ⟨w.heap.size, 1, none⟩ v).setCell ⟨w.heap.size, 2, none⟩ x) ∧ w.grownBy (((W.setCell ⟨w.heap.size, 0, none⟩ u).setCell ⟨w.heap.size, 1, none⟩ v).setCell ⟨w.heap.size, 2, none⟩ x) (some b) :=
  ⟨⟨ownsRow_base (((ho.own.low (by omega) _).low (by omega) _).low (by omega) _) (by omega), ownsRow_base (((ho.ways.low (by omega) _).low (by omega) _).low (by omega) _) (by omega)⟩, ((hr.set hb _).set hb _).set hb _, grow_set (grow_set (grow_set hg (Nat.le_refl _) _) (Nat.le_refl _) _) (Nat.le_refl _) _⟩
theorem DC.fin {w : World} {B b P M : Nat} {c : ConfD} {g1 c1 g2 c2 : Nat} {W : World} (h : DC w B b P M c g1 c1 g2 c2 W) (u v x : Value) :
    CfOwn (((W.setCell ⟨w.heap.size, 0, none⟩ u).setCell ⟨w.heap.size, 1, none⟩ v).setCell ⟨w.heap.size, 2, none⟩ x) w.heap.size c g1 c1 g2 c2 ∧ Rd B b P (((W.setCell ⟨w.heap.size, 0, none⟩ u).setCell ⟨w.heap.size, 1, none⟩ v).setCell ⟨w.heap.size, 2, none⟩ x) ∧ w.grownBy (((W.setCell ⟨w.heap.size, 0, none⟩ u).setCell ⟨w.heap.size, 1, none⟩ v).setCell ⟨w.heap.size, 2, none⟩ x) (some b) :=
  ⟨⟨ownsRow_base (((h.own.own.low (by omega) _).low (by omega) _).low (by omega) _) (by omega), ownsRow_base (((h.own.ways.low (by omega) _).low (by omega) _).low (by omega) _) (by omega)⟩, ((h.rd.set h.lt _).set h.lt _).set h.lt _, grow_set (grow_set (grow_set h.grown (Nat.le_refl _) _) (Nat.le_refl _) _) (Nat.le_refl _) _⟩

set_option maxHeartbeats 4000000 in
set_option maxRecDepth 100000 in
theorem l20AnyConf_any (B b P : Nat) (w : World) (h : Rd B b P w) (hP : P ≤ 600000) :
    Calls Tryd.prog 57 #[.pointer (some ⟨b, 0, none⟩)] w fun e w' => ∃ c g1 c1 g2 c2, e = .returned (.agg (confV c (some ⟨g1, 0, none⟩) c1 (some ⟨g2, 0, none⟩) c2)) ∧ CfOwn w' w.heap.size c g1 c1 g2 c2 ∧ ConfSz 40 c ∧ Rd B b (P + 4) w' ∧ w.grownBy w' (some b) := by
  obtain ⟨i0, hi, hz0, hz1, hz2⟩ := info_parts infoS
  obtain ⟨j0, hj, hy0, hy1, hy2⟩ := info_parts infoWay2
  have HP := Lib.hid hP
  have H := Lib.hid h
  have hbw := h.lt.2
  clear hP h
  go_enter Tryd.func57, Tryd.ntmps57
  go_wp2_with fail
  refine (l20Conf_any B b P _ (H.out.more _) (by have := HP.out; omega)).mono ?_
  rintro e w1 ⟨c, g1, c1, g2, c2, rfl, hown, hsz, hr, hg⟩
  have hs1 := hg.size
  simp only [World.size_alloc] at hs1 hown
  have hlo1 := (hown.own.lt (k := g1) rfl)
  have hlo2 := (hown.ways.lt (k := g2) rfl)
  have D1 : Hid (DC w B b (P + 2) w1.heap.size c g1 c1 g2 c2 (w1.alloc (.cells #[.string c.name, .slice (some ⟨g1, 0, none⟩) c.own.length c1, .slice (some ⟨g2, 0, none⟩) c.ways.length c2] 53))) := Lib.hid
    ⟨((CellsM.new w #[.string { data := #[] }, .slice none 0 0, .slice none 0 0] 53).kept hg (fun e => by have := Option.some.inj e; omega)).more _, CellsM.new w1 _ _, hown.later ((Below.refl _ _).alloc (Nat.le_refl _) _), ⟨hlo1.2, hlo2.2⟩, hr.more _, grow_more (grow_alloc hg) _, hbw, by omega⟩
  have HZ := Lib.hid hsz
  clear hown hsz hr hg H
  go_wp2_with fail
  refine (pick_at1 10 D1.out.rd (by simp) (by have := HP.out; omega) (by omega) (by omega)).mono ?_
  rintro e w2 ⟨k, rfl, hk, h2, g2'⟩
  have D2 := Lib.hid (D1.out.step g2' h2)
  have hs2 := g2'.size
  simp only [World.size_alloc] at hs2
  clear h2 g2' D1
  generalize w1.heap.size = M at *
  have q0 := D2.out.box.c 0 _ rfl
  have q1 := D2.out.box.c 1 _ rfl
  have q2 := D2.out.box.c 2 _ rfl
  have f0 := D2.out.box.f 0 (by simp)
  have f1 := D2.out.box.f 1 (by simp)
  have f2 := D2.out.box.f 2 (by simp)
  have r0 := D2.out.res.c 0 _ rfl
  have r1 := D2.out.res.c 1 _ rfl
  have r2 := D2.out.res.c 2 _ rfl
  have s0 := D2.out.res.f 0 (by simp)
  have s1 := D2.out.res.f 1 (by simp)
  have s2 := D2.out.res.f 2 (by simp)
  have hMw : w.heap.size ≠ M := by omega
  have hMw' : M ≠ w.heap.size := by omega
  have hMs := D2.out.box.lt
  rcases (show k = 0 ∨ k = 1 ∨ k = 2 ∨ 2 < k by omega) with rfl | rfl | rfl | hk3
  · go_wp2_with fail
    refine (of_lit B b _ 3 _ anyN _ D2.out.rd (by have := HP.out; omega) rfl rfl (by decide) (by decide)).mono ?_
    rintro e w3 ⟨x, hx, rfl, h3, g3⟩
    have zx : x.size ≤ 20 := small_of (by decide) hx
    have D3 := Lib.hid (D2.out.step g3 h3)
    clear hx h3 g3 q0 q1 q2 f0 f1 f2 r0 r1 r2 s0 s1 s2
    have q0 := D3.out.box.c 0 _ rfl
    have q1 := D3.out.box.c 1 _ rfl
    have q2 := D3.out.box.c 2 _ rfl
    have f0 := D3.out.box.f 0 (by simp)
    have r0 := D3.out.res.c 0 _ rfl
    have r1 := D3.out.res.c 1 _ rfl
    have r2 := D3.out.res.c 2 _ rfl
    have s0 := D3.out.res.f 0 (by simp)
    have s1 := D3.out.res.f 1 (by simp)
    have s2 := D3.out.res.f 2 (by simp)
    have hMs3 := D3.out.box.lt
    go_wp2
    obtain ⟨_, _, S3, S4, S5⟩ := D3.out.set (c' := ⟨x, c.own, c.ways⟩) 0 (.string x) (by omega) rfl ⟨D3.out.own.own, D3.out.own.ways⟩ (by have := D3.out.low; omega) (by have := D3.out.low; omega)
    obtain ⟨F1, F2, F3⟩ := fin3 S3 S4 S5 hbw (.string x) (.slice (some ⟨g1, 0, none⟩) c.own.length c1) (.slice (some ⟨g2, 0, none⟩) c.ways.length c2)
    have Z := confSz_up HZ.out
    exact bodyPost_ret (v := .agg (confV ⟨x, c.own, c.ways⟩ (some ⟨g1, 0, none⟩) c1 (some ⟨g2, 0, none⟩) c2)) (by simp [results, Tryd.results57, go_sem, r0, r1, r2]) rfl ⟨⟨x, c.own, c.ways⟩, g1, c1, g2, c2, rfl, F1, ⟨by show x.size ≤ 40; omega, Z.owl, Z.ows, Z.wal, Z.was⟩, F2.mono (by omega), F3⟩
  · have OW0 := Lib.hid (World.ownsRow_made (e := 9) (size := 1) w2 #[] 0 (Nat.le_refl _) (by unfold maxLen; omega) rfl : (w2.alloc (.cells #[] 9)).ownsRow w2.heap.size 9 1 (.slice (some ⟨w2.heap.size, 0, none⟩) 0 0) 0 [])
    have zo := HZ.out.owl
    go_wp2_with (at_builtin; refine wpList_append_own _ rfl _ _ 40 rfl w2.heap.size 9 i0 (.string ByteArray.empty) 1 16 Tryd.underlying40 hi hz0 hz1 hz2 rfl (by decide) _ 0 [] rfl OW0.out ⟨g1, 0, none⟩ c.own.length c1 (c.own.map Value.string) rfl (by simp) ?c1 ?c2 ?c3 ?c4 ?c5 ?_)
    case c1 => exact news_row (D2.out.more _).own.own.strs
    case c2 => exact strs_one _
    case c3 => unfold maxLen; omega
    case c4 => omega
    case c5 => simp
    intro v1 w3 hown1 hgrow1 _
    have b3 : Below w2.heap.size w2 w3 := ((Below.refl w2.heap.size w2).alloc (Nat.le_refl _) _).grown hgrow1 (by simp) (fun k e => by have : w2.heap.size = k := Option.some.inj e; omega)
    have hsz3 := b3.size
    obtain ⟨va, vc, rfl⟩ := shape_own hown1
    have D3 := Lib.hid (D2.out.later b3)
    have O3 := Lib.hid hown1
    have B3 := Lib.hid b3
    clear hown1 hgrow1 b3
    go_wp2_with (at_builtin; refine wpList_append_own _ rfl _ _ 40 rfl w2.heap.size 9 i0 (.string ByteArray.empty) 1 16 Tryd.underlying40 hi hz0 hz1 hz2 rfl (by decide) _ _ _ rfl (O3.out.alloc _) ⟨w3.heap.size, 0, none⟩ 2 2 [.string ⟨#[98, 46, 111, 114, 103]⟩, .string ⟨#[99, 46, 111, 114, 103]⟩] rfl rfl ?d1 ?d2 ?d3 ?d4 ?d5 ?_)
    case d1 => exact two_news _ _ _ _
    case d2 => intro u hu; simp at hu; rcases hu with rfl | rfl <;> rfl
    case d3 => unfold maxLen; omega
    case d4 => omega
    case d5 => simp; omega
    intro v2 w4 hown2 hgrow2 _
    have b4 : Below w2.heap.size w2 w4 := (B3.out.alloc (by omega) _).grown hgrow2 (by simp; omega) (fun k e => (O3.out.lt k e).1)
    have D4 := D2.out.later b4
    rcases hown2.2 with ⟨_, h0⟩ | ⟨g, cp, cur, rfl, hgb, _⟩
    · omega
    have hcl : (c.own ++ [(⟨#[98, 46, 111, 114, 103]⟩ : ByteArray), ⟨#[99, 46, 111, 114, 103]⟩]).length = c.own.length + 2 := by rw [List.length_append]; simp
    have hnew : Row w4 (w.heap.size + 1) (some ⟨g, 0, none⟩) cp (c.own ++ [(⟨#[98, 46, 111, 114, 103]⟩ : ByteArray), ⟨#[99, 46, 111, 114, 103]⟩]) := by
      unfold Row
      rw [hcl, List.map_append]
      exact ownsRow_base hown2 (by omega)
    clear q0 q1 q2 f0 f2 r0 r1 r2 s0 s1 s2
    have q0 := D4.box.c 0 _ rfl
    have q1 := D4.box.c 1 _ rfl
    have q2 := D4.box.c 2 _ rfl
    have r0 := D4.res.c 0 _ rfl
    have s0 := D4.res.f 0 (by simp)
    have r1 := D4.res.c 1 _ rfl
    have s1 := D4.res.f 1 (by simp)
    have r2 := D4.res.c 2 _ rfl
    have s2 := D4.res.f 2 (by simp)
    have f1 := D4.box.f 1 (by simp)
    have hMs4 := D4.box.lt
    obtain ⟨_, _, S3, S4, S5⟩ := D4.set (c' := ⟨c.name, c.own ++ [(⟨#[98, 46, 111, 114, 103]⟩ : ByteArray), ⟨#[99, 46, 111, 114, 103]⟩], c.ways⟩) (h1 := g) (d1 := cp) (h2 := g2) (d2 := c2) 1 (.slice (some ⟨g, 0, none⟩) (c.own.length + 2) cp) (by omega) (by rw [← hcl]; rfl) ⟨hnew, D4.own.ways⟩ (by omega) (by have := D4.low; omega)
    have Z := confSz_up HZ.out
    have F := Lib.hid (fin3 S3 S4 S5 hbw (.string c.name) (.slice (some ⟨g, 0, none⟩) (c.own.length + 2) cp) (.slice (some ⟨g2, 0, none⟩) c.ways.length c2))
    clear S3 S4 S5 hnew hown2 hgrow2 D4 b4 O3 OW0 D3
    go_wp2
    refine bodyPost_ret (v := .agg (confV ⟨c.name, c.own ++ [(⟨#[98, 46, 111, 114, 103]⟩ : ByteArray), ⟨#[99, 46, 111, 114, 103]⟩], c.ways⟩ (some ⟨g, 0, none⟩) cp (some ⟨g2, 0, none⟩) c2)) (by simp [results, Tryd.results57, go_sem, r0, r1, r2]) rfl ⟨_, g, cp, g2, c2, rfl, ?_, ⟨Z.nm, ?_, ?_, Z.wal, Z.was⟩, ?_, ?_⟩
    · simpa using F.out.1
    · show (c.own ++ _).length ≤ 40
      rw [hcl]; omega
    · intro x hx
      rcases List.mem_append.1 hx with hx | hx
      · exact Z.ows x hx
      · simp at hx; rcases hx with rfl | rfl <;> decide
    · exact F.out.2.1.mono (by omega)
    · simpa using F.out.2.2
  · have OW0 := Lib.hid (World.ownsRow_made (e := 114) (size := 2) w2 #[] 0 (Nat.le_refl _) (by unfold maxLen; omega) rfl : (w2.alloc (.cells #[] 114)).ownsRow w2.heap.size 114 2 (.slice (some ⟨w2.heap.size, 0, none⟩) 0 0) 0 [])
    have zo := HZ.out.wal
    go_wp2_with (at_builtin; refine wpList_append_own _ rfl _ _ 51 rfl w2.heap.size 114 j0 (.agg #[.string ByteArray.empty, .string ByteArray.empty]) 2 32 Tryd.underlying51 hj hy0 hy1 hy2 rfl (by decide) _ 0 [] rfl OW0.out ⟨g2, 0, none⟩ c.ways.length c2 (pairCells c.ways) rfl (pairCells_length _) ?k1 ?k2 ?k3 ?k4 ?k5 ?_)
    case k1 => exact news_pairs (D2.out.more _).own.ways.pairs
    case k2 => exact pairs_one _
    case k3 => unfold maxLen; omega
    case k4 => omega
    case k5 => simp
    intro v1 w3 hown1 hgrow1 _
    have b3 : Below w2.heap.size w2 w3 := ((Below.refl w2.heap.size w2).alloc (Nat.le_refl _) _).grown hgrow1 (by simp) (fun k e => by have : w2.heap.size = k := Option.some.inj e; omega)
    have hsz3 := b3.size
    obtain ⟨va, vc, rfl⟩ := shape_own hown1
    have D3 := Lib.hid (D2.out.later b3)
    have O3 := Lib.hid hown1
    clear hown1 hgrow1 b3
    go_wp2_with fail
    refine (of_lit B b _ 3 _ anyE _ D3.out.rd (by have := HP.out; omega) rfl rfl (by decide) (by decide)).mono ?_
    rintro e w4 ⟨x, hx, rfl, h4, g4⟩
    have zx : x.size ≤ 20 := small_of (by decide) hx
    have hsz4 := g4.size
    have D4 := Lib.hid (D3.out.step g4 h4)
    have O4 := Lib.hid (own_keep O3.out g4 (by omega))
    clear hx h4 g4
    go_wp2_with (at_builtin; refine wpList_append_own _ rfl _ _ 51 rfl w2.heap.size 114 j0 (.agg #[.string ByteArray.empty, .string ByteArray.empty]) 2 32 Tryd.underlying51 hj hy0 hy1 hy2 rfl (by decide) _ _ _ rfl (O4.out.alloc _) ⟨w4.heap.size, 0, none⟩ 1 1 [.string x, .string ⟨#[116, 119, 111, 46, 111, 114, 103]⟩] rfl rfl ?m1 ?m2 ?m3 ?m4 ?m5 ?_)
    case m1 => exact two_news _ _ _ _
    case m2 => intro u hu; simp at hu; rcases hu with rfl | rfl <;> rfl
    case m3 => unfold maxLen; omega
    case m4 => omega
    case m5 => simp; omega
    intro v2 w5 hown2 hgrow2 _
    have b5 : Below w2.heap.size w4 w5 := ((Below.refl _ w4).alloc (by omega) _).grown hgrow2 (by simp; omega) (fun k e => (O4.out.lt k e).1)
    have hg5 : w4.grownBy w5 (Value.slice va (c.ways.length) vc).ownBlock := ⟨hgrow2.os, hgrow2.tape, hgrow2.output, Nat.le_trans (by simp) hgrow2.size, fun k hk hne => (hgrow2.block k (by simp; omega) hne).trans (heap_alloc_old w4 _ hk)⟩
    have hblk : ∀ k, (Value.slice va (c.ways.length) vc).ownBlock = some k → w2.heap.size ≤ k := fun k e => (O4.out.lt k e).1
    have hlowM := D4.out.low
    have hleM := D4.out.le
    have D5 : DC w B b _ M c g1 c1 g2 c2 w5 := ⟨D4.out.res.kept hg5 (fun e => by have := hblk _ e; omega), D4.out.box.kept hg5 (fun e => by have := hblk _ e; omega), ⟨own_keep2 D4.out.own.own hg5 (fun e => by have := hblk g1 e.symm; omega), own_keep2 D4.out.own.ways hg5 (fun e => by have := hblk g2 e.symm; omega)⟩, hlowM, D4.out.rd.grown hg5 (fun k e => by have := hblk k e; omega), grow_own D4.out.grown hg5 (fun k e => by have := hblk k e; omega), hbw, hleM⟩
    rcases hown2.2 with ⟨_, h0⟩ | ⟨g, cp, cur, rfl, hgb, _⟩
    · omega
    have hcl : (c.ways ++ [(x, (⟨#[116, 119, 111, 46, 111, 114, 103]⟩ : ByteArray))]).length = c.ways.length + 1 := by rw [List.length_append]; simp
    have hnew : PRow w5 (w.heap.size + 1) 114 (some ⟨g, 0, none⟩) cp (c.ways ++ [(x, (⟨#[116, 119, 111, 46, 111, 114, 103]⟩ : ByteArray))]) := by
      unfold PRow
      rw [hcl, pairCells_snoc]
      exact ownsRow_base hown2 (by omega)
    clear q0 q1 q2 f0 f1 f2 r0 r1 r2 s0 s1 s2
    have q0 := D5.box.c 0 _ rfl
    have q1 := D5.box.c 1 _ rfl
    have q2 := D5.box.c 2 _ rfl
    have r0 := D5.res.c 0 _ rfl
    have s0 := D5.res.f 0 (by simp)
    have r1 := D5.res.c 1 _ rfl
    have s1 := D5.res.f 1 (by simp)
    have r2 := D5.res.c 2 _ rfl
    have s2 := D5.res.f 2 (by simp)
    have f2 := D5.box.f 2 (by simp)
    have hMs5 := D5.box.lt
    obtain ⟨_, _, S3, S4, S5⟩ := D5.set (c' := ⟨c.name, c.own, c.ways ++ [(x, (⟨#[116, 119, 111, 46, 111, 114, 103]⟩ : ByteArray))]⟩) (h1 := g1) (d1 := c1) (h2 := g) (d2 := cp) 2 (.slice (some ⟨g, 0, none⟩) (c.ways.length + 1) cp) (by omega) (by rw [← hcl]; rfl) ⟨D5.own.own, hnew⟩ (by have := D5.low; omega) (by omega)
    have Z := confSz_up HZ.out
    have F := Lib.hid (fin3 S3 S4 S5 hbw (.string c.name) (.slice (some ⟨g1, 0, none⟩) c.own.length c1) (.slice (some ⟨g, 0, none⟩) (c.ways.length + 1) cp))
    clear S3 S4 S5 hnew hown2 hgrow2 D5 b5 O3 OW0 D3 O4 D4 hg5 hblk
    go_wp2
    refine bodyPost_ret (v := .agg (confV ⟨c.name, c.own, c.ways ++ [(x, (⟨#[116, 119, 111, 46, 111, 114, 103]⟩ : ByteArray))]⟩ (some ⟨g1, 0, none⟩) c1 (some ⟨g, 0, none⟩) cp)) (by simp [results, Tryd.results57, go_sem, r0, r1, r2]) rfl ⟨_, g1, c1, g, cp, rfl, ?_, ⟨Z.nm, Z.owl, Z.ows, ?_, ?_⟩, ?_, ?_⟩
    · simpa using F.out.1
    · show (c.ways ++ _).length ≤ 40
      rw [hcl]; omega
    · intro p hp
      rcases List.mem_append.1 hp with hp | hp
      · exact Z.was p hp
      · rw [List.mem_singleton.1 hp]; exact ⟨by show x.size ≤ 40; omega, by show (⟨#[116, 119, 111, 46, 111, 114, 103]⟩ : ByteArray).size ≤ 40; decide⟩
    · exact F.out.2.1.mono (by omega)
    · simpa using F.out.2.2
  · have e0 : ((k : Int) == 0) = false := by rw [beq_eq_false_iff_ne]; omega
    have e1 : ((k : Int) == 1) = false := by rw [beq_eq_false_iff_ne]; omega
    have e2 : ((k : Int) == 2) = false := by rw [beq_eq_false_iff_ne]; omega
    go_wp2
    obtain ⟨F1, F2, F3⟩ := D2.out.fin (.string c.name) (.slice (some ⟨g1, 0, none⟩) c.own.length c1) (.slice (some ⟨g2, 0, none⟩) c.ways.length c2)
    exact bodyPost_ret (v := .agg (confV c (some ⟨g1, 0, none⟩) c1 (some ⟨g2, 0, none⟩) c2)) (by simp [results, Tryd.results57, go_sem, r0, r1, r2]) rfl ⟨c, g1, c1, g2, c2, rfl, F1, ⟨Nat.le_trans HZ.out.nm (by omega), Nat.le_trans HZ.out.owl (by omega), fun x hx => Nat.le_trans (HZ.out.ows x hx) (by omega), Nat.le_trans HZ.out.wal (by omega), fun p hp => ⟨Nat.le_trans (HZ.out.was p hp).1 (by omega), Nat.le_trans (HZ.out.was p hp).2 (by omega)⟩⟩, F2.mono (by omega), F3⟩
end Go.Proofs.YtfffocfcnigogaaDoor
