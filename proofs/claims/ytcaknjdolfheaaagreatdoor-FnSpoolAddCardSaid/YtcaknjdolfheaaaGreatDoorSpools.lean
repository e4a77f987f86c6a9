/- SpoolD, SpoolSz, SpoolTo, SpoolEq. -/
import Derived.Test.YtcaknjdolfheaaaGreatDoorRowOf
import Derived.Test.YtcaknjdolfheaaaGreatDoorPlainSpool
import Derived.Test.YtcaknjdolfheaaaGreatDoorMails
import Derived.Deep.RegionHeld3
namespace Go.Proofs.YtcaknjdolfheaaaGreatDoor
open Go Go.RowKit

abbrev rcptL (x : RcptD) : List Value := [.string x.u, .string x.d, .int .i64 x.tries, .int .i64 x.next]
abbrev rcptV (x : RcptD) : Array Value := #[.string x.u, .string x.d, .int .i64 x.tries, .int .i64 x.next]
def rcptP (_ : World) (vs : List Value) (x : RcptD) : Prop := vs = rcptL x
theorem rcptP_stays : Stays rcptP := fun _ _ _ _ _ h _ _ => h
abbrev RcptRow (w : World) (ao : Option Addr) (xs : List RcptD) : Prop := RowOf 4 rcptP w ao xs
theorem rcptAt {w : World} {ao : Option Addr} {xs : List RcptD} (h : RcptRow w ao xs) {k : Nat} {x : RcptD} (hx : xs[k]? = some x) :
    ∃ b off, ao = some ⟨b, off, none⟩ ∧ w.cell? ⟨b, off + k * 4, none⟩ = some (.string x.u) ∧ w.cell? ⟨b, off + k * 4 + 1, none⟩ = some (.string x.d) ∧ w.cell? ⟨b, off + k * 4 + 2, none⟩ = some (.int .i64 x.tries) ∧ w.cell? ⟨b, off + k * 4 + 3, none⟩ = some (.int .i64 x.next) := by
  obtain ⟨b, off, vs, e, _, hc, hp⟩ := h k x hx
  unfold rcptP at hp
  subst hp
  exact ⟨b, off, e, hc 0 _ rfl, hc 1 _ rfl, hc 2 _ rfl, hc 3 _ rfl⟩
def rcptE : Elem RcptD Unit := ⟨4, fun x _ => rcptL x, fun _ _ => [], fun _ _ => rfl⟩
abbrev ones {α : Type} (xs : List α) : List Unit := List.replicate xs.length ()

/-- Where its rows lie. -/
structure ItemV where
  a1 : Option Addr
  c1 : Nat
  a2 : Option Addr
  c2 : Nat
abbrev itemL (x : ItemD) (p : ItemV) : List Value := [.int .i64 x.id, .string x.fu, .string x.fd, .slice p.a1 x.rc.length p.c1, .slice p.a2 x.body.length p.c2]
abbrev itemV (x : ItemD) (p : ItemV) : Array Value := #[.int .i64 x.id, .string x.fu, .string x.fd, .slice p.a1 x.rc.length p.c1, .slice p.a2 x.body.length p.c2]
structure ItemAt (w : World) (x : ItemD) (p : ItemV) : Prop where
  rc : RcptRow w p.a1 x.rc
  body : StrRow w p.a2 x.body
theorem ItemAt.below {B : Nat} {w w' : World} {x : ItemD} {p : ItemV} (h : ItemAt w x p) (hb : Below B w w') (hB : w.heap.size ≤ B) : ItemAt w' x p := ⟨h.rc.below rcptP_stays hb hB, h.body.below hb hB⟩
theorem ItemAt.later {w w' : World} {x : ItemD} {p : ItemV} (h : ItemAt w x p) (hb : Below w.heap.size w w') : ItemAt w' x p := h.below hb (Nat.le_refl _)
def itemP (w : World) (vs : List Value) (x : ItemD) : Prop := ∃ p, vs = itemL x p ∧ ItemAt w x p
theorem itemP_stays : Stays itemP := fun _ _ _ _ _ ⟨p, e, h⟩ hb hB => ⟨p, e, h.below hb hB⟩
abbrev ItemRow (w : World) (ao : Option Addr) (xs : List ItemD) : Prop := RowOf 5 itemP w ao xs
theorem itemAt {w : World} {ao : Option Addr} {xs : List ItemD} (h : ItemRow w ao xs) {k : Nat} {x : ItemD} (hx : xs[k]? = some x) :
    ∃ b off p, ao = some ⟨b, off, none⟩ ∧ w.cell? ⟨b, off + k * 5, none⟩ = some (.int .i64 x.id) ∧ w.cell? ⟨b, off + k * 5 + 1, none⟩ = some (.string x.fu) ∧ w.cell? ⟨b, off + k * 5 + 2, none⟩ = some (.string x.fd) ∧ w.cell? ⟨b, off + k * 5 + 3, none⟩ = some (.slice p.a1 x.rc.length p.c1) ∧ w.cell? ⟨b, off + k * 5 + 4, none⟩ = some (.slice p.a2 x.body.length p.c2) ∧ ItemAt w x p := by
  obtain ⟨b, off, vs, e, _, hc, p, hp, ha⟩ := h k x hx
  subst hp
  exact ⟨b, off, p, e, hc 0 _ rfl, hc 1 _ rfl, hc 2 _ rfl, hc 3 _ rfl, hc 4 _ rfl, ha⟩
/-- The parts of memory that a row of texts is. -/
abbrev strsR (ao : Option Addr) (cap : Nat) (xs : List ByteArray) : Res := Res.row 9 1 (.slice ao xs.length cap) xs.length (xs.map Value.string)
/-- The parts of memory that a row of recipients is. -/
abbrev rcptsR (ao : Option Addr) (cap : Nat) (xs : List RcptD) : Res := Res.row 105 4 (.slice ao xs.length cap) xs.length (rcptE.all xs (ones xs))
def itemE : Elem ItemD ItemV := ⟨5, itemL, fun x p => [rcptsR p.a1 p.c1 x.rc, strsR p.a2 p.c2 x.body], fun _ _ => rfl⟩
theorem rcptE_ress (xs : List RcptD) (ps : List Unit) : rcptE.ress xs ps = [] := by
  unfold Elem.ress
  rw [List.flatten_eq_nil_iff]
  intro l hl
  obtain ⟨k, hk⟩ := List.getElem?_of_mem hl
  rw [List.getElem?_zipWith] at hk
  cases hx : xs[k]? with
  | none => rw [hx] at hk; cases hk
  | some x =>
    cases hp : ps[k]? with
    | none => rw [hx, hp] at hk; cases hk
    | some p => rw [hx, hp] at hk; exact (Option.some.inj hk).symm
theorem rcpts_read {w : World} {ao : Option Addr} {cap : Nat} {xs : List RcptD} (h : (rcptsR ao cap xs).P w) : RcptRow w ao xs := by
  refine rcptE.reads (P := rcptP) (e := 105) (cap := cap) (ps := ones xs) (fun _ _ _ _ => rfl) (by simp) fun r hr => ?_
  rcases List.mem_cons.1 hr with rfl | hr
  · exact h
  · rw [rcptE_ress] at hr
    cases hr
theorem strs_read {w : World} {ao : Option Addr} {cap : Nat} {xs : List ByteArray} (h : (strsR ao cap xs).P w) : StrRow w ao xs := StrRow.of_own h
theorem item_read {w : World} {x : ItemD} {p : ItemV} (h : ∀ r ∈ itemE.res x p, r.P w) : ItemAt w x p :=
  ⟨rcpts_read (cap := p.c1) (h _ List.mem_cons_self), strs_read (cap := p.c2) (h _ (List.mem_cons_of_mem _ List.mem_cons_self))⟩
/-- The parts of memory that a row of items is. -/
abbrev itemsR (ao : Option Addr) (cap : Nat) (xs : List ItemD) (ps : List ItemV) : List Res := itemE.row 43 ao cap xs ps
theorem items_read {w : World} {ao : Option Addr} {cap : Nat} {xs : List ItemD} {ps : List ItemV} (hl : ps.length = xs.length) (h : ∀ r ∈ itemsR ao cap xs ps, r.P w) : ItemRow w ao xs :=
  itemE.reads (P := itemP) (fun _ _ p hp => ⟨p, rfl, item_read hp⟩) hl h

abbrev spoolL (s : SpoolD) (ao : Option Addr) (cap : Nat) : List Value := [.int .i64 s.last, .slice ao s.items.length cap]
abbrev spoolV (s : SpoolD) (ao : Option Addr) (cap : Nat) : Array Value := #[.int .i64 s.last, .slice ao s.items.length cap]

def rcptN (x : RcptD) : Nat := x.u.size + x.d.size
def itemN (x : ItemD) : Nat := x.fu.size + x.fd.size + rowN rcptN x.rc + rowN ByteArray.size x.body
def spoolN (s : SpoolD) : Nat := rowN itemN s.items
/-- No row, no text is longer than a machine bears. -/
structure RcptF (x : RcptD) : Prop where
  u : x.u.size ≤ maxLen
  d : x.d.size ≤ maxLen
structure ItemF (x : ItemD) : Prop where
  fu : x.fu.size ≤ maxLen
  fd : x.fd.size ≤ maxLen
  rcl : x.rc.length ≤ maxLen
  rcs : ∀ y ∈ x.rc, RcptF y
  bol : x.body.length ≤ maxLen
  bos : ∀ y ∈ x.body, y.size ≤ maxLen
structure SpoolF (s : SpoolD) : Prop where
  il : s.items.length ≤ maxLen
  is : ∀ y ∈ s.items, ItemF y
theorem leftA_N (u d : ByteArray) (left : Int) : leftA u d left = leftN (u.size + d.size) left := by
  unfold leftA leftN
  by_cases h : (u.size : Int) + d.size ≤ left
  · rw [if_pos h, if_pos (by omega)]; omega
  · rw [if_neg h, if_neg (by omega)]
theorem leftB_N (xs : List ByteArray) (left : Int) : leftB xs left = leftN (rowN ByteArray.size xs) left := by
  have e : (rowN ByteArray.size xs : Int) = xs.length + sumB xs := by unfold rowN sumB; push_cast; rfl
  unfold leftB leftN
  rw [e]
  by_cases h : (xs.length : Int) + sumB xs ≤ left
  · rw [if_pos h, if_pos h]; omega
  · rw [if_neg h, if_neg h]
theorem itemN_parts {x : ItemD} {n : Nat} (h : itemN x ≤ n) : x.fu.size ≤ n ∧ x.fd.size ≤ n ∧ x.rc.length ≤ n ∧ (∀ y ∈ x.rc, y.u.size ≤ n ∧ y.d.size ≤ n) ∧ x.body.length ≤ n ∧ (∀ y ∈ x.body, y.size ≤ n) := by
  unfold itemN at h
  have h1 := rowN_length rcptN x.rc
  have h2 := rowN_length ByteArray.size x.body
  refine ⟨by omega, by omega, by omega, fun y hy => ?_, by omega, fun y hy => ?_⟩
  · have : y.u.size + y.d.size ≤ rowN rcptN x.rc := rowN_mem rcptN hy
    omega
  · have := rowN_mem ByteArray.size hy
    omega
theorem spoolN_parts {s : SpoolD} {n : Nat} (h : spoolN s ≤ n) : s.items.length ≤ n ∧ ∀ x ∈ s.items, itemN x ≤ n := by
  unfold spoolN at h
  have h1 := rowN_length itemN s.items
  exact ⟨by omega, fun x hx => by have := rowN_mem itemN hx; omega⟩
end Go.Proofs.YtcaknjdolfheaaaGreatDoor
namespace Go.Proofs.YtcaknjdolfheaaaGreatDoor
open Go Go.RowKit

set_option maxRecDepth 100000 in
theorem szRcpt_any (x : RcptD) (left : Int) (w : World) (h0 : 0 ≤ left) (h1 : left ≤ 1048576) (hf : RcptF x) :
    Calls Tryz.prog 229 #[.agg (rcptV x), .int .i64 left] w fun e w' => e = .returned (.int .i64 (leftN (rcptN x) left)) ∧ Below w.heap.size w w' := by
  have b0 : Seal (Below w.heap.size w (w.alloc (.cells (rcptV x) 240))) := ⟨(Below.refl _ _).alloc (Nat.le_refl _) _⟩
  obtain ⟨z1, z2⟩ := hf
  unfold maxLen at z1 z2
  obtain ⟨l, hl⟩ : ∃ l, leftA x.u x.d left = l := ⟨_, rfl⟩
  have HL : Seal _ := ⟨hl⟩
  have HQ : Seal (leftN (rcptN x) left = l) := ⟨by rw [← hl, leftA_N]; rfl⟩
  have hm : l < 0 → l = -1 := fun h => by rw [← HQ.out] at h ⊢; exact leftN_neg h
  clear hl
  go_enter Tryz.func229, Tryz.ntmps229
  go_wp2_with fail
  refine (szAddr_any x.u x.d left _ h0 h1 (by omega) (by omega)).mono ?_
  rintro e w1 ⟨rfl, hb1⟩
  rw [HL.out]
  have B1 : Seal _ := ⟨b0.out.trans (hb1.mono b0.out.size)⟩
  clear hb1 b0
  by_cases hn : l < 0
  · have HN : Seal _ := ⟨hm hn⟩
    clear hm
    go_wp2
    go_ret
    exact ⟨ret_i (HN.out.symm.trans HQ.out.symm), B1.out⟩
  · clear hm
    go_wp2
    go_ret
    exact ⟨ret_i HQ.out.symm, B1.out⟩

set_option maxHeartbeats 800000 in
set_option maxRecDepth 100000 in
theorem szRcptS_any (ao : Option Addr) (cap : Nat) (xs : List RcptD) (left : Int) (w : World) (hr : RcptRow w ao xs) (hl : xs.length ≤ maxLen) (h0 : 0 ≤ left) (h1 : left ≤ 1048576) (hs : ∀ x ∈ xs, RcptF x) :
    Calls Tryz.prog 209 #[.slice ao xs.length cap, .int .i64 left] w fun e w' => e = .returned (.int .i64 (leftN (rowN rcptN xs) left)) ∧ Below w.heap.size w w' := by
  have HR : Seal _ := ⟨hr⟩
  have HS : Seal _ := ⟨hs⟩
  unfold maxLen at hl
  clear hr hs
  by_cases hlen : left < xs.length
  · have hm : Seal (leftN (rowN rcptN xs) left = -1) := ⟨by unfold leftN rowN; rw [if_neg (by omega)]⟩
    go_enter Tryz.func209, Tryz.ntmps209
    go_wp2
    go_ret
    exact ⟨ret_i hm.out.symm, Below.refl _ _⟩
  · have HI : Seal (leftN (xs.length + sumN rcptN (xs.take 0)) left = left - xs.length) := ⟨by unfold leftN sumN; rw [if_pos (by simp; omega)]; simp⟩
    go_enter Tryz.func209, Tryz.ntmps209
    go_wp2
    go_loopw [1, 5] (fun l i wr => ∃ (k : Nat) (r : Int), k ≤ xs.length ∧ i = .int .i64 k ∧ l = .int .i64 r ∧ 0 ≤ r ∧ r ≤ 1048576 ∧ Seal (leftN (xs.length + sumN rcptN (xs.take k)) left = r) ∧ Seal (Below w.heap.size w wr)) (fun _ i _ => xs.length - (intOf i).toNat)
    case atStart => exact ⟨0, left - xs.length, Nat.zero_le _, rfl, rfl, by omega, by omega, HI, ⟨Below.refl _ _⟩⟩
    case round =>
      obtain ⟨k, r, hk, rfl, rfl, hr0, hr1, H, hb⟩ := hrel
      clear HI
      by_cases hlt : k < xs.length
      · obtain ⟨x, hx⟩ : ∃ x, xs[k]? = some x := ⟨_, List.getElem?_eq_getElem hlt⟩
        obtain ⟨b, off, rfl, c0, c1, c2, c3⟩ := rcptAt (HR.out.below rcptP_stays hb.out (Nat.le_refl _)) hx
        have HF : Seal _ := ⟨HS.out x (List.mem_of_getElem? hx)⟩
        have HN : Seal _ := ⟨leftN_row_next rcptN hx H.out (by omega)⟩
        clear hx
        obtain ⟨l2, h2⟩ : ∃ l2, leftN (rcptN x) r = l2 := ⟨_, rfl⟩
        have hle := leftN_le (rcptN x) hr0
        rw [h2] at hle
        have HL : Seal _ := ⟨h2⟩
        clear h2
        go_wp2_with fail
        refine (szRcpt_any x r _ hr0 hr1 HF.out).mono ?_
        rintro e w1 ⟨rfl, hb1⟩
        rw [HL.out]
        have B1 : Seal _ := ⟨hb.out.trans (hb1.mono hb.out.size)⟩
        clear hb1 hb
        by_cases hneg : l2 < 0
        · have hm : Seal (leftN (rowN rcptN xs) left = -1) := ⟨leftN_row_bad rcptN xs (k + 1) (by rw [HN.out]; exact HL.out) hneg⟩
          go_wp2
          go_ret
          exact ⟨ret_i hm.out.symm, B1.out⟩
        · go_wp2
          go_roundw
          case rel => exact ⟨k + 1, l2, by omega, by go_num, rfl, by omega, by omega, ⟨by rw [HN.out]; exact HL.out⟩, B1⟩
          case measure => simp [intOf]; omega
      · have hm : Seal (leftN (rowN rcptN xs) left = r) := ⟨by
          have e1 := H.out
          rw [List.take_of_length_le (by omega)] at e1
          exact e1⟩
        go_wp2
        go_ret
        exact ⟨ret_i hm.out.symm, hb.out⟩

set_option maxHeartbeats 1600000 in
set_option maxRecDepth 100000 in
theorem szItem_any (x : ItemD) (p : ItemV) (left : Int) (w : World) (hat : ItemAt w x p) (h0 : 0 ≤ left) (h1 : left ≤ 1048576) (hf : ItemF x) :
    Calls Tryz.prog 165 #[.agg (itemV x p), .int .i64 left] w fun e w' => e = .returned (.int .i64 (leftN (itemN x) left)) ∧ Below w.heap.size w w' := by
  have S0 : Seal _ := ⟨(St.start w).alloc (itemV x p) 194⟩
  have HA : Seal _ := ⟨hat⟩
  obtain ⟨z1, z2, z3, z4, z5, z6⟩ := hf
  have Z4 : Seal _ := ⟨z4⟩
  have Z6 : Seal (∀ y ∈ x.body, y.size ≤ 9223372036854775807) := ⟨fun y hy => by have := z6 y hy; unfold maxLen at this; omega⟩
  have Z3 := z3
  unfold maxLen at z1 z2 z3 z5
  clear hat z4 z6
  obtain ⟨l1, e1⟩ : ∃ l, leftA x.fu x.fd left = l := ⟨_, rfl⟩
  have E1 : Seal (leftA x.fu x.fd left = l1) := ⟨e1⟩
  have Q1 : Seal (leftN (x.fu.size + x.fd.size) left = l1) := ⟨by rw [← e1, leftA_N]⟩
  have L1 := leftN_le (x.fu.size + x.fd.size) h0
  rw [Q1.out] at L1
  clear e1
  go_enter Tryz.func165, Tryz.ntmps165
  go_wp2_with fail
  refine (szAddr_any x.fu x.fd left _ h0 h1 (by omega) (by omega)).mono ?_
  rintro e w1 ⟨rfl, hb1⟩
  rw [E1.out]
  have S1 : Seal _ := ⟨S0.out.later hb1⟩
  have P1 := S1.out.head
  have g3 := P1.c 3 _ rfl
  clear hb1 S0 P1
  by_cases n1 : l1 < 0
  · have hm : Seal (leftN (itemN x) left = -1) := ⟨by unfold itemN; rw [Nat.add_assoc]; exact leftN_more _ (by rw [Q1.out]; exact n1)⟩
    go_wp2
    go_ret
    exact ⟨ret_i hm.out.symm, S1.out.below⟩
  obtain ⟨l2, e2⟩ : ∃ l, leftN (rowN rcptN x.rc) l1 = l := ⟨_, rfl⟩
  have Q2 : Seal (leftN (x.fu.size + x.fd.size + rowN rcptN x.rc) left = l2) := ⟨by rw [leftN_step n1 Q1.out]; exact e2⟩
  have L2 := leftN_le (rowN rcptN x.rc) (left := l1) (by omega)
  rw [e2] at L2
  have E2 : Seal _ := ⟨e2⟩
  clear e2
  go_wp2_with fail
  refine (szRcptS_any p.a1 p.c1 x.rc l1 _ (HA.out.rc.below rcptP_stays S1.out.below (Nat.le_refl _)) Z3 (by omega) (by omega) Z4.out).mono ?_
  rintro e w2 ⟨rfl, hb2⟩
  rw [E2.out]
  have S2 : Seal _ := ⟨S1.out.later hb2⟩
  have P2 := S2.out.head
  have g4 := P2.c 4 _ rfl
  clear hb2 S1 P2 g3
  by_cases n2 : l2 < 0
  · have hm : Seal (leftN (itemN x) left = -1) := ⟨leftN_more _ (by rw [Q2.out]; exact n2)⟩
    go_wp2
    go_ret
    exact ⟨ret_i hm.out.symm, S2.out.below⟩
  obtain ⟨l3, e3⟩ : ∃ l, leftB x.body l2 = l := ⟨_, rfl⟩
  have Q3 : Seal (leftN (itemN x) left = l3) := ⟨by unfold itemN; rw [leftN_step n2 Q2.out, ← leftB_N]; exact e3⟩
  have E3 : Seal _ := ⟨e3⟩
  have hm3 : l3 < 0 → l3 = -1 := fun h => by rw [← Q3.out] at h ⊢; exact leftN_neg h
  clear e3
  go_wp2_with fail
  refine (szStringS_any p.a2 p.c2 x.body l2 _ (HA.out.body.below S2.out.below (Nat.le_refl _)) (by omega) (by omega) (by omega) Z6.out).mono ?_
  rintro e w3 ⟨rfl, rfl⟩
  rw [E3.out]
  by_cases n3 : l3 < 0
  · have hm : Seal _ := ⟨hm3 n3⟩
    clear hm3
    go_wp2
    go_ret
    exact ⟨ret_i (hm.out.symm.trans Q3.out.symm), S2.out.below⟩
  · clear hm3
    go_wp2
    go_ret
    exact ⟨ret_i Q3.out.symm, S2.out.below⟩

set_option maxHeartbeats 800000 in
set_option maxRecDepth 100000 in
theorem szItemS_any (ao : Option Addr) (cap : Nat) (xs : List ItemD) (left : Int) (w : World) (hr : ItemRow w ao xs) (hl : xs.length ≤ maxLen) (h0 : 0 ≤ left) (h1 : left ≤ 1048576) (hs : ∀ x ∈ xs, ItemF x) :
    Calls Tryz.prog 95 #[.slice ao xs.length cap, .int .i64 left] w fun e w' => e = .returned (.int .i64 (leftN (rowN itemN xs) left)) ∧ Below w.heap.size w w' := by
  have HR : Seal _ := ⟨hr⟩
  have HS : Seal _ := ⟨hs⟩
  unfold maxLen at hl
  clear hr hs
  by_cases hlen : left < xs.length
  · have hm : Seal (leftN (rowN itemN xs) left = -1) := ⟨by unfold leftN rowN; rw [if_neg (by omega)]⟩
    go_enter Tryz.func95, Tryz.ntmps95
    go_wp2
    go_ret
    exact ⟨ret_i hm.out.symm, Below.refl _ _⟩
  · have HI : Seal (leftN (xs.length + sumN itemN (xs.take 0)) left = left - xs.length) := ⟨by unfold leftN sumN; rw [if_pos (by simp; omega)]; simp⟩
    go_enter Tryz.func95, Tryz.ntmps95
    go_wp2
    go_loopw [1, 5] (fun l i wr => ∃ (k : Nat) (r : Int), k ≤ xs.length ∧ i = .int .i64 k ∧ l = .int .i64 r ∧ 0 ≤ r ∧ r ≤ 1048576 ∧ Seal (leftN (xs.length + sumN itemN (xs.take k)) left = r) ∧ Seal (Below w.heap.size w wr)) (fun _ i _ => xs.length - (intOf i).toNat)
    case atStart => exact ⟨0, left - xs.length, Nat.zero_le _, rfl, rfl, by omega, by omega, HI, ⟨Below.refl _ _⟩⟩
    case round =>
      obtain ⟨k, r, hk, rfl, rfl, hr0, hr1, H, hb⟩ := hrel
      clear HI
      by_cases hlt : k < xs.length
      · obtain ⟨x, hx⟩ : ∃ x, xs[k]? = some x := ⟨_, List.getElem?_eq_getElem hlt⟩
        obtain ⟨b, off, p, rfl, c0, c1, c2, c3, c4, ha⟩ := itemAt (HR.out.below itemP_stays hb.out (Nat.le_refl _)) hx
        have HF : Seal _ := ⟨HS.out x (List.mem_of_getElem? hx)⟩
        have HN : Seal _ := ⟨leftN_row_next itemN hx H.out (by omega)⟩
        have HA : Seal _ := ⟨ha⟩
        clear hx ha
        obtain ⟨l2, h2⟩ : ∃ l2, leftN (itemN x) r = l2 := ⟨_, rfl⟩
        have hle := leftN_le (itemN x) hr0
        rw [h2] at hle
        have HL : Seal _ := ⟨h2⟩
        clear h2
        go_wp2_with fail
        refine (szItem_any x p r _ HA.out hr0 hr1 HF.out).mono ?_
        rintro e w1 ⟨rfl, hb1⟩
        rw [HL.out]
        have B1 : Seal _ := ⟨hb.out.trans (hb1.mono hb.out.size)⟩
        clear hb1 hb
        by_cases hneg : l2 < 0
        · have hm : Seal (leftN (rowN itemN xs) left = -1) := ⟨leftN_row_bad itemN xs (k + 1) (by rw [HN.out]; exact HL.out) hneg⟩
          go_wp2
          go_ret
          exact ⟨ret_i hm.out.symm, B1.out⟩
        · go_wp2
          go_roundw
          case rel => exact ⟨k + 1, l2, by omega, by go_num, rfl, by omega, by omega, ⟨by rw [HN.out]; exact HL.out⟩, B1⟩
          case measure => simp [intOf]; omega
      · have hm : Seal (leftN (rowN itemN xs) left = r) := ⟨by
          have e1 := H.out
          rw [List.take_of_length_le (by omega)] at e1
          exact e1⟩
        go_wp2
        go_ret
        exact ⟨ret_i hm.out.symm, hb.out⟩

set_option maxRecDepth 100000 in
theorem szSpool_any (s : SpoolD) (ao : Option Addr) (cap : Nat) (left : Int) (w : World) (hat : ItemRow w ao s.items) (h0 : 0 ≤ left) (h1 : left ≤ 1048576) (hf : SpoolF s) :
    Calls Tryz.prog 39 #[.agg (spoolV s ao cap), .int .i64 left] w fun e w' => e = .returned (.int .i64 (leftN (spoolN s) left)) ∧ Below w.heap.size w w' := by
  have S0 : Seal _ := ⟨(St.start w).alloc (spoolV s ao cap) 62⟩
  have HA : Seal _ := ⟨hat⟩
  have HF : Seal _ := ⟨hf⟩
  obtain ⟨l, hl⟩ : ∃ l, leftN (rowN itemN s.items) left = l := ⟨_, rfl⟩
  have HL : Seal _ := ⟨hl⟩
  have hm : l < 0 → l = -1 := fun h => by rw [← HL.out] at h ⊢; exact leftN_neg h
  clear hat hf hl
  go_enter Tryz.func39, Tryz.ntmps39
  go_wp2_with fail
  refine (szItemS_any ao cap s.items left _ (HA.out.below itemP_stays S0.out.below (Nat.le_refl _)) HF.out.il h0 h1 HF.out.is).mono ?_
  rintro e w1 ⟨rfl, hb1⟩
  rw [HL.out]
  have S1 : Seal _ := ⟨S0.out.later hb1⟩
  clear hb1 S0
  by_cases hn : l < 0
  · have HN : Seal _ := ⟨hm hn⟩
    clear hm
    go_wp2
    go_ret
    exact ⟨ret_i (HN.out.symm.trans HL.out.symm), S1.out.below⟩
  · clear hm
    go_wp2
    go_ret
    exact ⟨ret_i HL.out.symm, S1.out.below⟩
end Go.Proofs.YtcaknjdolfheaaaGreatDoor
namespace Go.Proofs.YtcaknjdolfheaaaGreatDoor
open Go Go.RowKit

theorem infoRcpt : (Tryz.prog.info? 105).map (fun i => (i.zero, i.size, i.bytes)) = some (some (.agg #[.string ByteArray.empty, .string ByteArray.empty, .int .i64 0, .int .i64 0]), 4, 48) := by kernel_rfl
theorem infoItem : (Tryz.prog.info? 43).map (fun i => (i.zero, i.size, i.bytes)) = some (some (.agg #[.int .i64 0, .string ByteArray.empty, .string ByteArray.empty, .slice none 0 0, .slice none 0 0]), 5, 88) := by kernel_rfl
abbrev noRcpt : Array Value := #[.string { data := #[] }, .string { data := #[] }, .int .i64 0, .int .i64 0]
abbrev noItem : Array Value := #[.int .i64 0, .string { data := #[] }, .string { data := #[] }, .slice none 0 0, .slice none 0 0]

set_option maxHeartbeats 800000 in
set_option maxRecDepth 100000 in
theorem toRcpt_any (x : RcptD) (w : World) :
    Calls Tryz.prog 230 #[.agg (rcptV x)] w fun e w' => e = .returned (.agg (rcptV x)) ∧ Below w.heap.size w w' := by
  have s0 := (((St.start w).alloc (rcptV x) 240).alloc noRcpt 105).alloc noRcpt 105
  simp only [World.size_alloc] at s0
  have S0 : Seal _ := ⟨s0⟩
  clear s0
  go_enter Tryz.func230, Tryz.ntmps230
  go_wp2_with fail
  refine (toAddr_any x.u x.d _).mono ?_
  rintro e w1 ⟨rfl, hb1⟩
  have S1 : Seal _ := ⟨S0.out.later hb1⟩
  have P1 := S1.out.head
  have o0 := P1.c 0 _ rfl
  have o1 := P1.c 1 _ rfl
  have o2 := P1.c 2 _ rfl
  have o3 := P1.c 3 _ rfl
  have f0 := P1.f 0 (by simp)
  have f1 := P1.f 1 (by simp)
  have f2 := P1.f 2 (by simp)
  have f3 := P1.f 3 (by simp)
  have R1 := S1.out.two.head
  have r0 := R1.c 0 _ rfl
  have r1 := R1.c 1 _ rfl
  have r2 := R1.c 2 _ rfl
  have r3 := R1.c 3 _ rfl
  have h0 := R1.f 0 (by simp)
  have h1 := R1.f 1 (by simp)
  have h2 := R1.f 2 (by simp)
  have h3 := R1.f 3 (by simp)
  have A1 := S1.out.three.head
  have g2 := A1.c 2 _ rfl
  have g3 := A1.c 3 _ rfl
  have hn : w.heap.size + 1 + 1 ≠ w.heap.size + 1 := by omega
  have hn' : w.heap.size + 1 + 1 ≠ w.heap.size := by omega
  clear P1 R1 A1 hb1 S0
  go_wp2
  refine bodyPost_ret (v := .agg (rcptV x)) (by simp [results, Tryz.results230, go_sem, r0, r1, r2, r3]) rfl ⟨rfl, ?_⟩
  iterate 8 (refine Below.setCell ?_ (by simp <;> omega) _)
  exact S1.out.below

set_option maxHeartbeats 1600000 in
set_option maxRecDepth 100000 in
theorem toRcptS_any (ao : Option Addr) (cap : Nat) (xs : List RcptD) (w : World) (hr : RcptRow w ao xs) (hl : xs.length ≤ 1048576) :
    Calls Tryz.prog 210 #[.slice ao xs.length cap] w fun e w' => ∃ bo c, e = .returned (.slice bo xs.length c) ∧ St w w' [rcptsR bo c xs] := by
  obtain ⟨i0, hi, hz0, hz1, hz2⟩ := info_parts infoRcpt
  have HR : Seal _ := ⟨hr⟩
  clear hr
  go_enter Tryz.func210, Tryz.ntmps210
  go_wp2_with (at_make; refine wpList_make_full _ rfl _ _ 41 rfl w.heap.size 105 i0 (.agg #[.string ByteArray.empty, .string ByteArray.empty, .int .i64 0, .int .i64 0]) 4 Tryz.underlying41 hi hz0 hz1 .i64 .i64 xs.length xs.length xs.length rfl rfl rfl rfl ?b2 ?b3 ?b4 ?_)
  case b2 => rw [hz2]; omega
  case b3 => unfold maxLen; omega
  case b4 => exact Nat.le_refl _
  intro w1 hown1 hgrow1
  have S1 : Seal _ := ⟨rcptE.make (e := 105) _ rfl (by decide) hown1 hgrow1 xs⟩
  clear hown1 hgrow1
  go_wp2
  go_loopw [4] (fun i wr => ∃ (k : Nat) (ps : List Unit), k ≤ xs.length ∧ i = .int .i64 k ∧ ps.length = k ∧ Seal (St w wr (Res.row 105 rcptE.size (.slice (some ⟨w.heap.size, 0, none⟩) xs.length xs.length) xs.length (rcptE.part (#[.string ByteArray.empty, .string ByteArray.empty, .int .i64 0, .int .i64 0] : Array Value).toList (xs.take k) ps (xs.length - k)) :: (rcptE.ress (xs.take k) ps ++ [])))) (fun i _ => xs.length - (intOf i).toNat)
  case atStart => exact ⟨0, [], Nat.zero_le _, rfl, rfl, S1⟩
  case round =>
    obtain ⟨k, ps, hk, rfl, hps, S⟩ := hrel
    clear S1
    by_cases hlt : k < xs.length
    · obtain ⟨x, hx⟩ : ∃ x, xs[k]? = some x := ⟨_, List.getElem?_eq_getElem hlt⟩
      obtain ⟨b, off, rfl, c0, c1, c2, c3⟩ := rcptAt (HR.out.below rcptP_stays S.out.below (Nat.le_refl _)) hx
      have HX : Seal _ := ⟨hx⟩
      have HP : Seal _ := ⟨hps⟩
      clear hx hps
      go_wp2_with fail
      refine (toRcpt_any x _).mono ?_
      rintro e w2 ⟨rfl, hb2⟩
      have ho := S.out.later hb2 |>.head
      have e0 : ∃ v, w2.cell? ⟨w.heap.size, k * 4, none⟩ = some v := row_cell ho (k * 4) (by show k * 4 < xs.length * 4; omega)
      have e1 : ∃ v, w2.cell? ⟨w.heap.size, k * 4 + 1, none⟩ = some v := row_cell ho (k * 4 + 1) (by show k * 4 + 1 < xs.length * 4; omega)
      have e2 : ∃ v, w2.cell? ⟨w.heap.size, k * 4 + 2, none⟩ = some v := row_cell ho (k * 4 + 2) (by show k * 4 + 2 < xs.length * 4; omega)
      have e3 : ∃ v, w2.cell? ⟨w.heap.size, k * 4 + 3, none⟩ = some v := row_cell ho (k * 4 + 3) (by show k * 4 + 3 < xs.length * 4; omega)
      obtain ⟨v0, e0⟩ := e0
      obtain ⟨v1, e1⟩ := e1
      obtain ⟨v2, e2⟩ := e2
      obtain ⟨v3, e3⟩ := e3
      have f0 := World.ownsRow.frozenAt ho (k * 4)
      have f1 := World.ownsRow.frozenAt ho (k * 4 + 1)
      have f2 := World.ownsRow.frozenAt ho (k * 4 + 2)
      have f3 := World.ownsRow.frozenAt ho (k * 4 + 3)
      have S2 : Seal (St w ((((w2.setCell ⟨w.heap.size, k * 4, none⟩ (.string x.u)).setCell ⟨w.heap.size, k * 4 + 1, none⟩ (.string x.d)).setCell ⟨w.heap.size, k * 4 + 2, none⟩ (.int .i64 x.tries)).setCell ⟨w.heap.size, k * 4 + 3, none⟩ (.int .i64 x.next)) _) := ⟨rcptE.next (p := ()) rfl HP.out HX.out S.out ((St.start _).later hb2)⟩
      clear ho hb2 S
      go_wp2
      go_roundw
      case rel => exact ⟨k + 1, ps ++ [()], by omega, by go_num, by simp [HP.out], S2⟩
      case measure => simp [intOf]; omega
    · obtain rfl : k = xs.length := by omega
      have S2 : Seal _ := ⟨rcptE.done S.out⟩
      go_wp2
      go_ret
      refine ⟨_, _, rfl, ?_⟩
      have e := units ps
      rw [hps] at e
      have := S2.out
      rw [e] at this
      unfold Elem.row at this
      rw [rcptE_ress] at this
      exact this

set_option maxHeartbeats 1600000 in
set_option maxRecDepth 100000 in
theorem toItem_any (x : ItemD) (p : ItemV) (w : World) (hat : ItemAt w x p) (hz : itemN x ≤ 1048576) :
    Calls Tryz.prog 168 #[.agg (itemV x p)] w fun e w' => ∃ q, e = .returned (.agg (itemV x q)) ∧ St w w' (itemE.res x q) := by
  obtain ⟨z1, z2, z3, _, z5, _⟩ := itemN_parts hz
  have HA : Seal _ := ⟨hat⟩
  have s0 := (((St.start w).alloc (itemV x p) 194).alloc noItem 43).alloc #[.int .i64 x.id, .string { data := #[] }, .string { data := #[] }, .slice none 0 0, .slice none 0 0] 43
  simp only [World.size_alloc] at s0
  have S0 : Seal _ := ⟨s0⟩
  clear s0 hat hz
  go_enter Tryz.func168, Tryz.ntmps168
  go_wp2_with fail
  refine (toAddr_any x.fu x.fd _).mono ?_
  rintro e w1 ⟨rfl, hb1⟩
  have s1 := S0.out.later hb1
  have P1 := s1.head
  have o1 := P1.c 1 _ rfl
  have o2 := P1.c 2 _ rfl
  have f1 := P1.f 1 (by simp)
  have f2 := P1.f 2 (by simp)
  have A1 := s1.three.head
  have g3 := A1.c 3 _ rfl
  have S1 : Seal _ := ⟨(s1.set 1 (.string x.fu) (by simp)).set 2 (.string x.fd) (by simp)⟩
  have hn : w.heap.size + 1 + 1 ≠ w.heap.size + 1 := by omega
  have hn' : w.heap.size + 1 + 1 ≠ w.heap.size := by omega
  clear P1 A1 hb1 S0 s1
  go_wp2_with fail
  refine (toRcptS_any p.a1 p.c1 x.rc _ (HA.out.rc.below rcptP_stays S1.out.below (Nat.le_refl _)) z3).mono ?_
  rintro e w2 ⟨q1, d1, rfl, k2⟩
  have s2 := (S1.out.join k2).two
  have P2 := s2.head
  have o3 := P2.c 3 _ rfl
  have f3 := P2.f 3 (by simp)
  have A2 := s2.four.head
  have g4 := A2.c 4 _ rfl
  have S2 : Seal _ := ⟨s2.set 3 (.slice q1 x.rc.length d1) (by simp)⟩
  clear P2 A2 k2 S1 s2 o1 o2 f1 f2 g3
  go_wp2_with fail
  refine (toStringS_row p.a2 p.c2 x.body _ (HA.out.body.below S2.out.below (Nat.le_refl _)) z5).mono ?_
  rintro e w3 ⟨q2, d2, rfl, k3, hb3⟩
  have s3 := (S2.out.row hb3 k3).two
  have P3 := s3.head
  have o4 := P3.c 4 _ rfl
  have f4 := P3.f 4 (by simp)
  have S3 : Seal _ := ⟨s3.set 4 (.slice q2 x.body.length d2) (by simp)⟩
  have O3 := S3.out.head
  have u0 := P3.c 0 _ rfl
  have u1 := P3.c 1 _ rfl
  have u2 := P3.c 2 _ rfl
  have u3 := P3.c 3 _ rfl
  have R3 := s3.four.head
  have r0 := R3.c 0 _ rfl
  have r1 := R3.c 1 _ rfl
  have r2 := R3.c 2 _ rfl
  have r3 := R3.c 3 _ rfl
  have r4 := R3.c 4 _ rfl
  have h0 := R3.f 0 (by simp)
  have h1 := R3.f 1 (by simp)
  have h2 := R3.f 2 (by simp)
  have h3 := R3.f 3 (by simp)
  have h4 := R3.f 4 (by simp)
  clear P3 k3 S2 s3 hb3 o3 f3 g4 O3 R3
  go_wp2
  refine bodyPost_ret (v := .agg (itemV x ⟨q1, d1, q2, d2⟩)) (by simp [results, Tryz.results168, go_sem, r0, r1, r2, r3, r4]) rfl ⟨⟨q1, d1, q2, d2⟩, rfl, ?_⟩
  have s4 := ((((S3.out.four.set 0 (.int .i64 x.id) (by simp)).set 1 (.string x.fu) (by simp)).set 2 (.string x.fd) (by simp)).set 3 (.slice q1 x.rc.length d1) (by simp)).set 4 (.slice q2 x.body.length d2) (by simp)
  exact s4.tail.tail.two.first (l := itemE.res x ⟨q1, d1, q2, d2⟩)

set_option maxHeartbeats 1600000 in
set_option maxRecDepth 100000 in
theorem toItemS_any (ao : Option Addr) (cap : Nat) (xs : List ItemD) (w : World) (hr : ItemRow w ao xs) (hl : xs.length ≤ 1048576) (hz : ∀ x ∈ xs, itemN x ≤ 1048576) :
    Calls Tryz.prog 98 #[.slice ao xs.length cap] w fun e w' => ∃ bo c ps, e = .returned (.slice bo xs.length c) ∧ ps.length = xs.length ∧ St w w' (itemsR bo c xs ps) := by
  obtain ⟨i0, hi, hz0, hz1, hz2⟩ := info_parts infoItem
  have HR : Seal _ := ⟨hr⟩
  have HZ : Seal _ := ⟨hz⟩
  clear hr hz
  go_enter Tryz.func98, Tryz.ntmps98
  go_wp2_with (at_make; refine wpList_make_full _ rfl _ _ 23 rfl w.heap.size 43 i0 (.agg #[.int .i64 0, .string ByteArray.empty, .string ByteArray.empty, .slice none 0 0, .slice none 0 0]) 5 Tryz.underlying23 hi hz0 hz1 .i64 .i64 xs.length xs.length xs.length rfl rfl rfl rfl ?b2 ?b3 ?b4 ?_)
  case b2 => rw [hz2]; omega
  case b3 => unfold maxLen; omega
  case b4 => exact Nat.le_refl _
  intro w1 hown1 hgrow1
  have S1 : Seal _ := ⟨itemE.make (e := 43) _ rfl (by decide) hown1 hgrow1 xs⟩
  clear hown1 hgrow1
  go_wp2
  go_loopw [4] (fun i wr => ∃ (k : Nat) (ps : List ItemV), k ≤ xs.length ∧ i = .int .i64 k ∧ ps.length = k ∧ Seal (St w wr (Res.row 43 itemE.size (.slice (some ⟨w.heap.size, 0, none⟩) xs.length xs.length) xs.length (itemE.part (#[.int .i64 0, .string ByteArray.empty, .string ByteArray.empty, .slice none 0 0, .slice none 0 0] : Array Value).toList (xs.take k) ps (xs.length - k)) :: (itemE.ress (xs.take k) ps ++ [])))) (fun i _ => xs.length - (intOf i).toNat)
  case atStart => exact ⟨0, [], Nat.zero_le _, rfl, rfl, S1⟩
  case round =>
    obtain ⟨k, ps, hk, rfl, hps, S⟩ := hrel
    clear S1
    by_cases hlt : k < xs.length
    · obtain ⟨x, hx⟩ : ∃ x, xs[k]? = some x := ⟨_, List.getElem?_eq_getElem hlt⟩
      obtain ⟨b, off, p, rfl, c0, c1, c2, c3, c4, ha⟩ := itemAt (HR.out.below itemP_stays S.out.below (Nat.le_refl _)) hx
      have HX : Seal _ := ⟨hx⟩
      have HP : Seal _ := ⟨hps⟩
      have HA : Seal _ := ⟨ha⟩
      have HZX : Seal _ := ⟨HZ.out x (List.mem_of_getElem? hx)⟩
      clear hx hps ha
      go_wp2_with fail
      refine (toItem_any x p _ HA.out HZX.out).mono ?_
      rintro e w2 ⟨q, rfl, k2⟩
      have ho := S.out.later k2.below |>.head
      obtain ⟨v0, e0⟩ : ∃ v, w2.cell? ⟨w.heap.size, k * 5, none⟩ = some v := row_cell ho (k * 5) (by show k * 5 < xs.length * 5; omega)
      obtain ⟨v1, e1⟩ : ∃ v, w2.cell? ⟨w.heap.size, k * 5 + 1, none⟩ = some v := row_cell ho (k * 5 + 1) (by show k * 5 + 1 < xs.length * 5; omega)
      obtain ⟨v2, e2⟩ : ∃ v, w2.cell? ⟨w.heap.size, k * 5 + 2, none⟩ = some v := row_cell ho (k * 5 + 2) (by show k * 5 + 2 < xs.length * 5; omega)
      obtain ⟨v3, e3⟩ : ∃ v, w2.cell? ⟨w.heap.size, k * 5 + 3, none⟩ = some v := row_cell ho (k * 5 + 3) (by show k * 5 + 3 < xs.length * 5; omega)
      obtain ⟨v4, e4⟩ : ∃ v, w2.cell? ⟨w.heap.size, k * 5 + 4, none⟩ = some v := row_cell ho (k * 5 + 4) (by show k * 5 + 4 < xs.length * 5; omega)
      have f0 := World.ownsRow.frozenAt ho (k * 5)
      have f1 := World.ownsRow.frozenAt ho (k * 5 + 1)
      have f2 := World.ownsRow.frozenAt ho (k * 5 + 2)
      have f3 := World.ownsRow.frozenAt ho (k * 5 + 3)
      have f4 := World.ownsRow.frozenAt ho (k * 5 + 4)
      have S2 : Seal (St w (((((w2.setCell ⟨w.heap.size, k * 5, none⟩ (.int .i64 x.id)).setCell ⟨w.heap.size, k * 5 + 1, none⟩ (.string x.fu)).setCell ⟨w.heap.size, k * 5 + 2, none⟩ (.string x.fd)).setCell ⟨w.heap.size, k * 5 + 3, none⟩ (.slice q.a1 x.rc.length q.c1)).setCell ⟨w.heap.size, k * 5 + 4, none⟩ (.slice q.a2 x.body.length q.c2)) _) := ⟨itemE.next (p := q) rfl HP.out HX.out S.out k2⟩
      clear ho k2 S c0 c1 c2 c3 c4
      go_wp2
      go_roundw
      case rel => exact ⟨k + 1, ps ++ [q], by omega, by go_num, by simp [HP.out], S2⟩
      case measure => simp [intOf]; omega
    · obtain rfl : k = xs.length := by omega
      have S2 : Seal _ := ⟨itemE.done S.out⟩
      go_wp2
      go_ret
      exact ⟨_, _, rfl, ps, hps, S2.out⟩

set_option maxHeartbeats 1600000 in
set_option maxRecDepth 100000 in
theorem toSpool_any (s : SpoolD) (ao : Option Addr) (cap : Nat) (w : World) (hat : ItemRow w ao s.items) (hz : spoolN s ≤ 1048576) :
    Calls Tryz.prog 41 #[.agg (spoolV s ao cap)] w fun e w' => ∃ bo c ps, e = .returned (.agg (spoolV s bo c)) ∧ ps.length = s.items.length ∧ St w w' (itemsR bo c s.items ps) := by
  obtain ⟨z1, z2⟩ := spoolN_parts hz
  have HZ : Seal _ := ⟨z2⟩
  have HA : Seal _ := ⟨hat⟩
  have s0 := (((St.start w).alloc (spoolV s ao cap) 62).alloc #[.int .i64 0, .slice none 0 0] 25).alloc #[.int .i64 s.last, .slice none 0 0] 25
  simp only [World.size_alloc] at s0
  have S0 : Seal _ := ⟨s0⟩
  clear s0 hat hz z2
  go_enter Tryz.func41, Tryz.ntmps41
  go_wp2_with fail
  refine (toItemS_any ao cap s.items _ (HA.out.below itemP_stays S0.out.below (Nat.le_refl _)) z1 HZ.out).mono ?_
  rintro e w1 ⟨bo, c, ps, rfl, hps, k1⟩
  have s1 := S0.out.join k1
  have s2 := s1.swap
  have P1 := s2.head
  have o1 := P1.c 1 _ rfl
  have f1 := P1.f 1 (by simp)
  have u0 := P1.c 0 _ rfl
  have R1 := s2.two.head
  have r0 := R1.c 0 _ rfl
  have r1 := R1.c 1 _ rfl
  have h0 := R1.f 0 (by simp)
  have h1 := R1.f 1 (by simp)
  have hn : w.heap.size + 1 + 1 ≠ w.heap.size + 1 := by omega
  have S2 : Seal _ := ⟨s2.set 1 (.slice bo s.items.length c) (by simp)⟩
  have HP : Seal _ := ⟨hps⟩
  clear P1 R1 k1 s1 s2 S0 hps
  go_wp2
  refine bodyPost_ret (v := .agg (spoolV s bo c)) (by simp [results, Tryz.results41, go_sem, r0, r1]) rfl ⟨bo, c, ps, rfl, HP.out, ?_⟩
  have s4 := (S2.out.two.set 0 (.int .i64 s.last) (by simp)).set 1 (.slice bo s.items.length c) (by simp)
  exact s4.tail.tail.tail
end Go.Proofs.YtcaknjdolfheaaaGreatDoor
namespace Go.Proofs.YtcaknjdolfheaaaGreatDoor
open Go Go.RowKit

set_option maxRecDepth 100000 in
theorem eqRcpt_same (x : RcptD) (w : World) :
    Calls Tryz.prog 231 #[.agg (rcptV x), .agg (rcptV x)] w fun e w' => e = .returned (.bool true) ∧ Below w.heap.size w w' := by
  have s0 := ((St.start w).alloc (rcptV x) 105).alloc (rcptV x) 105
  simp only [World.size_alloc] at s0
  have S0 : Seal _ := ⟨s0⟩
  have q1 : (x.tries != x.tries) = false := by simp
  have q2 : (x.next != x.next) = false := by simp
  clear s0
  go_enter Tryz.func231, Tryz.ntmps231
  go_wp2_with fail
  refine (eqAddr_same x.u x.d _).mono ?_
  rintro e w1 ⟨rfl, hb1⟩
  have S1 : Seal _ := ⟨S0.out.later hb1⟩
  have A1 := S1.out.head
  have B1 := S1.out.two.head
  have a2 := A1.c 2 _ rfl
  have a3 := A1.c 3 _ rfl
  have b2 := B1.c 2 _ rfl
  have b3 := B1.c 3 _ rfl
  clear A1 B1 hb1 S0
  go_wp2
  go_ret
  exact ⟨rfl, S1.out.below⟩

set_option maxHeartbeats 3200000 in
set_option maxRecDepth 100000 in
theorem eqRcptS_same (ao bo : Option Addr) (c1 c2 : Nat) (xs : List RcptD) (w : World) (ha : RcptRow w ao xs) (hb : RcptRow w bo xs) (hl : xs.length ≤ 1048576) :
    Calls Tryz.prog 211 #[.slice ao xs.length c1, .slice bo xs.length c2] w fun e w' => e = .returned (.bool true) ∧ Below w.heap.size w w' := by
  have HA : Seal _ := ⟨ha⟩
  have HB : Seal _ := ⟨hb⟩
  clear ha hb
  go_enter Tryz.func211, Tryz.ntmps211
  go_wp2
  go_loopw [5] (fun i wr => ∃ k : Nat, k ≤ xs.length ∧ i = .int .i64 k ∧ Seal (Below w.heap.size w wr)) (fun i _ => xs.length - (intOf i).toNat)
  case atStart => exact ⟨0, Nat.zero_le _, rfl, ⟨Below.refl _ _⟩⟩
  case round =>
    obtain ⟨k, hk, rfl, hbe⟩ := hrel
    by_cases hlt : k < xs.length
    · obtain ⟨x, hx⟩ : ∃ x, xs[k]? = some x := ⟨_, List.getElem?_eq_getElem hlt⟩
      obtain ⟨b, off, rfl, c0, c1, c2, c3⟩ := rcptAt (HA.out.below rcptP_stays hbe.out (Nat.le_refl _)) hx
      obtain ⟨b', off', rfl, d0, d1, d2, d3⟩ := rcptAt (HB.out.below rcptP_stays hbe.out (Nat.le_refl _)) hx
      clear hx
      go_wp2_with fail
      go_region_held3 (fun w' => w'.cell? ⟨b, off + k * 4, none⟩ = some (.string x.u) ∧ w'.cell? ⟨b, off + k * 4 + 1, none⟩ = some (.string x.d) ∧ w'.cell? ⟨b, off + k * 4 + 2, none⟩ = some (.int .i64 x.tries) ∧ w'.cell? ⟨b, off + k * 4 + 3, none⟩ = some (.int .i64 x.next) ∧ w'.cell? ⟨b', off' + k * 4, none⟩ = some (.string x.u) ∧ w'.cell? ⟨b', off' + k * 4 + 1, none⟩ = some (.string x.d) ∧ w'.cell? ⟨b', off' + k * 4 + 2, none⟩ = some (.int .i64 x.tries) ∧ w'.cell? ⟨b', off' + k * 4 + 3, none⟩ = some (.int .i64 x.next) ∧ Below wr.heap.size wr w') (first | exact ⟨c0, c1, c2, c3, d0, d1, d2, d3, (Below.refl _ _).drew⟩ | (go_split_ands; exact ⟨heldc (by assumption) hb1, heldc (by assumption) hb1, heldc (by assumption) hb1, heldc (by assumption) hb1, heldc (by assumption) hb1, heldc (by assumption) hb1, heldc (by assumption) hb1, heldc (by assumption) hb1, (by assumption : Below wr.heap.size wr _).trans (hb1.mono (by assumption : Below wr.heap.size wr _).size)⟩) | (go_split_ands; exact ⟨by assumption, by assumption, by assumption, by assumption, by assumption, by assumption, by assumption, by assumption, Below.drew (by assumption)⟩) | (go_split_ands; exact ⟨by assumption, by assumption, by assumption, by assumption, by assumption, by assumption, by assumption, by assumption, by assumption⟩)) (first | (go_at_call 231; refine (eqRcpt_same x _).mono ?_; rintro e w1 ⟨rfl, hb1⟩))
      go_split_ands
      have hbx := (by assumption : Below wr.heap.size wr _)
      go_wp2
      go_roundw
      case rel => exact ⟨k + 1, by omega, by go_num, ⟨hbe.out.trans (hbx.mono hbe.out.size)⟩⟩
      case measure => simp [intOf]; omega
    · go_wp2
      go_ret
      exact ⟨rfl, hbe.out⟩

set_option maxHeartbeats 1600000 in
set_option maxRecDepth 100000 in
theorem eqItem_same (x : ItemD) (p q : ItemV) (w : World) (ha : ItemAt w x p) (hb : ItemAt w x q) (h1 : x.rc.length ≤ 1048576) (h2 : x.body.length ≤ 1048576) :
    Calls Tryz.prog 171 #[.agg (itemV x p), .agg (itemV x q)] w fun e w' => e = .returned (.bool true) ∧ Below w.heap.size w w' := by
  have HA : Seal _ := ⟨ha⟩
  have HB : Seal _ := ⟨hb⟩
  have s0 := ((St.start w).alloc (itemV x p) 43).alloc (itemV x q) 43
  simp only [World.size_alloc] at s0
  have S0 : Seal _ := ⟨s0⟩
  have q1 : (x.id != x.id) = false := by simp
  clear s0 ha hb
  go_enter Tryz.func171, Tryz.ntmps171
  go_wp2_with fail
  refine (eqAddr_same x.fu x.fd _).mono ?_
  rintro e w1 ⟨rfl, hb1⟩
  have S1 : Seal _ := ⟨S0.out.later hb1⟩
  have b3 := S1.out.head.c 3 _ rfl
  have a3 := S1.out.two.head.c 3 _ rfl
  clear hb1 S0
  go_wp2_with fail
  refine (eqRcptS_same p.a1 q.a1 p.c1 q.c1 x.rc _ (HA.out.rc.below rcptP_stays S1.out.below (Nat.le_refl _)) (HB.out.rc.below rcptP_stays S1.out.below (Nat.le_refl _)) h1).mono ?_
  rintro e w2 ⟨rfl, hb2⟩
  have S2 : Seal _ := ⟨S1.out.later hb2⟩
  have b4 := S2.out.head.c 4 _ rfl
  have a4 := S2.out.two.head.c 4 _ rfl
  clear hb2 S1 a3 b3
  go_wp2_with fail
  refine (eqStringS_same p.a2 q.a2 p.c2 q.c2 x.body _ (HA.out.body.below S2.out.below (Nat.le_refl _)) (HB.out.body.below S2.out.below (Nat.le_refl _)) h2).mono ?_
  rintro e w3 ⟨rfl, n, rfl⟩
  go_wp2
  go_ret
  exact ⟨rfl, drewN_below S2.out.below n⟩

set_option maxHeartbeats 3200000 in
set_option maxRecDepth 100000 in
theorem eqItemS_same (ao bo : Option Addr) (c1 c2 : Nat) (xs : List ItemD) (w : World) (ha : ItemRow w ao xs) (hb : ItemRow w bo xs) (hl : xs.length ≤ 1048576) (hz : ∀ x ∈ xs, itemN x ≤ 1048576) :
    Calls Tryz.prog 101 #[.slice ao xs.length c1, .slice bo xs.length c2] w fun e w' => e = .returned (.bool true) ∧ Below w.heap.size w w' := by
  have HA : Seal _ := ⟨ha⟩
  have HB : Seal _ := ⟨hb⟩
  have HZ : Seal _ := ⟨hz⟩
  clear ha hb hz
  go_enter Tryz.func101, Tryz.ntmps101
  go_wp2
  go_loopw [5] (fun i wr => ∃ k : Nat, k ≤ xs.length ∧ i = .int .i64 k ∧ Seal (Below w.heap.size w wr)) (fun i _ => xs.length - (intOf i).toNat)
  case atStart => exact ⟨0, Nat.zero_le _, rfl, ⟨Below.refl _ _⟩⟩
  case round =>
    obtain ⟨k, hk, rfl, hbe⟩ := hrel
    by_cases hlt : k < xs.length
    · obtain ⟨x, hx⟩ : ∃ x, xs[k]? = some x := ⟨_, List.getElem?_eq_getElem hlt⟩
      obtain ⟨b, off, p, rfl, c0, c1, c2, c3, c4, ia⟩ := itemAt (HA.out.below itemP_stays hbe.out (Nat.le_refl _)) hx
      obtain ⟨b', off', q, rfl, d0, d1, d2, d3, d4, ib⟩ := itemAt (HB.out.below itemP_stays hbe.out (Nat.le_refl _)) hx
      obtain ⟨_, _, z3, _, z5, _⟩ := itemN_parts (HZ.out x (List.mem_of_getElem? hx))
      have IA : Seal _ := ⟨ia⟩
      have IB : Seal _ := ⟨ib⟩
      clear hx ia ib
      go_wp2_with fail
      go_region_held3 (fun w' => w'.cell? ⟨b, off + k * 5, none⟩ = some (.int .i64 x.id) ∧ w'.cell? ⟨b, off + k * 5 + 1, none⟩ = some (.string x.fu) ∧ w'.cell? ⟨b, off + k * 5 + 2, none⟩ = some (.string x.fd) ∧ w'.cell? ⟨b, off + k * 5 + 3, none⟩ = some (.slice p.a1 x.rc.length p.c1) ∧ w'.cell? ⟨b, off + k * 5 + 4, none⟩ = some (.slice p.a2 x.body.length p.c2) ∧ w'.cell? ⟨b', off' + k * 5, none⟩ = some (.int .i64 x.id) ∧ w'.cell? ⟨b', off' + k * 5 + 1, none⟩ = some (.string x.fu) ∧ w'.cell? ⟨b', off' + k * 5 + 2, none⟩ = some (.string x.fd) ∧ w'.cell? ⟨b', off' + k * 5 + 3, none⟩ = some (.slice q.a1 x.rc.length q.c1) ∧ w'.cell? ⟨b', off' + k * 5 + 4, none⟩ = some (.slice q.a2 x.body.length q.c2) ∧ Below wr.heap.size wr w') (first | exact ⟨c0, c1, c2, c3, c4, d0, d1, d2, d3, d4, (Below.refl _ _).drew⟩ | (go_split_ands; exact ⟨heldc (by assumption) hb1, heldc (by assumption) hb1, heldc (by assumption) hb1, heldc (by assumption) hb1, heldc (by assumption) hb1, heldc (by assumption) hb1, heldc (by assumption) hb1, heldc (by assumption) hb1, heldc (by assumption) hb1, heldc (by assumption) hb1, (by assumption : Below wr.heap.size wr _).trans (hb1.mono (by assumption : Below wr.heap.size wr _).size)⟩) | (go_split_ands; exact ⟨by assumption, by assumption, by assumption, by assumption, by assumption, by assumption, by assumption, by assumption, by assumption, by assumption, Below.drew (by assumption)⟩) | (go_split_ands; exact ⟨by assumption, by assumption, by assumption, by assumption, by assumption, by assumption, by assumption, by assumption, by assumption, by assumption, by assumption⟩)) (first | (go_at_call 171; go_split_ands; refine (eqItem_same x p q _ (IA.out.later (by assumption : Below wr.heap.size wr _)) (IB.out.later (by assumption : Below wr.heap.size wr _)) z3 z5).mono ?_; rintro e w1 ⟨rfl, hb1⟩))
      go_split_ands
      have hbx := (by assumption : Below wr.heap.size wr _)
      go_wp2
      go_roundw
      case rel => exact ⟨k + 1, by omega, by go_num, ⟨hbe.out.trans (hbx.mono hbe.out.size)⟩⟩
      case measure => simp [intOf]; omega
    · go_wp2
      go_ret
      exact ⟨rfl, hbe.out⟩

set_option maxRecDepth 100000 in
theorem eqSpool_same (s : SpoolD) (ao bo : Option Addr) (c1 c2 : Nat) (w : World) (ha : ItemRow w ao s.items) (hb : ItemRow w bo s.items) (hz : spoolN s ≤ 1048576) :
    Calls Tryz.prog 43 #[.agg (spoolV s ao c1), .agg (spoolV s bo c2)] w fun e w' => e = .returned (.bool true) ∧ Below w.heap.size w w' := by
  obtain ⟨z1, z2⟩ := spoolN_parts hz
  have HZ : Seal _ := ⟨z2⟩
  have HA : Seal _ := ⟨ha⟩
  have HB : Seal _ := ⟨hb⟩
  have s0 := ((St.start w).alloc (spoolV s ao c1) 25).alloc (spoolV s bo c2) 25
  simp only [World.size_alloc] at s0
  have S0 : Seal _ := ⟨s0⟩
  have q1 : (s.last != s.last) = false := by simp
  clear s0 ha hb hz z2
  go_enter Tryz.func43, Tryz.ntmps43
  go_wp2_with fail
  refine (eqItemS_same ao bo c1 c2 s.items _ (HA.out.below itemP_stays S0.out.below (Nat.le_refl _)) (HB.out.below itemP_stays S0.out.below (Nat.le_refl _)) z1 HZ.out).mono ?_
  rintro e w1 ⟨rfl, hb1⟩
  have S1 : Seal _ := ⟨S0.out.later hb1⟩
  clear hb1 S0
  go_wp2
  go_ret
  exact ⟨rfl, S1.out.below⟩
end Go.Proofs.YtcaknjdolfheaaaGreatDoor
