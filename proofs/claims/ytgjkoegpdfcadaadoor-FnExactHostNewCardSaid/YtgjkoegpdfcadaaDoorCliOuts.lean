/- Contracts: a client's state cloned, settled; what became of each, of the model and of the program. -/
import Derived.Test.YtgjkoegpdfcadaaDoorClone
import Derived.Test.YtgjkoegpdfcadaaDoorCliOk
namespace Go.Proofs.YtgjkoegpdfcadaaDoor
open Go Go.RowKit

def setZ (x : Int) : Int := if x = 0 ∨ x = 1 then 3 else x
def setR (xs : List Int) : List Int := xs.map setZ
theorem setR_len (xs : List Int) : (setR xs).length = xs.length := by simp [setR]
theorem setR_snoc {xs : List Int} {k : Nat} {x : Int} (hx : xs[k]? = some x) : (setR (xs.take (k + 1))).map (Value.int .i64) = (setR (xs.take k)).map (Value.int .i64) ++ [.int .i64 (setZ x)] := by
  obtain ⟨hk, e⟩ := List.getElem?_eq_some_iff.1 hx
  unfold setR
  rw [List.take_succ_eq_append_getElem hk, e]; simp
def outsR (c : CliD) : List Int := if cliB c then setR c.outs else []
theorem IntRow.own {w : World} {B : Nat} {e : TypeId} {ao : Option Addr} {cap : Nat} {xs : List Int} (h : w.ownsRow B e 1 (.slice ao xs.length cap) xs.length (xs.map (Value.int .i64))) : IntRow w ao xs := IntRow.of_own h

set_option maxHeartbeats 3200000 in
set_option maxRecDepth 100000 in
theorem cliClone_any (B : Nat) (c : CliD) (a1 : Option Addr) (c1 : Nat) (a2 : Option Addr) (c2 : Nat) (a3 : Option Addr) (c3 : Nat) (w : World) (ho : CliOwn w B c a1 c1 a2 c2 a3 c3) (hsz : CliSz 1048576 c) :
    Calls Tryd.prog 89 #[.agg (cliV c a1 c1 a2 c2 a3 c3)] w fun e w' => ∃ b1 d1 b2 d2 b3 d3, e = .returned (.agg (cliV c b1 d1 b2 d2 b3 d3)) ∧ CliOwn w' w.heap.size c b1 d1 b2 d2 b3 d3 ∧ Below w.heap.size w w' := by
  have z3 := hsz.outs
  have HS := Lib.hid hsz.m
  have X0 := Lib.hid ((CellsM.new w (cliV c a1 c1 a2 c2 a3 c3) 46).more (.cells #[.string { data := #[] }, .string { data := #[] }, .string { data := #[] }, .slice none 0 0, .slice none 0 0, .int .i64 0, .int .i64 0, .slice none 0 0] 46))
  have R0 := Lib.hid (CellsM.new (w.alloc (.cells (cliV c a1 c1 a2 c2 a3 c3) 46)) #[.string { data := #[] }, .string { data := #[] }, .string { data := #[] }, .slice none 0 0, .slice none 0 0, .int .i64 0, .int .i64 0, .slice none 0 0] 46)
  simp only [World.size_alloc] at R0
  have b0 : Below w.heap.size w ((w.alloc (.cells (cliV c a1 c1 a2 c2 a3 c3) 46)).alloc (.cells #[.string { data := #[] }, .string { data := #[] }, .string { data := #[] }, .slice none 0 0, .slice none 0 0, .int .i64 0, .int .i64 0, .slice none 0 0] 46)) := ((Below.refl _ _).alloc (Nat.le_refl _) _).alloc (by simp) _
  have M0 := Lib.hid (ho.m.later b0)
  have I0 := Lib.hid (own_later ho.outs b0)
  have HL : Hid (∀ g, (Value.slice a3 c.outs.length c3).ownBlock = some g → g < w.heap.size) := Lib.hid fun g e => (World.ownsRow.lt ho.outs g e).2
  have HB0 := Lib.hid b0
  clear ho hsz b0
  have hn : w.heap.size ≠ w.heap.size + 1 := by omega
  have hn' : w.heap.size + 1 ≠ w.heap.size := by omega
  go_enter Tryd.func89, Tryd.ntmps89
  go_wp2_with fail
  generalize hW : (w.alloc (.cells (cliV c a1 c1 a2 c2 a3 c3) 46)).alloc (.cells #[.string { data := #[] }, .string { data := #[] }, .string { data := #[] }, .slice none 0 0, .slice none 0 0, .int .i64 0, .int .i64 0, .slice none 0 0] 46) = W at *
  have hs0 : W.heap.size = w.heap.size + 1 + 1 := by rw [← hW]; simp
  clear hW
  refine (mailClone_any B c.m a1 c1 a2 c2 W M0.out HS.out).mono ?_
  rintro e w1 ⟨b1, d1, b2, d2, rfl, o1, hb1⟩
  have hs1 := hb1.size
  have X1 := X0.out.later hb1
  have R1 := Lib.hid (R0.out.later hb1)
  have I1 := Lib.hid (own_later I0.out hb1)
  have B1 := Lib.hid (HB0.out.trans (hb1.mono HB0.out.size))
  have P1 := Lib.hid o1
  have q0 := X1.c 0 _ rfl
  have f0 := X1.f 0 (by simp)
  have q1 := X1.c 1 _ rfl
  have f1 := X1.f 1 (by simp)
  have q2 := X1.c 2 _ rfl
  have f2 := X1.f 2 (by simp)
  have q3 := X1.c 3 _ rfl
  have f3 := X1.f 3 (by simp)
  have q4 := X1.c 4 _ rfl
  have f4 := X1.f 4 (by simp)
  have q5 := X1.c 5 _ rfl
  have f5 := X1.f 5 (by simp)
  have q6 := X1.c 6 _ rfl
  have f6 := X1.f 6 (by simp)
  have q7 := X1.c 7 _ rfl
  have f7 := X1.f 7 (by simp)
  have XH := Lib.hid X1
  clear X1 o1 hb1 X0 R0 I0 HB0 M0
  go_wp2_with fail
  obtain ⟨W2, hW2⟩ : ∃ W2, W2 = (((w1.setCell ⟨w.heap.size, 1, none⟩ (.string c.m.fu)).setCell ⟨w.heap.size, 2, none⟩ (.string c.m.fd)).setCell ⟨w.heap.size, 3, none⟩ (.slice b1 c.m.rc.length d1)).setCell ⟨w.heap.size, 4, none⟩ (.slice b2 c.m.body.length d2) := ⟨_, rfl⟩
  have X2 : Hid (CellsM W2 w.heap.size [.string c.nm, .string c.m.fu, .string c.m.fd, .slice b1 c.m.rc.length d1, .slice b2 c.m.body.length d2, .int .i64 c.st, .int .i64 c.pos, .slice a3 c.outs.length c3]) := Lib.hid (by
    rw [hW2]
    exact (((XH.out.set 1 _ (by simp)).set 2 _ (by simp)).set 3 _ (by simp)).set 4 _ (by simp))
  have R2 : Hid (CellsM W2 (w.heap.size + 1) [.string { data := #[] }, .string { data := #[] }, .string { data := #[] }, .slice none 0 0, .slice none 0 0, .int .i64 0, .int .i64 0, .slice none 0 0]) := Lib.hid (by
    rw [hW2]
    exact (((R1.out.far _ hn).far _ hn).far _ hn).far _ hn)
  have I2 : Hid (W2.ownsRow B 3 1 (.slice a3 c.outs.length c3) c.outs.length (c.outs.map (Value.int .i64))) := Lib.hid (by
    rw [hW2]
    iterate 4 (refine own_away ?_ _ (fun g e => by have := HL.out g e; omega))
    exact I1.out)
  have B2 : Hid (Below w.heap.size w W2) := Lib.hid (by
    rw [hW2]
    iterate 4 (refine Below.setCell ?_ (by simp) _)
    exact B1.out)
  have P2 : Hid (MailOwn W2 (w.heap.size + 1 + 1) c.m b1 d1 b2 d2) := Lib.hid (by
    rw [hW2]
    iterate 4 (refine MailOwn.low ?_ (by omega) _ _)
    exact P1.out.base (by omega))
  have hs2 : w.heap.size + 1 + 1 ≤ W2.heap.size := by rw [hW2]; simp; omega
  rw [← hW2]
  clear hW2 XH R1 B1 P1 I1 q0 f0 q1 f1 q2 f2 q3 f3 q4 f4 q5 f5 q6 f6 q7 f7
  refine (cloneInts_any B a3 c3 c.outs W2 I2.out z3).mono ?_
  rintro e w3 ⟨b3, d3, rfl, ow3, hb3⟩
  have X3 := X2.out.later hb3
  have R3 := R2.out.later hb3
  have P3 := Lib.hid (P2.out.later hb3)
  have B3 := Lib.hid (B2.out.trans (hb3.mono B2.out.size))
  have I3 := Lib.hid (ownsRow_base ow3 hs2)
  have q0 := X3.c 0 _ rfl
  have q1 := X3.c 1 _ rfl
  have q2 := X3.c 2 _ rfl
  have q3 := X3.c 3 _ rfl
  have q4 := X3.c 4 _ rfl
  have q5 := X3.c 5 _ rfl
  have q6 := X3.c 6 _ rfl
  have q7 := X3.c 7 _ rfl
  have f7 := X3.f 7 (by simp)
  have r0 := R3.c 0 _ rfl
  have s0 := R3.f 0 (by simp)
  have r1 := R3.c 1 _ rfl
  have s1 := R3.f 1 (by simp)
  have r2 := R3.c 2 _ rfl
  have s2 := R3.f 2 (by simp)
  have r3 := R3.c 3 _ rfl
  have s3 := R3.f 3 (by simp)
  have r4 := R3.c 4 _ rfl
  have s4 := R3.f 4 (by simp)
  have r5 := R3.c 5 _ rfl
  have s5 := R3.f 5 (by simp)
  have r6 := R3.c 6 _ rfl
  have s6 := R3.f 6 (by simp)
  have r7 := R3.c 7 _ rfl
  have s7 := R3.f 7 (by simp)
  clear X3 R3 ow3 hb3 X2 R2 B2 P2 I2
  go_wp2
  refine bodyPost_ret (v := .agg (cliV c b1 d1 b2 d2 b3 d3)) (by simp [results, Tryd.results89, go_sem, r0, r1, r2, r3, r4, r5, r6, r7]) rfl ⟨b1, d1, b2, d2, b3, d3, rfl, ⟨?_, ?_⟩, ?_⟩
  · refine (?_ : MailOwn _ (w.heap.size + 1 + 1) c.m b1 d1 b2 d2).base (by omega)
    iterate 9 (refine MailOwn.low ?_ (by omega) _ _)
    exact P3.out
  · refine ownsRow_base (B := w.heap.size + 1 + 1) ?_ (by omega)
    iterate 9 (refine own_low ?_ (by omega) _)
    exact I3.out
  · iterate 9 (refine Below.setCell ?_ (by simp) _)
    exact B3.out

theorem int_one_new (w : World) (n : Int) (t : TypeId) : ∀ (j : Nat) (u : Value), ([.int .i64 n] : List Value)[j]? = some u → (w.alloc (.cells #[.int .i64 n] t)).cell? ((⟨w.heap.size, 0, none⟩ : Addr).add j) = some u := by
  intro j u hu
  match j with
  | 0 => simp at hu; subst hu; simp [Addr.add, go_sem]
  | j + 1 => simp at hu
theorem settle_set (xs : List Int) (k : Nat) (x : Int) (hx : xs[k]? = some x) : (((xs.take k).map setZ ++ xs.drop k).map (Value.int .i64)).set k (.int .i64 (setZ x)) = ((xs.take (k + 1)).map setZ ++ xs.drop (k + 1)).map (Value.int .i64) := by
  obtain ⟨hk, e⟩ := List.getElem?_eq_some_iff.1 hx
  rw [List.take_succ_eq_append_getElem hk, List.drop_eq_getElem_cons hk, e]
  simp only [List.map_append, List.map_cons, List.map_nil]
  rw [List.set_append_right _ _ (by simp; omega), List.append_assoc]
  congr 1
  rw [show k - ((List.map (Value.int IntKind.i64) (List.map setZ (xs.take k))).length) = 0 by simp; omega]
  rfl
theorem settle_get (xs : List Int) (k : Nat) (x : Int) (hx : xs[k]? = some x) : (((xs.take k).map setZ ++ xs.drop k).map (Value.int .i64))[k]? = some (.int .i64 x) := by
  obtain ⟨hk, e⟩ := List.getElem?_eq_some_iff.1 hx
  rw [List.getElem?_map, List.getElem?_append_right (by simp; omega)]
  simp only [List.length_map, List.length_take]
  rw [show k - min k xs.length = 0 by omega, List.getElem?_drop, Nat.add_zero, hx]
  rfl

set_option maxHeartbeats 1600000 in
set_option maxRecDepth 100000 in
theorem settle_any (B K : Nat) (c : CliD) (a1 : Option Addr) (c1 : Nat) (a2 : Option Addr) (c2 : Nat) (a3 : Option Addr) (c3 : Nat) (w : World) (hk : CellsM w K (cliV c a1 c1 a2 c2 a3 c3).toList) (ho : w.ownsRow B 3 1 (.slice a3 c.outs.length c3) c.outs.length (c.outs.map (Value.int .i64))) (hne : ∀ g, a3 = some ⟨g, 0, none⟩ → g ≠ K) (hl : c.outs.length ≤ 1048576) :
    Calls Tryd.prog 90 #[.pointer (some ⟨K, 0, none⟩), .int .i64 3] w fun e w' => e = .returned (.tuple #[]) ∧ w'.ownsRow B 3 1 (.slice a3 c.outs.length c3) c.outs.length ((setR c.outs).map (Value.int .i64)) ∧ w.grownBy w' (Value.slice a3 c.outs.length c3).ownBlock := by
  have q7 := hk.c 7 _ rfl
  have HK := Lib.hid hk
  clear hk
  rcases own_split ho with ⟨rfl, h0, rfl⟩ | ⟨g, rfl⟩
  · have hx : c.outs = [] := List.eq_nil_of_length_eq_zero h0
    rw [h0] at q7
    have HO := Lib.hid ho
    clear ho hne
    go_enter Tryd.func90, Tryd.ntmps90
    go_wp2
    go_loop [11] (fun i => i = .int .i64 0) (fun _ => 0)
    case atStart => rfl
    case round =>
      obtain rfl := hrel
      go_wp2
      go_end0
      exact ⟨rfl, by simpa [hx, setR] using HO.out, World.grownBy.refl _ _⟩
  · have hgK := hne g rfl
    have G0 : w.grownBy w (some g) := ⟨rfl, rfl, rfl, Nat.le_refl _, fun _ _ _ => rfl⟩
    go_enter Tryd.func90, Tryd.ntmps90
    go_wp2
    go_loopw [11] (fun i wr => ∃ k : Nat, k ≤ c.outs.length ∧ i = .int .i64 k ∧ wr.ownsRow B 3 1 (.slice (some ⟨g, 0, none⟩) c.outs.length c3) c.outs.length (((c.outs.take k).map setZ ++ c.outs.drop k).map (Value.int .i64)) ∧ Hid (w.grownBy wr (some g))) (fun i _ => c.outs.length - (intOf i).toNat)
    case atStart => exact ⟨0, Nat.zero_le _, rfl, by simpa using ho, Lib.hid G0⟩
    case round =>
      obtain ⟨k, hkl, rfl, hown, HG⟩ := hrel
      have KX := HK.out.kept HG.out (fun e => hgK (Option.some.inj e))
      have q7' := KX.c 7 _ rfl
      clear KX ho
      by_cases hlt : k < c.outs.length
      · obtain ⟨x, hx⟩ : ∃ x, c.outs[k]? = some x := ⟨_, List.getElem?_eq_getElem hlt⟩
        have e1 := (hown.cellAt k (by omega)).trans (settle_get c.outs k x hx)
        have f1 := hown.frozenAt k
        have s1 := (hown.stored k (.int .i64 (setZ x))).1
        rw [settle_set c.outs k x hx] at s1
        have G2 : Hid (w.grownBy (wr.setCell ⟨g, k, none⟩ (.int .i64 (setZ x))) (some g)) := Lib.hid ⟨HG.out.os, HG.out.tape, HG.out.output, by simpa using HG.out.size, fun i hi hn => (heap_setCell_other wr ⟨g, k, none⟩ i _ (fun e => hn (by simp [e]))).trans (HG.out.block i hi hn)⟩
        by_cases h0 : x = 0
        · subst h0
          have hz : setZ 0 = 3 := rfl
          rw [hz] at s1 G2
          clear hx
          go_wp2
          go_roundw
          case rel => exact ⟨k + 1, by omega, by go_num, s1, G2⟩
          case measure => simp [intOf]; omega
        · by_cases h1 : x = 1
          · subst h1
            have hz : setZ 1 = 3 := rfl
            rw [hz] at s1 G2
            clear hx
            go_wp2
            go_roundw
            case rel => exact ⟨k + 1, by omega, by go_num, s1, G2⟩
            case measure => simp [intOf]; omega
          · have hz : setZ x = x := by unfold setZ; rw [if_neg (by omega)]
            have b0 : (x == 0) = false := by rw [beq_eq_false_iff_ne]; exact h0
            have b1 : (x == 1) = false := by rw [beq_eq_false_iff_ne]; exact h1
            have hsame : ((c.outs.take (k + 1)).map setZ ++ c.outs.drop (k + 1)).map (Value.int .i64) = ((c.outs.take k).map setZ ++ c.outs.drop k).map (Value.int .i64) := by
              rw [← settle_set c.outs k x hx, hz]
              apply List.ext_getElem?
              intro j
              by_cases hj : j = k
              · subst hj
                rw [List.getElem?_set_self (by simp; omega), settle_get c.outs j x hx]
              · rw [List.getElem?_set_ne (Ne.symm hj)]
            have hown2 := hown
            rw [← hsame] at hown2
            clear hx s1 G2 hown hsame
            go_wp2
            go_roundw
            case rel => exact ⟨k + 1, by omega, by go_num, hown2, HG⟩
            case measure => simp [intOf]; omega
      · obtain rfl : k = c.outs.length := by omega
        have hend : ((c.outs.take c.outs.length).map setZ ++ c.outs.drop c.outs.length) = setR c.outs := by simp [setR]
        rw [hend] at hown
        go_wp2
        go_end0
        exact ⟨rfl, hown, HG.out⟩

set_option maxHeartbeats 1600000 in
set_option maxRecDepth 100000 in
theorem implCliOuts_any (B : Nat) (c : CliD) (a1 : Option Addr) (c1 : Nat) (a2 : Option Addr) (c2 : Nat) (a3 : Option Addr) (c3 : Nat) (w : World) (hm : HasMax w) (ho : CliOwn w B c a1 c1 a2 c2 a3 c3) (hsz : CliSz 1048576 c) :
    Calls Tryd.prog 27 #[.agg (cliV c a1 c1 a2 c2 a3 c3)] w fun e w' => ∃ bo d, e = .returned (.slice bo (outsR c).length d) ∧ w'.ownsRow w.heap.size 3 1 (.slice bo (outsR c).length d) (outsR c).length ((outsR c).map (Value.int .i64)) ∧ Below w.heap.size w w' := by
  have b0 : Below w.heap.size w (w.alloc (.cells (cliV c a1 c1 a2 c2 a3 c3) 46)) := (Below.refl _ _).alloc (Nat.le_refl _) _
  have K0 := Lib.hid (CellsM.new w (cliV c a1 c1 a2 c2 a3 c3) 46)
  have O0 : Hid (CliOwn (w.alloc (.cells (cliV c a1 c1 a2 c2 a3 c3) 46)) B c a1 c1 a2 c2 a3 c3) := Lib.hid ⟨ho.m.later b0, own_later ho.outs b0⟩
  have HM := Lib.hid (hm.below b0 (Nat.le_refl _))
  have HS := Lib.hid hsz
  have hcap := ho.m.rc.cap
  have HB0 := Lib.hid b0
  have hs0 : (w.alloc (.cells (cliV c a1 c1 a2 c2 a3 c3) 46)).heap.size = w.heap.size + 1 := by simp
  obtain ⟨v, hv⟩ : ∃ v, cliB c = v := ⟨_, rfl⟩
  have HV := Lib.hid hv
  clear hm ho hsz b0 hv
  go_enter Tryd.func27, Tryd.ntmps27
  go_wp2_with fail
  generalize w.alloc (.cells (cliV c a1 c1 a2 c2 a3 c3) 46) = W at *
  refine (implCliOk_any c a1 c1 a2 c2 a3 c3 W HM.out O0.out.at HS.out hcap).mono ?_
  rintro e w1 ⟨rfl, hb1⟩
  rw [HV.out]
  have hs1 := hb1.size
  have K1 := K0.out.later hb1
  have O1 : Hid (CliOwn w1 B c a1 c1 a2 c2 a3 c3) := Lib.hid ⟨O0.out.m.later hb1, own_later O0.out.outs hb1⟩
  have B1 := Lib.hid (HB0.out.trans (hb1.mono HB0.out.size))
  have q0 := K1.c 0 _ rfl
  have q1 := K1.c 1 _ rfl
  have q2 := K1.c 2 _ rfl
  have q3 := K1.c 3 _ rfl
  have q4 := K1.c 4 _ rfl
  have q5 := K1.c 5 _ rfl
  have q6 := K1.c 6 _ rfl
  have q7 := K1.c 7 _ rfl
  clear K1 hb1 K0 O0 HM HB0
  cases v
  · have hq : outsR c = [] := by unfold outsR; rw [HV.out]; rfl
    go_wp2
    go_ret
    exact ⟨none, 0, by rw [hq]; rfl, by rw [hq]; exact World.ownsRow_nil _ _ _ _, B1.out⟩
  · have hq : outsR c = setR c.outs := by unfold outsR; rw [HV.out]; rfl
    go_wp2_with fail
    refine (cliClone_any B c a1 c1 a2 c2 a3 c3 w1 O1.out HS.out).mono ?_
    rintro e w2 ⟨b1, d1, b2, d2, b3, d3, rfl, o2, hb2⟩
    have hs2 := hb2.size
    have hlow : ∀ g, (Value.slice b3 c.outs.length d3).ownBlock = some g → w1.heap.size ≤ g ∧ g < w2.heap.size := fun g e => World.ownsRow.lt o2.outs g e
    have ba : Below w2.heap.size w2 (w2.alloc (.cells (cliV c b1 d1 b2 d2 b3 d3) 46)) := (Below.refl _ _).alloc (Nat.le_refl _) _
    have K2 := Lib.hid (CellsM.new w2 (cliV c b1 d1 b2 d2 b3 d3) 46)
    have I2 := Lib.hid (own_later o2.outs ba)
    have B2 := Lib.hid ((B1.out.trans (hb2.mono B1.out.size)).trans (ba.mono (by omega)))
    clear o2 hb2 ba q0 q1 q2 q3 q4 q5 q6 q7 B1 O1
    go_wp2_with fail
    generalize hW2 : w2.alloc (.cells (cliV c b1 d1 b2 d2 b3 d3) 46) = W2 at *
    refine (settle_any w1.heap.size w2.heap.size c b1 d1 b2 d2 b3 d3 W2 K2.out I2.out (fun g e => by have := hlow g (by rw [e]; rfl); omega) HS.out.outs).mono ?_
    rintro e w3 ⟨rfl, ho3, hg3⟩
    have hl2 : w2.heap.size < W2.heap.size := K2.out.lt
    have K3 := K2.out.kept hg3 (fun e => by have := hlow _ e; omega)
    have q7 := K3.c 7 _ rfl
    have B3 : Below w.heap.size w w3 := B2.out.grown hg3 (by omega) (fun k e => by have := hlow k e; omega)
    have O3 := Lib.hid (ownsRow_base ho3 (show w.heap.size ≤ w1.heap.size by omega))
    clear K3 ho3 hg3
    go_wp2
    go_ret
    exact ⟨b3, d3, by rw [hq, setR_len]; rfl, by rw [hq, setR_len]; exact O3.out, B3⟩

set_option maxHeartbeats 1600000 in
set_option maxRecDepth 100000 in
theorem l4Outs_any (c : CliD) (a1 : Option Addr) (c1 : Nat) (a2 : Option Addr) (c2 : Nat) (a3 : Option Addr) (c3 : Nat) (w : World) (hr : IntRow w a3 c.outs) (hl : c.outs.length ≤ 1048576) :
    Calls Tryd.prog 94 #[.agg (cliV c a1 c1 a2 c2 a3 c3)] w fun e w' => ∃ bo d, e = .returned (.slice bo c.outs.length d) ∧ w'.ownsRow w.heap.size 3 1 (.slice bo c.outs.length d) c.outs.length ((setR c.outs).map (Value.int .i64)) ∧ Below w.heap.size w w' := by
  obtain ⟨i0, hi, hz0, hz1, hz2⟩ := info_parts infoInt
  have HR := Lib.hid hr
  have b0 : Below w.heap.size w ((w.alloc (.cells (cliV c a1 c1 a2 c2 a3 c3) 46)).alloc (.cells #[] 3)) := ((Below.refl _ _).alloc (Nat.le_refl _) _).alloc (by simp) _
  have K0 := (CellsM.new w (cliV c a1 c1 a2 c2 a3 c3) 46).more (.cells #[] 3)
  have O0 := World.ownsRow_made (e := 3) (size := 1) (w.alloc (.cells (cliV c a1 c1 a2 c2 a3 c3) 46)) #[] 0 (Nat.le_refl _) (by unfold maxLen; omega) rfl
  simp only [World.size_alloc] at O0
  clear hr
  go_enter Tryd.func94, Tryd.ntmps94
  go_wp2
  go_loopw [3, 4] (fun o i wr => ∃ k : Nat, k ≤ c.outs.length ∧ i = .int .i64 k ∧ wr.ownsRow (w.heap.size + 1) 3 1 o k ((setR (c.outs.take k)).map (Value.int .i64)) ∧ Hid (CellsM wr w.heap.size (cliV c a1 c1 a2 c2 a3 c3).toList) ∧ Hid (Below w.heap.size w wr)) (fun _ i _ => c.outs.length - (intOf i).toNat)
  case atStart => exact ⟨0, Nat.zero_le _, rfl, O0, Lib.hid K0, Lib.hid b0⟩
  case round =>
    obtain ⟨k, hkl, rfl, hown, HK, HB⟩ := hrel
    obtain ⟨oo, cc, rfl⟩ := shape_of hown
    have q7 := HK.out.c 7 _ rfl
    have hsz := HK.out.lt
    clear O0 K0 b0
    by_cases hlt : k < c.outs.length
    · obtain ⟨x, hx⟩ : ∃ x, c.outs[k]? = some x := ⟨_, List.getElem?_eq_getElem hlt⟩
      obtain ⟨b, off, rfl, hcell⟩ := (HR.out.below HB.out (Nat.le_refl _)) k x hx
      have HX := Lib.hid hx
      clear hx
      by_cases h0 : x = 0
      · subst h0
        have hb2 := HB.out
        go_wp2_with (at_builtin; refine wpList_append_own _ rfl _ _ 44 rfl (w.heap.size + 1) 3 i0 (.int .i64 0) 1 8 Tryd.underlying44 hi hz0 hz1 hz2 rfl (by decide) _ _ _ rfl (hown.alloc _) ⟨wr.heap.size, 0, none⟩ 1 1 [.int .i64 3] rfl rfl ?c1 ?c2 ?c3 ?c4 ?c5 ?_)
        case c2 => first | rfl | (intro u hu; simp at hu; subst hu; rfl)
        case c3 => unfold maxLen; omega
        case c4 => omega
        case c5 => first | omega | (simp; omega)
        intro v' w2 hown' hgrow _
        have hlow : ∀ k, (Value.slice oo k cc).ownBlock = (Value.slice oo k cc).ownBlock := fun _ => rfl
        have hb3 : Below (w.heap.size + 1) wr w2 := ((Below.refl _ wr).alloc (by omega) _).grown hgrow (by simp; omega) (fun k e => (hown.lt k e).1)
        have HB3 := Lib.hid (hb2.trans (hb3.mono (by omega)))
        have HK3 : Hid (CellsM w2 w.heap.size _) := Lib.hid ((HK.out.more (.cells #[.int .i64 3] 3)).kept hgrow (fun e => by have := (hown.lt _ e).1; omega))
        have O3 : Hid (w2.ownsRow (w.heap.size + 1) 3 1 v' (k + 1) ((setR (c.outs.take (k + 1))).map (Value.int .i64))) := Lib.hid (by rw [setR_snoc HX.out, show setZ 0 = 3 from rfl]; exact hown')
        clear hown' hgrow hown HB HK hb2 hb3 hlow
        go_wp2
        go_roundw
        case rel => exact ⟨k + 1, by omega, by go_num, O3.out, HK3, HB3⟩
        case measure => simp [intOf]; omega
      · by_cases h1 : x = 1
        · subst h1
          have hb2 := HB.out
          go_wp2_with (at_builtin; refine wpList_append_own _ rfl _ _ 44 rfl (w.heap.size + 1) 3 i0 (.int .i64 0) 1 8 Tryd.underlying44 hi hz0 hz1 hz2 rfl (by decide) _ _ _ rfl (hown.alloc _) ⟨wr.heap.size, 0, none⟩ 1 1 [.int .i64 3] rfl rfl ?d1 ?d2 ?d3 ?d4 ?d5 ?_)
          case d2 => first | rfl | (intro u hu; simp at hu; subst hu; rfl)
          case d3 => unfold maxLen; omega
          case d4 => omega
          case d5 => first | omega | (simp; omega)
          intro v' w2 hown' hgrow _
          have hlow : ∀ k, (Value.slice oo k cc).ownBlock = (Value.slice oo k cc).ownBlock := fun _ => rfl
          have hb3 : Below (w.heap.size + 1) wr w2 := ((Below.refl _ wr).alloc (by omega) _).grown hgrow (by simp; omega) (fun k e => (hown.lt k e).1)
          have HB3 := Lib.hid (hb2.trans (hb3.mono (by omega)))
          have HK3 : Hid (CellsM w2 w.heap.size _) := Lib.hid ((HK.out.more (.cells #[.int .i64 3] 3)).kept hgrow (fun e => by have := (hown.lt _ e).1; omega))
          have O3 : Hid (w2.ownsRow (w.heap.size + 1) 3 1 v' (k + 1) ((setR (c.outs.take (k + 1))).map (Value.int .i64))) := Lib.hid (by rw [setR_snoc HX.out, show setZ 1 = 3 from rfl]; exact hown')
          clear hown' hgrow hown HB HK hb2 hb3 hlow
          go_wp2
          go_roundw
          case rel => exact ⟨k + 1, by omega, by go_num, O3.out, HK3, HB3⟩
          case measure => simp [intOf]; omega
        · have hz : setZ x = x := by unfold setZ; rw [if_neg (by omega)]
          have e0 : (x == 0) = false := by rw [beq_eq_false_iff_ne]; exact h0
          have e1 : (x == 1) = false := by rw [beq_eq_false_iff_ne]; exact h1
          have hb2 := HB.out
          go_wp2_with (at_builtin; refine wpList_append_own _ rfl _ _ 44 rfl (w.heap.size + 1) 3 i0 (.int .i64 0) 1 8 Tryd.underlying44 hi hz0 hz1 hz2 rfl (by decide) _ _ _ rfl (hown.alloc _) ⟨wr.heap.size, 0, none⟩ 1 1 [.int .i64 x] rfl rfl ?k1 ?k2 ?k3 ?k4 ?k5 ?_)
          case k2 => first | rfl | (intro u hu; simp at hu; subst hu; rfl)
          case k3 => unfold maxLen; omega
          case k4 => omega
          case k5 => first | omega | (simp; omega)
          intro v' w2 hown' hgrow _
          have hlow : ∀ k, (Value.slice oo k cc).ownBlock = (Value.slice oo k cc).ownBlock := fun _ => rfl
          have hb3 : Below (w.heap.size + 1) wr w2 := ((Below.refl _ wr).alloc (by omega) _).grown hgrow (by simp; omega) (fun k e => (hown.lt k e).1)
          have HB3 := Lib.hid (hb2.trans (hb3.mono (by omega)))
          have HK3 : Hid (CellsM w2 w.heap.size _) := Lib.hid ((HK.out.more (.cells #[.int .i64 x] 3)).kept hgrow (fun e => by have := (hown.lt _ e).1; omega))
          have O3 : Hid (w2.ownsRow (w.heap.size + 1) 3 1 v' (k + 1) ((setR (c.outs.take (k + 1))).map (Value.int .i64))) := Lib.hid (by rw [setR_snoc HX.out, hz]; exact hown')
          clear hown' hgrow hown HB HK hb2 hb3 hlow
          go_wp2
          go_roundw
          case rel => exact ⟨k + 1, by omega, by go_num, O3.out, HK3, HB3⟩
          case measure => simp [intOf]; omega
    · obtain rfl : k = c.outs.length := by omega
      rw [List.take_length] at hown
      have O3 := Lib.hid (ownsRow_base hown (show w.heap.size ≤ w.heap.size + 1 by omega))
      go_wp2
      go_ret
      exact ⟨oo, cc, rfl, O3.out, HB.out⟩

theorem specCliOuts_any (c : CliD) (a1 : Option Addr) (c1 : Nat) (a2 : Option Addr) (c2 : Nat) (a3 : Option Addr) (c3 : Nat) (w : World) (hat : CliAt w c a1 a2 a3) (hsz : CliSz 1048576 c) :
    Calls Tryd.prog 31 #[.agg (cliV c a1 c1 a2 c2 a3 c3)] w fun e w' => ∃ bo d, e = .returned (.slice bo (outsR c).length d) ∧ w'.ownsRow w.heap.size 3 1 (.slice bo (outsR c).length d) (outsR c).length ((outsR c).map (Value.int .i64)) ∧ Below w.heap.size w w' := by
  have b0 : Below w.heap.size w (w.alloc (.cells (cliV c a1 c1 a2 c2 a3 c3) 46)) := (Below.refl _ _).alloc (Nat.le_refl _) _
  have K0 := Lib.hid (CellsM.new w (cliV c a1 c1 a2 c2 a3 c3) 46)
  have A0 := Lib.hid (hat.below b0 (Nat.le_refl _))
  have HS := Lib.hid hsz
  have HB0 := Lib.hid b0
  have hs0 : (w.alloc (.cells (cliV c a1 c1 a2 c2 a3 c3) 46)).heap.size = w.heap.size + 1 := by simp
  obtain ⟨v, hv⟩ : ∃ v, cliB c = v := ⟨_, rfl⟩
  have HV := Lib.hid hv
  clear hat hsz b0 hv
  go_enter Tryd.func31, Tryd.ntmps31
  go_wp2_with fail
  generalize w.alloc (.cells (cliV c a1 c1 a2 c2 a3 c3) 46) = W at *
  refine (l4Ok_any c a1 c1 a2 c2 a3 c3 W A0.out HS.out).mono ?_
  rintro e w1 ⟨rfl, hb1⟩
  rw [HV.out]
  have hs1 := hb1.size
  have K1 := K0.out.later hb1
  have A1 := Lib.hid (A0.out.later hb1)
  have B1 := Lib.hid (HB0.out.trans (hb1.mono HB0.out.size))
  have q0 := K1.c 0 _ rfl
  have q1 := K1.c 1 _ rfl
  have q2 := K1.c 2 _ rfl
  have q3 := K1.c 3 _ rfl
  have q4 := K1.c 4 _ rfl
  have q5 := K1.c 5 _ rfl
  have q6 := K1.c 6 _ rfl
  have q7 := K1.c 7 _ rfl
  clear K1 hb1 K0 A0 HB0
  cases v
  · have hq : outsR c = [] := by unfold outsR; rw [HV.out]; rfl
    go_wp2
    go_ret
    exact ⟨none, 0, by rw [hq]; rfl, by rw [hq]; exact World.ownsRow_nil _ _ _ _, B1.out⟩
  · have hq : outsR c = setR c.outs := by unfold outsR; rw [HV.out]; rfl
    go_wp2_with fail
    refine (l4Outs_any c a1 c1 a2 c2 a3 c3 w1 A1.out.outs HS.out.outs).mono ?_
    rintro e w2 ⟨bo, d, rfl, o2, hb2⟩
    have B2 := B1.out.trans (hb2.mono B1.out.size)
    have O2 := Lib.hid (ownsRow_base o2 (show w.heap.size ≤ w1.heap.size by omega))
    clear o2 hb2
    go_wp2
    go_ret
    exact ⟨bo, d, by rw [hq, setR_len]; rfl, by rw [hq, setR_len]; exact O2.out, B2⟩
end Go.Proofs.YtgjkoegpdfcadaaDoor
