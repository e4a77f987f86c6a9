/- Contracts: lines of figures read, of the program and of the model; the walk of FnExactLinesGet. -/
import Derived.Test.YtmigcglcacpboaaDoorLinesFacts
namespace Go.Proofs.YtmigcglcacpboaaDoor
open Go Go.RowKit

theorem join_empty (xs : List (List UInt8)) : Lib.join xs [] = xs.flatten := by
  unfold Lib.join
  rw [List.intercalate]
  induction xs with
  | nil => rfl
  | cons x r ih =>
    cases r with
    | nil => simp
    | cons y r => simp only [List.intersperse_cons_cons, List.flatten_cons, List.nil_append]; rw [ih, List.flatten_cons]
theorem join_any (ao : Option Addr) (cap : Nat) (xs : List ByteArray) (w : World) (hr : StrRow w ao xs) (hl : xs.length ≤ 12) (hc : xs.length ≤ cap) (hs : ∀ x ∈ xs, x.size ≤ 40) :
    Calls Tryd.prog 44 #[.slice ao xs.length cap, .string { data := #[] }] w fun e w' => e = .returned (.string (joinB xs)) ∧ Below w.heap.size w w' := by
  cases xs with
  | nil =>
    refine (Tryd.strings_Join_none ao cap { data := #[] } w).mono ?_
    rintro e w' ⟨rfl, rfl⟩
    exact ⟨rfl, Below.refl _ _⟩
  | cons x r =>
    obtain ⟨b, off, rfl, hcell⟩ := hr 0 x rfl
    have hlen : (Lib.join ((x :: r).map (·.data.toList)) ({ data := #[] } : ByteArray).data.toList).length ≤ 140737488355328 := by
      rw [show ({ data := #[] } : ByteArray).data.toList = [] from rfl, join_empty, List.length_flatten]
      have key : ∀ (l : List ByteArray), (∀ x ∈ l, x.size ≤ 40) → ((l.map (·.data.toList)).map List.length).sum ≤ 40 * l.length := by
        intro l
        induction l with
        | nil => intro _; simp
        | cons y l ih =>
          intro h
          have h1 := h y List.mem_cons_self
          have h2 := ih fun z hz => h z (List.mem_cons_of_mem _ hz)
          rw [List.map_cons, List.map_cons, List.sum_cons, List.length_cons, ← Lib.size_eq]; omega
      have := key (x :: r) hs
      omega
    refine (Tryd.strings_Join b off cap (x :: r) { data := #[] } w (fun j y hy => by
      obtain ⟨b', off', e, hc'⟩ := hr j y hy
      injection e with e
      injection e with e1 e2
      subst e1 e2
      exact hc') (World.block_lt_of_cell? w _ hcell) (by omega) hc hlen).mono ?_
    rintro e w' ⟨rfl, hb⟩
    refine ⟨?_, hb⟩
    rw [show ({ data := #[] } : ByteArray).data.toList = [] from rfl, join_empty]
    rfl
theorem equal_any (ao bo : Option Addr) (c d : Nat) (xs ys : List ByteArray) (w : World) (hx : StrRow w ao xs) (hy : StrRow w bo ys) (hlx : xs.length ≤ 1000000) (hly : ys.length ≤ 1000000) (h : ys = [] → xs = []) :
    Calls Tryd.prog 45 #[.slice ao xs.length c, .slice bo ys.length d] w fun e w' => e = .returned (.bool (decide (xs = ys))) ∧ ∃ q, w' = w.drewN q := by
  cases xs with
  | nil =>
    refine (Tryd.slices_Equal_string_empty ao bo c ys.length d w (by omega)).mono ?_
    rintro e w' ⟨rfl, rfl⟩
    refine ⟨?_, 0, rfl⟩
    have : decide (ys.length = 0) = decide (([] : List ByteArray) = ys) := by
      rw [decide_eq_decide]
      constructor
      · intro h; exact (List.eq_nil_of_length_eq_zero h).symm
      · rintro rfl; rfl
    rw [this]
  | cons x r =>
    cases ys with
    | nil => exact absurd (h rfl) (by simp)
    | cons y q =>
      obtain ⟨b1, o1, rfl, _⟩ := hx 0 x rfl
      obtain ⟨b2, o2, rfl, _⟩ := hy 0 y rfl
      have cells : ∀ {b o : Nat} {zs : List ByteArray}, StrRow w (some ⟨b, o, none⟩) zs → ∀ j, j < zs.length → w.cell? ⟨b, o + j, none⟩ = some (.string (zs.getD j ByteArray.empty)) := fun {b o zs} hz j hj => by
        obtain ⟨b', o', e, hc'⟩ := hz j zs[j] (List.getElem?_eq_getElem hj)
        injection e with e
        injection e with e1 e2
        subst e1 e2
        rw [List.getD_eq_getElem?_getD, List.getElem?_eq_getElem hj]; exact hc'
      refine (Tryd.slices_Equal_string b1 o1 (x :: r).length c b2 o2 (y :: q).length d (x :: r) (y :: q) w (Nat.le_refl _) (Nat.le_refl _) (by omega) (by omega) (cells hx) (cells hy)).mono ?_
      rintro e w' ⟨rfl, k, rfl⟩
      exact ⟨by rw [List.take_length, List.take_length], k, rfl⟩

theorem ret_gl {xs : List ByteArray} {a : ByteArray} {b : Bool} (h : linesGetB xs = (a, b)) : Ending.returned (.tuple #[.string a, .bool b]) = .returned (.tuple #[.string (linesGetB xs).1, .bool (linesGetB xs).2]) := by rw [h]
theorem linesPutB_nil {u : ByteArray} (h : codePutB u = { data := #[] }) : linesPutB u = [] := by
  unfold linesPutB; rw [h]; unfold linesP
  rw [show ({ data := #[] } : ByteArray).data.toList = [] from rfl, chunks_nil]; rfl

set_option maxHeartbeats 2000000 in
set_option maxRecDepth 100000 in
theorem implLinesGet_any (ao : Option Addr) (cap : Nat) (xs : List ByteArray) (w : World) (hr : StrRow w ao xs) (hl : xs.length ≤ maxLen) (hc : xs.length ≤ cap) (hs : ∀ x ∈ xs, x.size ≤ maxLen) (hf : FigCell w) :
    Calls Tryd.prog 21 #[.slice ao xs.length cap] w fun e w' => e = .returned (.tuple #[.string (linesGetB xs).1, .bool (linesGetB xs).2]) ∧ Below w.heap.size w w' := by
  have HR := Lib.hid hr
  have HS := Lib.hid hs
  have HF := Lib.hid hf
  clear hr hs hf
  cases hb : bodyB xs
  · have hm : Hid (linesGetB xs = ({ data := #[] }, false)) := Lib.hid (linesGetB_no fun u hu e => by
      have := linesPutB_body hu
      rw [e, hb] at this; cases this)
    have HB := Lib.hid hb
    clear hb
    go_enter Tryd.func21, Tryd.ntmps21
    go_wp2_with (go_at_call 43; refine (isBody_any ao cap xs _ HR.out hl HS.out).mono ?_; rintro e w1 ⟨rfl, rfl⟩; rw [HB.out])
    go_ret2
    exact ⟨ret_gl hm.out, Below.refl _ _⟩
  · have HB := Lib.hid hb
    obtain ⟨h12, h40⟩ := bodyB_bounds hb
    have CJ := Lib.hid (join_any ao cap xs w HR.out h12 hc h40)
    have hjz : (joinB xs).size ≤ 480 := by
      have key : ∀ (l : List ByteArray), (∀ x ∈ l, x.size ≤ 40) → (joinB l).size ≤ 40 * l.length := by
        intro l
        induction l with
        | nil => intro _; exact Nat.le_refl _
        | cons y l ih =>
          intro h
          have h1 := h y List.mem_cons_self
          have h2 := ih fun z hz => h z (List.mem_cons_of_mem _ hz)
          rw [Lib.size_eq, joinB_data] at h2 ⊢
          rw [List.map_cons, List.flatten_cons, List.length_append, List.length_cons, ← Lib.size_eq]; omega
      have := key xs h40
      omega
    have HCS := Lib.hid (codeGetB_cases (joinB xs))
    have CG := Lib.hid (fun W hW => implCodeGet_any (joinB xs) W (by omega) hW)
    have HNO : Hid (∀ u : ByteArray, u.size ≤ 240 → linesPutB u = xs → joinB xs = codePutB u) := Lib.hid (fun u _ e => by rw [← e]; exact linesPutB_join)
    obtain ⟨j, hj⟩ : ∃ j, j = joinB xs := ⟨_, rfl⟩
    rw [← hj] at CJ CG HCS HNO hjz
    have HJ := Lib.hid hj
    obtain ⟨t, ok, htk⟩ : ∃ t ok, codeGetB j = (t, ok) := ⟨_, _, rfl⟩
    rw [htk] at CG HCS
    clear hb hj htk h40
    go_enter Tryd.func21, Tryd.ntmps21
    go_wp2_with fail
    refine (isBody_any ao cap xs _ HR.out hl HS.out).mono ?_
    rintro e w1 ⟨rfl, rfl⟩
    rw [HB.out]
    go_wp2_with fail
    refine CJ.out.mono ?_
    rintro e w1 ⟨rfl, b1⟩
    have B1 := Lib.hid b1
    have R1 := Lib.hid (HR.out.below b1 (Nat.le_refl _))
    have F1 := Lib.hid (HF.out.below b1 (.inl (Nat.le_refl _)))
    clear b1 CJ
    go_wp2_with fail
    refine (CG.out _ F1.out).mono ?_
    rintro e w2 ⟨rfl, b2⟩
    have B2 := Lib.hid (B1.out.trans (b2.mono B1.out.size))
    have R2 := Lib.hid (R1.out.below b2 (Nat.le_refl _))
    have F2 := Lib.hid (F1.out.below b2 (.inl (Nat.le_refl _)))
    clear b2 CG B1 R1 F1
    cases ok
    · have hm : Hid (linesGetB xs = ({ data := #[] }, false)) := Lib.hid (linesGetB_no fun u hu e => by
        rcases HCS.out with ⟨v, _, _, e2⟩ | ⟨hn, _⟩
        · cases congrArg Prod.snd e2
        · exact hn u hu (HNO.out u hu e).symm)
      go_wp2
      go_ret2
      exact ⟨ret_gl hm.out, B2.out⟩
    · have ht : t.size ≤ 240 ∧ codePutB t = j := by
        rcases HCS.out with ⟨v, hv, e1, e2⟩ | ⟨_, e2⟩
        · obtain rfl : t = v := congrArg Prod.fst e2
          exact ⟨hv, e1.symm⟩
        · cases congrArg Prod.snd e2
      have HT := Lib.hid ht
      have C3 := Lib.hid (implLinesPut_any t w2 (by unfold maxLen; omega) F2.out)
      have HLL := Lib.hid (linesPutB_len t)
      obtain ⟨ls, hls⟩ : ∃ ls, ls = linesPutB t := ⟨_, rfl⟩
      rw [← hls] at C3 HLL
      have HLS := Lib.hid hls
      clear ht hls HCS
      go_wp2_with fail
      refine C3.out.mono ?_
      rintro e w3 ⟨a3, c3, rfl, r3, b3⟩
      have B3 := Lib.hid (B2.out.trans (b3.mono B2.out.size))
      have R3 := Lib.hid (StrRow.of_own r3)
      have R23 := Lib.hid (R2.out.below b3 (Nat.le_refl _))
      clear r3 b3 C3 B2 R2 F2
      have CE := Lib.hid (equal_any a3 ao c3 cap ls xs w3 R3.out R23.out (by have := HLL.out; omega) (by omega) (fun e => by
        rw [HLS.out]
        refine linesPutB_nil ?_
        rw [HT.out.2, HJ.out, e]; rfl))
      by_cases he : ls = xs
      · have hm : Hid (linesGetB xs = (t, true)) := Lib.hid (by rw [← he, HLS.out]; exact linesGetB_put HT.out.1)
        have hd : decide (ls = xs) = true := decide_eq_true he
        have CE2 : Hid (Calls Tryd.prog 45 #[.slice a3 ls.length c3, .slice ao xs.length cap] w3 fun e w' => e = .returned (.bool true) ∧ ∃ q, w' = w3.drewN q) := Lib.hid (by rw [← hd]; exact CE.out)
        clear CE hd he HLS
        go_wp2_with fail
        refine CE2.out.mono ?_
        rintro e w4 ⟨rfl, q, rfl⟩
        go_wp2
        go_ret2
        exact ⟨ret_gl hm.out, drewN_below B3.out q⟩
      · have hm : Hid (linesGetB xs = ({ data := #[] }, false)) := Lib.hid (linesGetB_no fun u hu e => by
          have e1 := HNO.out u hu e
          rw [← HT.out.2] at e1
          have e2 := codePutB_inj HT.out.1 hu e1
          exact he (by rw [HLS.out, e2, e]))
        have hd : decide (ls = xs) = false := decide_eq_false he
        have CE2 : Hid (Calls Tryd.prog 45 #[.slice a3 ls.length c3, .slice ao xs.length cap] w3 fun e w' => e = .returned (.bool false) ∧ ∃ q, w' = w3.drewN q) := Lib.hid (by rw [← hd]; exact CE.out)
        clear CE hd he HLS
        go_wp2_with fail
        refine CE2.out.mono ?_
        rintro e w4 ⟨rfl, q, rfl⟩
        go_wp2
        go_ret2
        exact ⟨ret_gl hm.out, drewN_below B3.out q⟩

theorem joinB_snoc {xs : List ByteArray} {k : Nat} {x : ByteArray} (h : xs[k]? = some x) : joinB (xs.take (k + 1)) = joinB (xs.take k) ++ x := by
  obtain ⟨hk, e⟩ := List.getElem?_eq_some_iff.1 h
  apply bytes_exl
  rw [joinB_data, List.take_succ_eq_append_getElem hk, e, List.map_append, List.flatten_append]
  simp [joinB_data]
/-- The first k lines are such as figures stand in. -/
def OkTo (xs : List ByteArray) (k : Nat) : Prop := ∀ i x, i < k → xs[i]? = some x → 1 ≤ x.size ∧ x.size ≤ 40 ∧ (i + 1 < xs.length → x.size = 40)
theorem okTo_step {xs : List ByteArray} {k : Nat} {x : ByteArray} (h : OkTo xs k) (hx : xs[k]? = some x) (h1 : 1 ≤ x.size) (h2 : x.size ≤ 40) (h3 : k + 1 < xs.length → x.size = 40) : OkTo xs (k + 1) := by
  intro i y hi hy
  by_cases e : i = k
  · subst e
    rw [hx] at hy
    obtain rfl := Option.some.inj hy
    exact ⟨h1, h2, h3⟩
  · exact h i y (by omega) hy
theorem okTo_full {xs : List ByteArray} (h : OkTo xs xs.length) : fullG 40 (xs.map fun x => x.data.toList) := by
  refine fullG_of _ fun i g hg => ?_
  rw [List.getElem?_map] at hg
  obtain ⟨x, hx, rfl⟩ := Option.map_eq_some_iff.1 hg
  have := h i x (List.getElem?_eq_some_iff.1 hx).1 hx
  rw [List.length_map, ← Lib.size_eq]
  exact this
theorem bad_line {xs : List ByteArray} {k : Nat} {x : ByteArray} (hx : xs[k]? = some x) (h : ¬ (1 ≤ x.size ∧ x.size ≤ 40 ∧ (k + 1 < xs.length → x.size = 40)) ∨ 12 ≤ k) : linesGetB xs = ({ data := #[] }, false) := by
  refine linesGetB_no fun u hu e => ?_
  subst e
  have hlen := linesPutB_many hu
  have hk := (List.getElem?_eq_some_iff.1 hx).1
  have hg := fullG_get _ (linesPutB_full u) k x.data.toList (by rw [List.getElem?_map, hx]; rfl) (by decide)
  rw [List.length_map, ← Lib.size_eq] at hg
  rcases h with h | h
  · exact h hg
  · omega

set_option maxHeartbeats 2000000 in
set_option maxRecDepth 100000 in
theorem specLinesGet_any (ao : Option Addr) (cap : Nat) (xs : List ByteArray) (w : World) (hr : StrRow w ao xs) (hl : xs.length ≤ maxLen) (hs : ∀ x ∈ xs, x.size ≤ maxLen) :
    Calls Tryd.prog 24 #[.slice ao xs.length cap] w fun e w' => e = .returned (.tuple #[.string (linesGetB xs).1, .bool (linesGetB xs).2]) ∧ Below w.heap.size w w' := by
  have HR := Lib.hid hr
  have HS := Lib.hid hs
  unfold maxLen at hl
  clear hr hs
  go_enter Tryd.func24, Tryd.ntmps24
  go_wp2
  go_loop [4, 5] (fun v i => ∃ (k : Nat) (t : ByteArray), k ≤ xs.length ∧ k ≤ 12 ∧ i = .int .i64 k ∧ v = .string t ∧ t.size ≤ 40 * k ∧ Hid (t = joinB (xs.take k)) ∧ Hid (OkTo xs k)) (fun _ i => xs.length - (intOf i).toNat)
  case atStart => exact ⟨0, { data := #[] }, Nat.zero_le _, Nat.zero_le _, rfl, rfl, Nat.le_refl _, Lib.hid rfl, Lib.hid (fun i x hi _ => absurd hi (Nat.not_lt_zero _))⟩
  case round =>
    obtain ⟨k, t, hk, hk12, rfl, rfl, ht, HT, HO⟩ := hrel
    by_cases hlt : k < xs.length
    · obtain ⟨x, hx⟩ : ∃ x, xs[k]? = some x := ⟨_, List.getElem?_eq_getElem hlt⟩
      obtain ⟨b, off, rfl, hcell⟩ := HR.out k x hx
      have hxz := HS.out x (List.mem_of_getElem? hx)
      unfold maxLen at hxz
      have HX := Lib.hid hx
      clear hx
      have hklt : (k : Int) < (xs.length : Int) := by omega
      by_cases h40 : 40 < x.size
      · have hm := Lib.hid (bad_line HX.out (.inl (by omega)))
        go_wp2
        go_ret2
        exact ⟨ret_gl hm.out, Below.refl _ _⟩
      by_cases hlast : k + 1 < xs.length
      · have hl1 : (k : Int) + 1 < (xs.length : Int) := by omega
        by_cases h39 : x.size < 40
        · have hm := Lib.hid (bad_line HX.out (.inl (fun h => by have := h.2.2 hlast; omega)))
          go_wp2
          go_ret2
          exact ⟨ret_gl hm.out, Below.refl _ _⟩
        have hne : ¬ x.toList = [] := by
          rw [Lib.toList_data]; intro e
          have := congrArg List.length e
          rw [← Lib.size_eq, List.length_nil] at this; omega
        have hne2 : x.toList.isEmpty = false := by simpa [List.isEmpty_iff] using hne
        by_cases hk2 : 12 ≤ k
        · have hm := Lib.hid (bad_line HX.out (.inr hk2))
          go_wp2
          go_ret2
          exact ⟨ret_gl hm.out, Below.refl _ _⟩
        have HO2 := Lib.hid (okTo_step HO.out HX.out (by omega) (by omega) (fun _ => by omega))
        have HT2 := Lib.hid (joinB_snoc HX.out)
        go_wp2
        go_round
        case rel => exact ⟨k + 1, t ++ x, by omega, by omega, by go_num, rfl, by rw [ByteArray.size_append]; omega, Lib.hid (by rw [HT2.out, HT.out]), HO2⟩
        case measure => simp [intOf]; omega
      · have hl1 : ¬ (k : Int) + 1 < (xs.length : Int) := by omega
        by_cases h0 : x.size = 0
        · have hne : x.toList = [] := by
            rw [Lib.toList_data]; exact List.eq_nil_of_length_eq_zero (by rw [← Lib.size_eq]; exact h0)
          have hne2 : x.toList.isEmpty = true := by simpa [List.isEmpty_iff] using hne
          have hm := Lib.hid (bad_line HX.out (.inl (by omega)))
          go_wp2
          go_ret2
          exact ⟨ret_gl hm.out, Below.refl _ _⟩
        have hne : ¬ x.toList = [] := by
          rw [Lib.toList_data]; intro e
          have := congrArg List.length e
          rw [← Lib.size_eq, List.length_nil] at this; omega
        have hne2 : x.toList.isEmpty = false := by simpa [List.isEmpty_iff] using hne
        by_cases hk2 : 12 ≤ k
        · have hm := Lib.hid (bad_line HX.out (.inr hk2))
          go_wp2
          go_ret2
          exact ⟨ret_gl hm.out, Below.refl _ _⟩
        have HO2 := Lib.hid (okTo_step HO.out HX.out (by omega) (by omega) (fun h => absurd h hlast))
        have HT2 := Lib.hid (joinB_snoc HX.out)
        go_wp2
        go_round
        case rel => exact ⟨k + 1, t ++ x, by omega, by omega, by go_num, rfl, by rw [ByteArray.size_append]; omega, Lib.hid (by rw [HT2.out, HT.out]), HO2⟩
        case measure => simp [intOf]; omega
    · obtain rfl : k = xs.length := by omega
      have hm : Hid (linesGetB xs = codeGetB t) := Lib.hid (by
        rw [linesGetB_join (okTo_full HO.out), HT.out, List.take_length])
      have CG := Lib.hid (fun W => specCodeGet_any t W (by omega))
      generalize codeGetB t = pr at CG hm
      obtain ⟨p, b⟩ := pr
      clear HT HO
      go_wp2_with fail
      refine (CG.out _).mono ?_
      rintro e w1 ⟨rfl, b1⟩
      have B1 := Lib.hid b1
      clear b1
      go_wp2
      go_ret2
      exact ⟨ret_gl hm.out, B1.out⟩

theorem Row.len_cap {w : World} {B : Nat} {ao : Option Addr} {cap : Nat} {xs : List ByteArray} (h : Row w B ao cap xs) : xs.length ≤ cap := by
  rcases h.2 with ⟨hv, h0⟩ | ⟨g, c, cur, hv, _, _, hn, _⟩
  · omega
  · simp only [Value.slice.injEq, true_and] at hv
    obtain ⟨_, rfl⟩ := hv
    exact hn

set_option maxHeartbeats 1600000 in
set_option maxRecDepth 100000 in
theorem wFnExactLinesGet.walk (ao : Option Addr) (cap : Nat) (xs : List ByteArray) (w : World) (hr : StrRow w ao xs) (hl : xs.length ≤ maxLen) (hs : ∀ x ∈ xs, x.size ≤ maxLen) (hf : FigCell w) :
    Calls Tryd.prog 10 #[.slice ao xs.length cap] w fun e w' => e = .returned (.bool true) ∧ Below w.heap.size w w' := by
  have HR := Lib.hid hr
  have HS := Lib.hid hs
  have HF := Lib.hid hf
  clear hr hs hf
  by_cases hneg : leftB xs 1048576 < 0
  · go_enter Tryd.func10, Tryd.ntmps10
    go_wp2_with fail
    refine (szStringS_any ao cap xs 1048576 _ HR.out hl (by omega) (by omega) HS.out).mono ?_
    rintro e w1 ⟨rfl, rfl⟩
    go_wp2
    go_ret
    exact ⟨rfl, Below.refl _ _⟩
  · obtain ⟨hl2, hs2⟩ := leftB_small hneg
    have HS2 := Lib.hid (fun x hx => Nat.le_trans (hs2 x hx) (show 1048576 ≤ maxLen by unfold maxLen; omega))
    clear hs2
    have C1 := Lib.hid (fun a c W h => specLinesGet_any a c xs W h hl HS2.out)
    have C2 := Lib.hid (fun a c W h hc hf => implLinesGet_any a c xs W h hl hc HS2.out hf)
    generalize linesGetB xs = pr at C1 C2
    obtain ⟨p, b⟩ := pr
    have q : (p.toList == p.toList) = true := by simp
    have qb : (b == b) = true := by simp
    go_enter Tryd.func10, Tryd.ntmps10
    go_wp2_with fail
    refine (szStringS_any ao cap xs 1048576 _ HR.out hl (by omega) (by omega) HS.out).mono ?_
    rintro e w1 ⟨rfl, rfl⟩
    go_wp2_with fail
    refine (toStringS_any ao cap xs _ HR.out hl2).mono ?_
    rintro e w1 ⟨a1, c1, rfl, ho1, hb1⟩
    have R1 := Lib.hid (StrRow.of_own ho1)
    have B1 := Lib.hid hb1
    clear ho1 hb1
    go_wp2_with fail
    refine (C1.out a1 c1 _ R1.out).mono ?_
    rintro e w2 ⟨rfl, hb2⟩
    have B2 := Lib.hid (B1.out.trans (hb2.mono B1.out.size))
    clear hb2 B1
    go_wp2_with fail
    refine (toStringS_any ao cap xs _ (HR.out.below B2.out (Nat.le_refl _)) hl2).mono ?_
    rintro e w3 ⟨a3, c3, rfl, ho3, hb3⟩
    have R3 := Lib.hid (StrRow.of_own ho3)
    have HC3 := Lib.hid (Row.len_cap ho3)
    have B3 := Lib.hid (B2.out.trans (hb3.mono B2.out.size))
    have F3 := Lib.hid (HF.out.below B3.out (.inl (Nat.le_refl _)))
    clear ho3 hb3 B2
    go_wp2_with fail
    refine (C2.out a3 c3 _ R3.out HC3.out F3.out).mono ?_
    rintro e w4 ⟨rfl, hb4⟩
    have R4 := Lib.hid (R3.out.below hb4 (Nat.le_refl _))
    have B4 := Lib.hid (B3.out.trans (hb4.mono B3.out.size))
    clear hb4 B3
    go_wp2_with fail
    refine (toStringS_any ao cap xs _ (HR.out.below B4.out (Nat.le_refl _)) hl2).mono ?_
    rintro e w5 ⟨a5, c5, rfl, ho5, hb5⟩
    have R5 := Lib.hid (StrRow.of_own ho5)
    have R45 := Lib.hid (R4.out.below hb5 (Nat.le_refl _))
    have B5 := Lib.hid (B4.out.trans (hb5.mono B4.out.size))
    clear ho5 hb5 B4
    go_wp2_with fail
    refine (eqStringS_same a3 a5 c3 c5 xs _ R45.out R5.out hl2).mono ?_
    rintro e w6 ⟨rfl, n, rfl⟩
    go_wp2
    go_ret
    exact ⟨rfl, drewN_below B5.out n⟩
end Go.Proofs.YtmigcglcacpboaaDoor
