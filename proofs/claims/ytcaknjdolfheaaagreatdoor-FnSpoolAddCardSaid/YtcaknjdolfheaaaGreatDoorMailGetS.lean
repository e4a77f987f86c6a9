/- Contracts: a mail read, of the model. -/
import Derived.Test.YtcaknjdolfheaaaGreatDoorPlains
import Derived.Test.YtcaknjdolfheaaaGreatDoorBasis
import Derived.Test.YtcaknjdolfheaaaGreatDoorReads
import Derived.Test.YtcaknjdolfheaaaGreatDoorAddrGet
import Derived.Test.YtcaknjdolfheaaaGreatDoorMailPut
import Derived.Test.YtcaknjdolfheaaaGreatDoorMails
import Derived.Test.YtcaknjdolfheaaaGreatDoorMailRes
namespace Go.Proofs.YtcaknjdolfheaaaGreatDoor
open Go Go.RowKit

theorem infoA : (Tryz.prog.info? 27).map (fun i => (i.zero, i.size, i.bytes)) = some (some (.agg #[.string ByteArray.empty, .string ByteArray.empty]), 2, 32) := by kernel_rfl
abbrev noMailV : List Value := [.string { data := #[] }, .string { data := #[] }, .slice none 0 0, .slice none 0 0]

/-- Of the lines ahead of a body: a mail so far, and how many bytes they take; 0, if they are none. -/
def HeadPost (w : World) (ls : List ByteArray) (e : Ending) (w' : World) : Prop :=
  ∃ (u d : ByteArray) (ps : List Pair) (a1 : Option Addr) (c1 : Nat) (p : Int), e = .returned (.tuple #[.agg (mailV ⟨u, d, ps, []⟩ a1 c1 none 0), .int .i64 p]) ∧ Below w.heap.size w w' ∧
    ((headS ls = false ∧ p = 0) ∨ (headS ls = true ∧ p = (headAt ls : Nat) ∧ (u, d) = firstP ls ∧ ps = tosOf ls ∧ PRow w' w.heap.size 27 a1 c1 ps))

theorem firstP_ne {ls : List ByteArray} {k : Nat} (hk : k ≠ 0) : whoK ls k = firstP ls := by unfold whoK; rw [if_neg hk]

theorem news_two (w : World) (t : TypeId) (u d : ByteArray) : ∀ (j : Nat) (x : Value), ([.string u, .string d] : List Value)[j]? = some x → (w.alloc (.cells #[.string u, .string d] t)).cell? ((⟨w.heap.size, 0, none⟩ : Addr).add j) = some x := by
  intro j x hx
  match j with
  | 0 => simp at hx; subst hx; exact (TwoAt.new w (.string u) (.string d) t).1
  | 1 => simp at hx; subst hx; exact (TwoAt.new w (.string u) (.string d) t).2.1
  | j + 2 => simp at hx
theorem pairs_snoc (ps : List Pair) (p : Pair) : pairCells (ps ++ [p]) = pairCells ps ++ [.string p.1, .string p.2] := by simp [pairCells]
theorem fill4 {w wr : World} {A B C : Res} {k : Nat} {x0 x1 x2 x3 : Value} (h : St w wr [A, B, C, Res.cells k [x0, x1, x2, x3]]) (v0 v1 v2 v3 : Value) : St w ((((wr.setCell ⟨k, 0, none⟩ v0).setCell ⟨k, 1, none⟩ v1).setCell ⟨k, 2, none⟩ v2).setCell ⟨k, 3, none⟩ v3) [Res.cells k [v0, v1, v2, v3], A, B, C] :=
  (((h.four.set 0 v0 (by simp)).set 1 v1 (by simp)).set 2 v2 (by simp)).set 3 v3 (by simp)
theorem no_ends {w w' : World} {ls : List ByteArray} {u d : ByteArray} {ps : List Pair} {a1 : Option Addr} {c1 : Nat} (h : headS ls = false) (hb : Below w.heap.size w w') : HeadPost w ls (.returned (.tuple #[.agg (mailV ⟨u, d, ps, []⟩ a1 c1 none 0), .int .i64 0])) w' :=
  ⟨u, d, ps, a1, c1, 0, rfl, hb, .inl ⟨h, rfl⟩⟩

set_option maxHeartbeats 6400000 in
set_option maxRecDepth 100000 in
theorem l2Get_any (s : ByteArray) (w : World) (hs : s.size ≤ 800) :
    Calls Tryz.prog 200 #[.string s] w (HeadPost w (linesB s)) := by
  obtain ⟨i0, hi, hz0, hz1, hz2⟩ := info_parts infoA
  have hL := lines_len s
  have HS : Hid (∀ x ∈ linesB s, x.size ≤ 800) := Lib.hid fun x hx => by have := lines_size hx; omega
  have C := Lib.hid (fun W => l2Lines_any s W (by omega))
  have hT : takes (linesB s) ≤ 800 := by have := (takes_lines s).1; omega
  generalize linesB s = ls at hL HS C hT ⊢
  generalize leftOf s = rest at C
  have S0 := Lib.hid ((St.start w).alloc #[.string { data := #[] }, .string { data := #[] }, .slice none 0 0, .slice none 0 0] 31)
  go_enter Tryz.func200, Tryz.ntmps200
  go_wp2_with fail
  refine (C.out _).mono ?_
  rintro e w1 ⟨al, cl, rfl, r1, b1⟩
  have S1 := Lib.hid ((((S0.out.row b1 r1).alloc #[.string { data := #[] }, .string { data := #[] }, .slice none 0 0, .slice none 0 0] 31).nothing 27 2))
  have hlt := b1.size
  simp only [World.size_alloc] at hlt
  have hk26 : w.heap.size ≠ w1.heap.size := by omega
  have hk62 : w1.heap.size ≠ w.heap.size := by omega
  clear r1 b1 S0 C
  go_wp2
  go_loopw [7, 8] (fun p i wr => ∃ (k : Nat) (u d : ByteArray) (ps : List Pair) (a1 : Option Addr) (c1 : Nat), k ≤ ls.length ∧ i = .int .i64 k ∧ p = .int .i64 ((takes (ls.take k) : Nat) : Int) ∧ ps.length ≤ k ∧ Hid (soFar ls k = true) ∧ Hid ((u, d) = whoK ls k) ∧ Hid (ps = tosK ls k) ∧
      Hid (St w wr [Res.row 27 2 (.slice a1 ps.length c1) ps.length (pairCells ps), Res.cells w1.heap.size [.string u, .string d, .slice a1 ps.length c1, .slice none 0 0], Res.row 9 1 (.slice al ls.length cl) ls.length (ls.map Value.string), Res.cells w.heap.size noMailV]))
    (fun _ i _ => ls.length - (intOf i).toNat)
  case atStart => exact ⟨0, { data := #[] }, { data := #[] }, [], none, 0, Nat.zero_le _, rfl, by simp [takes], Nat.le_refl _, Lib.hid rfl, Lib.hid rfl, Lib.hid (tosK_zero ls).symm, S1⟩
  case round =>
    obtain ⟨k, u, d, ps, a1, c1, hk, rfl, rfl, hpl, HF, HW, HP, HSt⟩ := hrel
    obtain ⟨q0, q1, q2, q3, f0, f1, f2, f3⟩ := cells_two HSt.out.two.head
    obtain ⟨r0, r1, r2, r3, g0, g1, g2, g3⟩ := cells_two HSt.out.four.head
    have htk := takes_take ls k
    clear S1
    by_cases hlt : k < ls.length
    · obtain ⟨x, hx⟩ : ∃ x, ls[k]? = some x := ⟨_, List.getElem?_eq_getElem hlt⟩
      have hxs := HS.out x (List.mem_of_getElem? hx)
      have htk2 := takes_take ls (k + 1)
      rw [takes_succ hx] at htk2
      obtain ⟨b, off, rfl, hcell⟩ := (StrRow.of_own HSt.out.three.head) k x hx
      have HX := Lib.hid hx
      clear hx
      by_cases h0 : k = 0
      · subst h0
        rw [Nat.add_zero] at hcell
        rw [show ((takes (ls.take 0) : Nat) : Int) = 0 from rfl]
        rcases from_cases x with ⟨h5, hp, hm⟩ | ⟨h5, hp, hno⟩ | ⟨h5, hno⟩
        · have he : ¬ x.toList = [] := by
            rw [Lib.toList_data]; intro e; rw [Lib.size_eq, e] at h5; simp at h5
          have hb : x.toList.isEmpty = false := by simpa [List.isEmpty_iff] using he
          obtain ⟨⟨u2, d2, ok⟩, hr⟩ : ∃ r, getR (x.extract 5 x.size) = r := ⟨_, rfl⟩
          have CA := Lib.hid (fun W => specAddrGet_any (x.extract 5 x.size) W (by rw [ByteArray.size_extract]; omega))
          rw [hr] at CA hm
          have HM := Lib.hid hm
          clear hr hm
          go_wp2_with fail
          refine (CA.out _).mono ?_
          rintro e w2 ⟨rfl, hb2⟩
          have S2 := Lib.hid (HSt.out.later hb2)
          have S3 := Lib.hid (S2.out.more (.cells #[.string u2, .string d2] 27))
          clear q0 q1 q2 q3 f0 f1 f2 f3 r0 r1 r2 r3 g0 g1 g2 g3 hcell
          obtain ⟨q0, q1, q2, q3, f0, f1, f2, f3⟩ := cells_two S2.out.two.head
          obtain ⟨r0, r1, r2, r3, g0, g1, g2, g3⟩ := cells_two S2.out.four.head
          have l6 := S2.out.two.head.lt
          have l2 := S2.out.four.head.lt
          clear hb2
          cases ok
          · have HN := Lib.hid (head_first HX.out (by unfold fromOk; rw [HM.out]))
            go_wp2
            refine bodyPost_ret (v := .tuple #[.agg (mailV ⟨u, d, ps, []⟩ a1 c1 none 0), .int .i64 0]) (by simp [results, Tryz.results200, go_sem, r0, r1, r2, r3, l2]) rfl (no_ends HN.out ((fill4 S2.out _ _ _ _).more _).below)
          · have hf : fromOk x = true := by unfold fromOk; rw [HM.out]
            have hF := Lib.hid (soFar_one HX.out hf)
            have hps : ps = [] := List.eq_nil_of_length_eq_zero (by omega)
            subst hps
            have HP2 : Hid ([] = tosK ls 1) := Lib.hid (tosK_one ls).symm
            have HW2 : Hid ((u2, d2) = whoK ls 1) := Lib.hid (by
              rw [firstP_ne (by omega), (first_at HX.out).2]
              unfold fromP
              rw [HM.out])
            have S4 := Lib.hid (((((S2.out.two.set 0 (.string u2) (by simp)).set 1 (.string d2) (by simp)).two).more (.cells #[.string u2, .string d2] 27)))
            have ht := takes_succ HX.out
            have HT2 := Lib.hid ht
            clear hf ht
            go_wp2
            go_roundw
            case rel => exact ⟨1, u2, d2, [], a1, c1, by omega, by go_num, by rw [show (1 : Nat) = 0 + 1 from rfl, HT2.out, show takes (ls.take 0) = 0 from rfl]; go_num, by simp, hF, HW2, HP2, S4.out⟩
            case measure => simp [intOf]; omega
        · have HN := Lib.hid (head_first HX.out hno)
          have he : ¬ x.toList = [] := by
            rw [Lib.toList_data]; intro e; rw [Lib.size_eq, e] at h5; simp at h5
          have hb : x.toList.isEmpty = false := by simpa [List.isEmpty_iff] using he
          clear hno
          go_wp2
          refine bodyPost_ret (v := .tuple #[.agg (mailV ⟨u, d, ps, []⟩ a1 c1 none 0), .int .i64 0]) (by simp [results, Tryz.results200, go_sem, r0, r1, r2, r3]) rfl (no_ends HN.out (fill4 HSt.out _ _ _ _).below)
        · have HN := Lib.hid (head_first HX.out hno)
          clear hno
          by_cases he : x.toList = []
          · have hb : x.toList.isEmpty = true := by rw [he]; rfl
            go_wp2
            refine bodyPost_ret (v := .tuple #[.agg (mailV ⟨u, d, ps, []⟩ a1 c1 none 0), .int .i64 0]) (by simp [results, Tryz.results200, go_sem, r0, r1, r2, r3]) rfl (no_ends HN.out (fill4 HSt.out _ _ _ _).below)
          · have hb : x.toList.isEmpty = false := by simpa [List.isEmpty_iff] using he
            go_wp2
            refine bodyPost_ret (v := .tuple #[.agg (mailV ⟨u, d, ps, []⟩ a1 c1 none 0), .int .i64 0]) (by simp [results, Tryz.results200, go_sem, r0, r1, r2, r3]) rfl (no_ends HN.out (fill4 HSt.out _ _ _ _).below)
      · have hk1 : 1 ≤ k := by omega
        by_cases hxe : x = mk []
        · subst hxe
          have he : (mk []).toList = [] := by rw [Lib.toList_data]; rfl
          have hb : (mk []).toList.isEmpty = true := by rw [he]; rfl
          have hz : (mk []).size = 0 := rfl
          have hz3 : ¬ (3 < (mk []).size) := by omega
          have hno := toOk_empty
          by_cases hk2 : k = 1
          · have HN := Lib.hid (head_bad hk1 HX.out HF.out hno (.inr hk2))
            subst hk2
            clear hno
            go_wp2
            refine bodyPost_ret (v := .tuple #[.agg (mailV ⟨u, d, ps, []⟩ a1 c1 none 0), .int .i64 0]) (by simp [results, Tryz.results200, go_sem, r0, r1, r2, r3]) rfl (no_ends HN.out (fill4 HSt.out _ _ _ _).below)
          · obtain ⟨hg1, hg2, hg3⟩ := head_good (by omega) HX.out HF.out
            have HG := Lib.hid hg1
            have HT := Lib.hid (HP.out.trans hg2.symm)
            have HA : Hid (((takes (ls.take k) : Nat) : Int) + 0 + 2 = ((headAt ls : Nat) : Int)) := Lib.hid (by rw [hg3, takes_succ HX.out, hz]; omega)
            have HWW := Lib.hid (HW.out.trans (firstP_ne (by omega)))
            have S5 := Lib.hid (fill4 HSt.out (.string u) (.string d) (.slice a1 ps.length c1) (.slice none 0 0))
            clear hno hg1 hg2 hg3
            go_wp2
            refine bodyPost_ret (v := .tuple #[.agg (mailV ⟨u, d, ps, []⟩ a1 c1 none 0), .int .i64 ((headAt ls : Nat) : Int)]) (by simp [results, Tryz.results200, go_sem, r0, r1, r2, r3]; rw [← HA.out]; go_num) rfl ⟨u, d, ps, a1, c1, _, rfl, S5.out.below, .inr ⟨HG.out, rfl, HWW.out, HT.out, S5.out.two.rowAt⟩⟩
        · have hn : ¬ x.size = 0 := fun e => hxe (ba_extd (by
            have : x.data.toList.length = 0 := by rw [← Lib.size_eq]; exact e
            rw [List.eq_nil_of_length_eq_zero this]; rfl))
          have he : ¬ x.toList = [] := by
            rw [Lib.toList_data]; intro e; rw [Lib.size_eq, e] at hn; simp at hn
          have hb : x.toList.isEmpty = false := by simpa [List.isEmpty_iff] using he
          rcases to_cases x with ⟨h3, hp, hm⟩ | ⟨h3, hp, hno⟩ | ⟨h3, hno⟩
          · obtain ⟨⟨u2, d2, ok⟩, hr⟩ : ∃ r, getR (x.extract 3 x.size) = r := ⟨_, rfl⟩
            have CA := Lib.hid (fun W => specAddrGet_any (x.extract 3 x.size) W (by rw [ByteArray.size_extract]; omega))
            rw [hr] at CA hm
            have HM := Lib.hid hm
            clear hr hm
            go_wp2_with fail
            refine (CA.out _).mono ?_
            rintro e w2 ⟨rfl, hb2⟩
            have S2 := Lib.hid (HSt.out.later hb2)
            clear q0 q1 q2 q3 f0 f1 f2 f3 r0 r1 r2 r3 g0 g1 g2 g3 hcell
            obtain ⟨q0, q1, q2, q3, f0, f1, f2, f3⟩ := cells_two S2.out.two.head
            obtain ⟨r0, r1, r2, r3, g0, g1, g2, g3⟩ := cells_two S2.out.four.head
            have l6 := S2.out.two.head.lt
            have l2 := S2.out.four.head.lt
            clear hb2
            cases ok
            · have HN := Lib.hid (head_bad hk1 HX.out HF.out (by unfold toOk; rw [HM.out]) (.inl hxe))
              go_wp2
              refine bodyPost_ret (v := .tuple #[.agg (mailV ⟨u, d, ps, []⟩ a1 c1 none 0), .int .i64 0]) (by simp [results, Tryz.results200, go_sem, r0, r1, r2, r3, l2]) rfl (no_ends HN.out ((fill4 S2.out _ _ _ _).more _).below)
            · have ht : toOk x = true := by unfold toOk; rw [HM.out]
              have hF := Lib.hid (soFar_succ hk1 HX.out HF.out ht)
              have hto : toP x = (u2, d2) := by unfold toP; rw [HM.out]
              have HP2 : Hid (ps ++ [(u2, d2)] = tosK ls (k + 1)) := Lib.hid (by rw [tosK_succ hk1 HX.out, ← HP.out, hto])
              have HW2 : Hid ((u, d) = whoK ls (k + 1)) := Lib.hid (HW.out.trans ((firstP_ne (by omega)).trans (firstP_ne (by omega)).symm))
              have HT2 := Lib.hid (takes_succ HX.out)
              have hown := (S2.out.head : World.ownsRow _ _ _ _ _ _ _)
              clear ht hto
              go_wp2_with (at_builtin; refine wpList_append_own_at _ rfl _ _ 28 rfl 0 27 i0 (.agg #[.string ByteArray.empty, .string ByteArray.empty]) 2 32 Tryz.underlying28 hi hz0 hz1 hz2 rfl (by decide) _ _ _ rfl ((hown.alloc _).alloc _) ⟨w2.heap.size + 1, 0, none⟩ 1 1 [.string u2, .string d2] rfl rfl ?c1 ?c2 ?c3 ?c4 ?c5 ?_)
              case c1 =>
                have h := news_two (w2.alloc (.cells #[.string u2, .string d2] 27)) 27 u2 d2
                simp only [World.size_alloc] at h
                exact h
              case c2 => exact fun v hv => by simp at hv; rcases hv with rfl | rfl <;> rfl
              case c3 => unfold maxLen; omega
              case c4 => omega
              case c5 => exact Nat.zero_le _
              intro v' w7 hown' hgrow _ hat
              have S7 := ((S2.out.more (.cells #[.string u2, .string d2] 27)).more (.cells #[.string u2, .string d2] 27)).app hown' hgrow (by simpa using hat)
              obtain ⟨a5, c5, rfl⟩ := shape_own hown'
              clear q0 q1 q2 q3 f0 f1 f2 f3 r0 r1 r2 r3 g0 g1 g2 g3 hown hown' hgrow hat l6 l2
              obtain ⟨q0, q1, q2, q3, f0, f1, f2, f3⟩ := cells_two S7.two.head
              have S8 : Hid (St w (w7.setCell ⟨w1.heap.size, 2, none⟩ (.slice a5 (ps.length + 1) c5)) [Res.row 27 2 (.slice a5 (ps ++ [(u2, d2)]).length c5) (ps ++ [(u2, d2)]).length (pairCells (ps ++ [(u2, d2)])), Res.cells w1.heap.size [.string u, .string d, .slice a5 (ps ++ [(u2, d2)]).length c5, .slice none 0 0], Res.row 9 1 (.slice (some ⟨b, off, none⟩) ls.length cl) ls.length (ls.map Value.string), Res.cells w.heap.size noMailV]) := Lib.hid (by
                rw [List.length_append, pairs_snoc]
                exact (S7.two.set 2 (.slice a5 (ps.length + 1) c5) (by simp)).two)
              clear S7
              go_wp2
              go_roundw
              case rel => exact ⟨k + 1, u, d, ps ++ [(u2, d2)], a5, c5, by omega, by go_num, by rw [HT2.out]; go_num, by simp; omega, hF, HW2, HP2, S8.out⟩
              case measure => simp [intOf]; omega
          · have HN := Lib.hid (head_bad hk1 HX.out HF.out hno (.inl hxe))
            clear hno
            go_wp2
            refine bodyPost_ret (v := .tuple #[.agg (mailV ⟨u, d, ps, []⟩ a1 c1 none 0), .int .i64 0]) (by simp [results, Tryz.results200, go_sem, r0, r1, r2, r3]) rfl (no_ends HN.out (fill4 HSt.out _ _ _ _).below)
          · have HN := Lib.hid (head_bad hk1 HX.out HF.out hno (.inl hxe))
            clear hno
            go_wp2
            refine bodyPost_ret (v := .tuple #[.agg (mailV ⟨u, d, ps, []⟩ a1 c1 none 0), .int .i64 0]) (by simp [results, Tryz.results200, go_sem, r0, r1, r2, r3]) rfl (no_ends HN.out (fill4 HSt.out _ _ _ _).below)
    · obtain rfl : k = ls.length := by omega
      have HN := Lib.hid (head_end rfl HF.out)
      go_wp2
      refine bodyPost_ret (v := .tuple #[.agg (mailV ⟨u, d, ps, []⟩ a1 c1 none 0), .int .i64 0]) (by simp [results, Tryz.results200, go_sem, r0, r1, r2, r3]) rfl (no_ends HN.out (fill4 HSt.out _ _ _ _).below)
end Go.Proofs.YtcaknjdolfheaaaGreatDoor
