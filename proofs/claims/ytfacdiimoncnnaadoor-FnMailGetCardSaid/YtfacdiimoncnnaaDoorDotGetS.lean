/- Contract: DotGet of the model. -/
import Derived.Test.YtfacdiimoncnnaaDoorUndot
namespace Go.Proofs.YtfacdiimoncnnaaDoor
open Go Go.RowKit

theorem snoc1 {w : World} {B e k : Nat} {v : Value} {xs ys : List ByteArray} {x : ByteArray} (hx : ys = xs ++ [x]) (h : w.ownsRow B e 1 v (k + 1) (xs.map Value.string ++ [.string x])) : w.ownsRow B e 1 v (k + 1) (ys.map Value.string) := by
  subst hx; simpa using h

set_option maxHeartbeats 1600000 in
set_option maxRecDepth 100000 in
theorem specDotGet_any (s : ByteArray) (w : World) (hs : s.size ≤ 9223372036854775807) :
    Calls Tryd.prog 113 #[.string s] w (RowBoolPost w (dotGetR s)) := by
  by_cases hbig : 800 < s.size
  · have hq := Lib.hid (dotGetR_big hbig)
    go_enter Tryd.func113, Tryd.ntmps113
    go_wp2
    go_ret2
    exact .nil hq.out (Below.refl _ _)
  obtain ⟨i0, hi, hz0, hz1, hz2⟩ := info_parts infoS
  have hL := lines_len s
  have HS : Hid (∀ x ∈ linesB s, x.size ≤ 800) := Lib.hid fun x hx => by have := lines_size hx; omega
  have HOS : Hid (∀ x ∈ outsB s, x.size ≤ maxLen) := Lib.hid fun x hx => by have := outs_size hx; unfold maxLen; omega
  have hOL : (outsB s).length ≤ maxLen := by have := outs_len s; unfold maxLen; omega
  have HT := Lib.hid (fun k h1 h2 => outs_take (s := s) (k := k) h1 h2)
  have HNO := Lib.hid (fun h => dotGetR_no (s := s) h)
  have HYES := Lib.hid (fun h1 h2 => dotGetR_yes (s := s) (by omega) h1 h2)
  have C := Lib.hid (fun W => l2Lines_any s W (by omega))
  generalize linesB s = M at hL HS HT C
  generalize outsB s = O at HOS hOL HT HNO HYES
  generalize dotGetR s = R at HNO HYES
  generalize leftOf s = rest at C
  go_enter Tryd.func113, Tryd.ntmps113
  go_wp2_with fail
  refine (C.out _).mono ?_
  rintro e w1 ⟨a1, c1, rfl, r1, b1⟩
  have HR := Lib.hid (StrRow.of_own r1)
  have z1 := b1.size
  clear r1
  go_wp2
  go_loopw [6, 7] (fun o i wr => ∃ k : Nat, i = .int .i64 k ∧ k ≤ M.length - 1 ∧ wr.ownsRow w1.heap.size 9 1 o k ((strips M k).map Value.string) ∧ Below w1.heap.size w1 wr) (fun _ i _ => M.length - (intOf i).toNat)
  case atStart => exact ⟨0, rfl, Nat.zero_le _, World.ownsRow_made w1 #[] 0 (Nat.le_refl _) (by unfold maxLen; omega) rfl, (Below.refl _ _).alloc (Nat.le_refl _) _⟩
  case round =>
    obtain ⟨k, rfl, hk, hown, hbel⟩ := hrel
    obtain ⟨ao, cap, rfl⟩ := shape_own hown
    have hsz := hbel.size
    by_cases hlt : k + 1 < M.length
    · obtain ⟨x, hx⟩ : ∃ x, M[k]? = some x := ⟨_, List.getElem?_eq_getElem (by omega)⟩
      obtain ⟨b, off, rfl, hcell⟩ := (HR.out.below hbel (Nat.le_refl _)) k x hx
      have hxs := HS.out x (List.mem_of_getElem? hx)
      have HN := Lib.hid (strips_snoc hx)
      clear hx
      cases hd : dotted x
      · have HX := Lib.hid (strip_no hd).1
        rw [HX.out] at HN
        rcases dotted_false hd with he | ⟨he, h0, hne⟩
        · clear hd
          go_wp2_with (at_builtin; refine wpList_append_own _ rfl _ _ 22 rfl w1.heap.size 9 i0 (.string ByteArray.empty) 1 16 Tryd.underlying22 hi hz0 hz1 hz2 rfl (by decide) _ _ _ rfl (hown.alloc _) ⟨wr.heap.size, 0, none⟩ 1 1 [.string (x)] rfl rfl ?c1 ?c2 ?c3 ?c4 ?c5 ?_)
          case c1 => exact cell_one_new _ _ _
          case c2 => intro u hu; simp at hu; subst hu; rfl
          case c3 => unfold maxLen; omega
          case c4 => omega
          case c5 => simp; omega
          intro v' w2 hown' hgrow _
          have hb3 := below_app hbel hsz hown hgrow
          have ho1 := snoc1 HN.out hown'
          clear hown hbel hown' hgrow
          go_wp2
          go_roundw
          case rel => exact ⟨k + 1, by go_num, by omega, ho1, hb3⟩
          case measure => simp [intOf]; omega
        · have hb0 : ((x[0].toNat : Int) == 46) = false := by
            rw [beq_eq_false_iff_ne]; intro e; exact hne (UInt8.toNat_inj.1 (by simpa using (by omega : x[0].toNat = 46)))
          have he2 : (!x.toList.isEmpty) = true := by simpa [List.isEmpty_iff] using he
          clear hd hne
          go_wp2_with (at_builtin; refine wpList_append_own _ rfl _ _ 22 rfl w1.heap.size 9 i0 (.string ByteArray.empty) 1 16 Tryd.underlying22 hi hz0 hz1 hz2 rfl (by decide) _ _ _ rfl (hown.alloc _) ⟨wr.heap.size, 0, none⟩ 1 1 [.string (x)] rfl rfl ?c1 ?c2 ?c3 ?c4 ?c5 ?_)
          case c1 => exact cell_one_new _ _ _
          case c2 => intro u hu; simp at hu; subst hu; rfl
          case c3 => unfold maxLen; omega
          case c4 => omega
          case c5 => simp; omega
          intro v' w2 hown' hgrow _
          have hb3 := below_app hbel hsz hown hgrow
          have ho1 := snoc1 HN.out hown'
          clear hown hbel hown' hgrow
          go_wp2
          go_roundw
          case rel => exact ⟨k + 1, by go_num, by omega, ho1, hb3⟩
          case measure => simp [intOf]; omega
      · have HX := Lib.hid (strip_yes hd).1
        rw [HX.out] at HN
        obtain ⟨h0, he⟩ := dotted_true hd
        have hb0 : ((x[0].toNat : Int) == 46) = true := by rw [he]; rfl
        have hne : ¬ x.toList = [] := by rw [Lib.toList_data]; intro e; rw [Lib.size_eq, e] at h0; cases h0
        have hne2 : (!x.toList.isEmpty) = true := by simpa [List.isEmpty_iff] using hne
        clear hd he
        go_wp2_with (at_builtin; refine wpList_append_own _ rfl _ _ 22 rfl w1.heap.size 9 i0 (.string ByteArray.empty) 1 16 Tryd.underlying22 hi hz0 hz1 hz2 rfl (by decide) _ _ _ rfl (hown.alloc _) ⟨wr.heap.size, 0, none⟩ 1 1 [.string (x.extract 1 x.size)] rfl rfl ?c1 ?c2 ?c3 ?c4 ?c5 ?_)
        case c1 => exact cell_one_new _ _ _
        case c2 => intro u hu; simp at hu; subst hu; rfl
        case c3 => unfold maxLen; omega
        case c4 => omega
        case c5 => simp; omega
        intro v' w2 hown' hgrow _
        have hb3 := below_app hbel hsz hown hgrow
        have ho1 := snoc1 HN.out hown'
        clear hown hbel hown' hgrow
        go_wp2
        go_roundw
        case rel => exact ⟨k + 1, by go_num, by omega, ho1, hb3⟩
        case measure => simp [intOf]; omega
    · have hO := HT.out k hk hlt
      rw [hO] at hown
      have hk2 : k = O.length := by
        have := congrArg List.length hO
        rw [strips_len (by omega)] at this; omega
      subst hk2
      have hrow := Lib.hid (StrRow.of_own hown)
      have HOWN := Lib.hid (own_mono hown z1)
      have HBEL := Lib.hid (b1.trans (hbel.mono z1))
      have HO := Lib.hid hO
      have hO8 : O.length ≤ 800 := by omega
      clear hO hown hbel hk
      cases hb : bodyB O
      · have hq := Lib.hid (HNO.out (.inl hb))
        have HB := Lib.hid hb
        clear hb
        go_wp2_with fail
        refine (l2BodyOk_any ao cap O _ hrow.out hOL HOS.out).mono ?_
        rintro e w2 ⟨rfl, rfl⟩
        rw [HB.out]
        go_wp2_with fail
        go_ret2
        exact .nil hq.out HBEL.out
      · obtain ⟨hb1, hb2⟩ := bodyB_bounds hb
        have HB := Lib.hid hb
        have HB2 := Lib.hid hb2
        by_cases hd : dotsAll O = s.data.toList
        · have hq := Lib.hid (HYES.out hb hd)
          have hd1 : ((⟨(dotsAll O).toArray⟩ : ByteArray)).toList = s.toList := by rw [Lib.toList_data, Lib.toList_data, hd]
          clear hb hb2 hd
          go_wp2_with fail
          refine (l2BodyOk_any ao cap O _ hrow.out hOL HOS.out).mono ?_
          rintro e w2 ⟨rfl, rfl⟩
          rw [HB.out]
          go_wp2_with fail
          refine (l2Dots_any ao cap O _ hrow.out hb1 HB2.out).mono ?_
          rintro e w2 ⟨rfl, rfl⟩
          go_wp2_with fail
          go_ret2
          exact .row hq.out rfl HOWN.out HBEL.out
        · have hq := Lib.hid (HNO.out (.inr hd))
          have hd1 : ¬ dotsAll O = s.toList := by rw [Lib.toList_data]; exact hd
          have hd2 : (dotsAll O == s.toList) = false := by rw [beq_eq_false_iff_ne]; exact hd1
          have hd3 : (!dotsAll O == s.toList) = true := by rw [hd2]; rfl
          clear hb hb2 hd
          go_wp2_with fail
          refine (l2BodyOk_any ao cap O _ hrow.out hOL HOS.out).mono ?_
          rintro e w2 ⟨rfl, rfl⟩
          rw [HB.out]
          go_wp2_with fail
          refine (l2Dots_any ao cap O _ hrow.out hb1 HB2.out).mono ?_
          rintro e w2 ⟨rfl, rfl⟩
          go_wp2_with fail
          go_ret2
          exact .nil hq.out HBEL.out
end Go.Proofs.YtfacdiimoncnnaaDoor
