/- Contracts: CodeGet of the model; the walk of FnExactCodeGet. -/
import Derived.Test.YtmigcglcacpboaaDoorCodeBytes
import Derived.Test.YtmigcglcacpboaaDoorCodeGet
namespace Go.Proofs.YtmigcglcacpboaaDoor
open Go Go.RowKit

theorem ret_gc {s : ByteArray} {a : ByteArray} {b : Bool} (h : codeGetB s = (a, b)) : Ending.returned (.tuple #[.string a, .bool b]) = .returned (.tuple #[.string (codeGetB s).1, .bool (codeGetB s).2]) := by rw [h]
theorem codeGetB_bad {s : ByteArray} (h : ∀ u : ByteArray, u.size ≤ 240 → s.size ≠ (u.size + 2) / 3 * 4) : codeGetB s = ({ data := #[] }, false) := by
  rcases codeGetB_cases s with ⟨u, hu, e1, _⟩ | ⟨_, e⟩
  · exact absurd (by rw [e1]; exact codePutB_size hu) (h u hu)
  · exact e

set_option maxHeartbeats 2000000 in
theorem specCodeGet_any (s : ByteArray) (w : World) (hs : s.size ≤ 1048576) :
    Calls Tryd.prog 16 #[.string s] w fun e w' => e = .returned (.tuple #[.string (codeGetB s).1, .bool (codeGetB s).2]) ∧ Below w.heap.size w w' := by
  by_cases h4 : s.size % 4 = 0
  · have c1 : ((s.size : Int) % 4 != 0) = false := by rw [bne_eq_false_iff_eq]; omega
    by_cases h322 : 322 < s.size
    · have hm : Hid (codeGetB s = ({ data := #[] }, false)) := Lib.hid (codeGetB_bad (fun u hu => by omega))
      clear h4
      go_enter Tryd.func16, Tryd.ntmps16
      go_wp2
      go_ret2
      exact ⟨ret_gc hm.out, Below.refl _ _⟩
    · clear h4
      go_enter Tryd.func16, Tryd.ntmps16
      go_wp2_with fail
      refine (l11Bytes_any s _ hs).mono ?_
      rintro e w1 ⟨⟨o, rfl, hol, hou⟩, b1⟩
      obtain ⟨t, ht⟩ : ∃ t : ByteArray, t = ⟨o.toArray⟩ := ⟨_, rfl⟩
      have hto : t.data.toList = o := by rw [ht]
      have hts : t.size = o.length := by rw [ht]; rfl
      rw [← ht]
      have HT := Lib.hid hto
      have HO := Lib.hid hou
      have HB1 := Lib.hid b1
      have htz : t.size ≤ 1048580 := by omega
      clear ht hto hts hou b1 hol
      by_cases h240 : 240 < t.size
      · have hm : Hid (codeGetB s = ({ data := #[] }, false)) := Lib.hid (by
          rcases codeGetB_cases s with ⟨u, hu, e1, _⟩ | ⟨_, e⟩
          · exfalso
            have e2 := HO.out u.data.toList (by rw [e1]; exact codePutB_data hu)
            have e4 := HT.out.trans e2
            have e5 : t.size = u.size := by rw [Lib.size_eq, e4, ← Lib.size_eq]
            omega
          · exact e)
        go_wp2
        go_ret2
        exact ⟨ret_gc hm.out, HB1.out⟩
      · obtain ⟨q, hq⟩ : ∃ q : ByteArray, q = ⟨(codeL t.data.toList).toArray⟩ := ⟨_, rfl⟩
        have HQ : Hid (q = codePutB t) := Lib.hid (by rw [hq]; unfold codePutB; rw [if_pos (by omega)])
        have CQ : Hid (∀ W : World, Calls Tryd.prog 36 #[.string t] W fun e w' => e = .returned (.string q) ∧ Below W.heap.size W w') := Lib.hid (fun W => by rw [hq]; exact l11Sixes_any t W (by omega))
        clear hq
        by_cases heq : q = s
        · have hm : Hid (codeGetB s = (t, true)) := Lib.hid (by rw [← heq, HQ.out]; exact codeGetB_put (by omega))
          have e1 : (q.toList == s.toList) = true := by rw [heq, beq_iff_eq]
          go_wp2_with fail
          refine (CQ.out _).mono ?_
          rintro e w2 ⟨rfl, b2⟩
          have HB2 := Lib.hid (HB1.out.trans (b2.mono HB1.out.size))
          rw [heq]
          clear b2 HB1 heq e1
          go_wp2
          go_ret2
          exact ⟨ret_gc hm.out, HB2.out⟩
        · have hm : Hid (codeGetB s = ({ data := #[] }, false)) := Lib.hid (by
            rcases codeGetB_cases s with ⟨u, hu, e1, _⟩ | ⟨_, e⟩
            · exfalso
              have e2 := HO.out u.data.toList (by rw [e1]; exact codePutB_data hu)
              have e3 : t = u := by
                have e4 := HT.out.trans e2
                cases t; cases u; simp_all
              exact heq (by rw [HQ.out, e3, ← e1])
            · exact e)
          have e1 := ne_toListc heq
          have e2 : (!q.toList == s.toList) = true := by rw [e1]; rfl
          have e3 : ¬ q.toList = s.toList := by simpa using e1
          clear heq
          go_wp2_with fail
          refine (CQ.out _).mono ?_
          rintro e w2 ⟨rfl, b2⟩
          have HB2 := Lib.hid (HB1.out.trans (b2.mono HB1.out.size))
          clear b2 HB1
          go_wp2
          go_ret2
          exact ⟨ret_gc hm.out, HB2.out⟩
  · have c1 : ((s.size : Int) % 4 != 0) = true := by rw [bne_iff_ne]; omega
    have hm : Hid (codeGetB s = ({ data := #[] }, false)) := Lib.hid (codeGetB_bad (fun u hu => by omega))
    clear h4
    go_enter Tryd.func16, Tryd.ntmps16
    go_wp2
    go_ret2
    exact ⟨ret_gc hm.out, Below.refl _ _⟩

theorem wFnExactCodeGet.walk (s : ByteArray) (w : World) (hs : s.size ≤ maxLen) (hf : FigCell w) :
    Calls Tryd.prog 8 #[.string s] w fun e w' => e = .returned (.bool true) ∧ Below w.heap.size w w' := by
  have HF := Lib.hid hf
  clear hf
  unfold maxLen at hs
  by_cases hbig : 1048576 < s.size
  · go_enter Tryd.func8, Tryd.ntmps8
    go_wp2
    go_ret
    exact ⟨rfl, Below.refl _ _⟩
  · have C := Lib.hid (fun w => specCodeGet_any s w (by omega))
    have D := Lib.hid (fun w hf => implCodeGet_any s w (by omega) hf)
    generalize (codeGetB s).1 = p at C D
    generalize (codeGetB s).2 = b at C D
    have q : (p.toList == p.toList) = true := by simp
    have qb : (b == b) = true := by simp
    go_enter Tryd.func8, Tryd.ntmps8
    go_wp2_with fail
    refine (C.out _).mono ?_
    rintro e w1 ⟨rfl, b1⟩
    have B1 := Lib.hid b1
    have F1 := Lib.hid (HF.out.below b1 (.inl (Nat.le_refl _)))
    clear b1
    go_wp2_with fail
    refine (D.out _ F1.out).mono ?_
    rintro e w2 ⟨rfl, b2⟩
    have B2 := Lib.hid (B1.out.trans (b2.mono B1.out.size))
    clear b2 B1
    go_wp2
    go_ret
    exact ⟨rfl, B2.out⟩
end Go.Proofs.YtmigcglcacpboaaDoor
