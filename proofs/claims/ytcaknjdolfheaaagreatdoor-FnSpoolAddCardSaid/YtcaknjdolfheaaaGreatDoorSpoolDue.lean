/- Contracts: what of a spool is due. -/
import Derived.Test.YtcaknjdolfheaaaGreatDoorSpoolOks
import Derived.Test.YtcaknjdolfheaaaGreatDoorInts
namespace Go.Proofs.YtcaknjdolfheaaaGreatDoor
open Go Go.RowKit

def rcDue (now : Int) (x : RcptD) : Bool := decide (x.next ≤ now)
def dueB (now : Int) (x : ItemD) : Bool := x.rc.any (rcDue now)
def dueR (s : SpoolD) (now : Int) : List Int := if spoolB s = true then (s.items.filter (dueB now)).map ItemD.id else []
/-- What is due of the first k items. -/
def dueTo (s : SpoolD) (now : Int) (k : Nat) : List Int := ((s.items.take k).filter (dueB now)).map ItemD.id
theorem dueTo_zero (s : SpoolD) (now : Int) : dueTo s now 0 = [] := rfl
theorem dueTo_yes {s : SpoolD} {now : Int} {k : Nat} {x : ItemD} (hx : s.items[k]? = some x) (h : dueB now x = true) : dueTo s now (k + 1) = dueTo s now k ++ [x.id] := by
  obtain ⟨hk, e⟩ := List.getElem?_eq_some_iff.1 hx
  unfold dueTo
  rw [List.take_succ_eq_append_getElem hk, e, List.filter_append, List.map_append]
  simp [h]
theorem dueTo_no {s : SpoolD} {now : Int} {k : Nat} {x : ItemD} (hx : s.items[k]? = some x) (h : dueB now x = false) : dueTo s now (k + 1) = dueTo s now k := by
  obtain ⟨hk, e⟩ := List.getElem?_eq_some_iff.1 hx
  unfold dueTo
  rw [List.take_succ_eq_append_getElem hk, e, List.filter_append, List.map_append]
  simp [h]
theorem dueTo_end {s : SpoolD} {now : Int} {k : Nat} (hk : s.items.length ≤ k) (h : spoolB s = true) : dueTo s now k = dueR s now := by
  unfold dueTo dueR
  rw [List.take_of_length_le hk, if_pos h]
theorem dueTo_le (s : SpoolD) (now : Int) (k : Nat) : (dueTo s now k).length ≤ k := by
  unfold dueTo
  rw [List.length_map]
  exact Nat.le_trans (List.length_filter_le _ _) (by rw [List.length_take]; omega)
theorem dueR_le (s : SpoolD) (now : Int) : (dueR s now).length ≤ s.items.length := by
  unfold dueR
  split
  · rw [List.length_map]; exact List.length_filter_le _ _
  · exact Nat.zero_le _
abbrev intsR (ao : Option Addr) (cap : Nat) (xs : List Int) : Res := Res.row 3 1 (.slice ao xs.length cap) xs.length (xs.map (Value.int .i64))
abbrev intsV (v : Value) (xs : List Int) : Res := Res.row 3 1 v xs.length (xs.map (Value.int .i64))

set_option maxRecDepth 100000 in
theorem dueOne_any (a : Addr) (now : Int) (x : RcptD) (w : World) (hc : w.cell? a = some (.int .i64 now)) :
    Calls Tryz.prog 132 #[.agg (rcptV x), .pointer (some a)] w fun e w' => e = .returned (.bool (rcDue now x)) ∧ Below w.heap.size w w' := by
  have b0 : Seal (Below w.heap.size w (w.alloc (.cells (rcptV x) 105))) := ⟨(Below.refl _ _).alloc (Nat.le_refl _) _⟩
  have c1 := heldc hc b0.out
  clear hc
  go_enter Tryz.func132, Tryz.ntmps132
  go_wp2
  go_ret
  exact ⟨rfl, b0.out⟩

/-- Which recipient is due. -/
def dueAt (now : Int) (xs : List RcptD) (k : Nat) : Bool := match xs[k]? with
  | some x => rcDue now x
  | none => false
theorem dueAt_of {now : Int} {xs : List RcptD} {k : Nat} {x : RcptD} (h : xs[k]? = some x) : dueAt now xs k = rcDue now x := by unfold dueAt; rw [h]
theorem due_none {now : Int} {xs : List RcptD} (h : ∀ j, j < xs.length → dueAt now xs j = false) : xs.any (rcDue now) = false := by
  rw [List.any_eq_false]
  intro x hx
  obtain ⟨k, hk⟩ := List.getElem?_of_mem hx
  have := h k (List.getElem?_eq_some_iff.1 hk).1
  rw [dueAt_of hk] at this
  rw [this]
  exact Bool.false_ne_true
theorem due_some {now : Int} {xs : List RcptD} {k : Nat} (hk : k < xs.length) (h : dueAt now xs k = true) : xs.any (rcDue now) = true := by
  obtain ⟨x, hx⟩ : ∃ x, xs[k]? = some x := ⟨_, List.getElem?_eq_getElem hk⟩
  rw [dueAt_of hx] at h
  exact List.any_eq_true.2 ⟨x, List.mem_of_getElem? hx, h⟩

set_option maxHeartbeats 1600000 in
set_option maxRecDepth 100000 in
theorem isDue_any (x : ItemD) (p : ItemV) (now : Int) (w : World) (hat : ItemAt w x p) (hz : itemN x ≤ 1048576) :
    Calls Tryz.prog 73 #[.agg (itemV x p), .int .i64 now] w fun e w' => e = .returned (.bool (dueB now x)) ∧ Below w.heap.size w w' := by
  obtain ⟨_, _, z3, _, _, _⟩ := itemN_parts hz
  have s0 := ((St.start w).alloc (itemV x p) 43).alloc #[.int .i64 now] 3
  simp only [World.size_alloc] at s0
  have S0 : Seal _ := ⟨s0⟩
  have CF : Seal (∀ W, St w W [Res.cells (w.heap.size + 1) [.int .i64 now], Res.cells w.heap.size (itemL x p)] → Calls Tryz.prog 131 #[.slice p.a1 x.rc.length p.c1, .func (.func 132) #[] #[.pointer (some ⟨w.heap.size + 1, 0, none⟩)]] W (FindPost x.rc.length (dueAt now x.rc) (fun _ W => St w W [Res.cells (w.heap.size + 1) [.int .i64 now], Res.cells w.heap.size (itemL x p)]) (fun _ W => St w W [Res.cells (w.heap.size + 1) [.int .i64 now], Res.cells w.heap.size (itemL x p)]))) := ⟨fun W hW =>
    findRcpt_any 132 ⟨w.heap.size + 1, 0, none⟩ p.a1 p.c1 x.rc (dueAt now x.rc) _ _ W (enters_of Tryz.func132 (by kernel_rfl) rfl) z3 hW (fun k W W' h hb => h.later hb) w hat.rc (fun k W h => h.below)
      (fun k y W hy h => by
        refine (dueOne_any ⟨w.heap.size + 1, 0, none⟩ now y W (h.head.c 0 _ rfl)).mono ?_
        rintro e w1 ⟨rfl, hb1⟩
        rw [dueAt_of hy]
        exact ⟨rfl, fun _ => h.later hb1, fun _ => h.later hb1⟩)⟩
  clear hat hz s0
  go_enter Tryz.func73, Tryz.ntmps73
  go_wp2_with fail
  refine (recipients_any x p _).mono ?_
  rintro e w1 ⟨rfl, hb1⟩
  have S1 : Seal _ := ⟨S0.out.later hb1⟩
  clear hb1 S0
  go_wp2_with fail
  refine (CF.out _ S1.out).mono ?_
  rintro e w2 ⟨r, rfl, h⟩
  rcases h with ⟨k, hk, rfl, hq, _, hs⟩ | ⟨rfl, hn, hs⟩
  · have hm : Seal (dueB now x = true) := ⟨due_some hk hq⟩
    have B1 : Seal _ := ⟨hs.below⟩
    clear hs hq CF S1
    go_wp2
    go_ret
    exact ⟨ret_b hm.out.symm, B1.out⟩
  · have hm : Seal (dueB now x = false) := ⟨due_none hn⟩
    have B1 : Seal _ := ⟨hs.below⟩
    clear hs hn CF S1
    go_wp2
    go_ret
    exact ⟨ret_b hm.out.symm, B1.out⟩

/-- What a spool's due items are. -/
def DuePost (s : SpoolD) (now : Int) (w : World) (e : Ending) (w' : World) : Prop := ∃ ao cap, e = .returned (.slice ao (dueR s now).length cap) ∧ St w w' [intsR ao cap (dueR s now)]

set_option maxHeartbeats 3200000 in
set_option maxRecDepth 100000 in
theorem implSpoolDue_any (s : SpoolD) (ao : Option Addr) (cap : Nat) (now : Int) (w : World) (hm : HasMax w) (hat : ItemRow w ao s.items) (hz : spoolN s ≤ 1048576) :
    Calls Tryz.prog 21 #[.agg (spoolV s ao cap), .int .i64 now] w (DuePost s now w) := by
  obtain ⟨i0, hi, hz0, hz1, hz2⟩ := info_parts infoInt
  obtain ⟨z1, z2⟩ := spoolN_parts hz
  have HA : Seal _ := ⟨hat⟩
  have HZ : Seal _ := ⟨z2⟩
  have s0 := (St.start w).alloc (spoolV s ao cap) 25
  have S0 : Seal _ := ⟨s0⟩
  have C : Seal _ := ⟨implSpoolOk_any s ao cap _ (hm.below s0.below (Nat.le_refl _)) (hat.below itemP_stays s0.below (Nat.le_refl _)) hz⟩
  obtain ⟨v, hv⟩ : ∃ v, spoolB s = v := ⟨_, rfl⟩
  have HV : Seal _ := ⟨hv⟩
  rw [hv] at C
  clear hat hz hv hm s0 z2
  go_enter Tryz.func21, Tryz.ntmps21
  go_wp2_with fail
  refine C.out.mono ?_
  rintro e w1 ⟨rfl, hb1⟩
  have S1 : Seal _ := ⟨S0.out.later hb1⟩
  have g1 := S1.out.head.c 1 _ rfl
  clear hb1 S0 C
  cases v
  · have hq : Seal (dueR s now = []) := ⟨by unfold dueR; rw [HV.out]; rfl⟩
    have S2 : Seal _ := ⟨((St.start w).later S1.out.below).nothing 3 1⟩
    go_wp2
    go_ret
    exact ⟨none, 0, by rw [hq.out]; rfl, by rw [hq.out]; exact S2.out⟩
  · go_wp2
    go_loopw [5, 14] (fun v i wr => ∃ (k : Nat), k ≤ s.items.length ∧ i = .int .i64 k ∧ Seal (St w wr [intsV v (dueTo s now k)])) (fun _ i _ => s.items.length - (intOf i).toNat)
    case atStart => exact ⟨0, Nat.zero_le _, rfl, ⟨by rw [dueTo_zero]; exact ((St.start w).later S1.out.below).nothing 3 1⟩⟩
    case round =>
      obtain ⟨k, hk, rfl, S⟩ := hrel
      by_cases hlt : k < s.items.length
      · obtain ⟨x, hx⟩ : ∃ x, s.items[k]? = some x := ⟨_, List.getElem?_eq_getElem hlt⟩
        obtain ⟨b, off, p, rfl, c0, c1, c2, c3, c4, ia⟩ := itemAtB HA.out S.out.below hx
        have HX : Seal _ := ⟨hx⟩
        have S2 : Seal _ := ⟨S.out.alloc (itemV x p) 43⟩
        have hle := dueTo_le s now k
        obtain ⟨d, hd⟩ : ∃ d, dueB now x = d := ⟨_, rfl⟩
        have HD : Seal _ := ⟨hd⟩
        have CD : Seal _ := ⟨isDue_any x p now _ (ia.below S2.out.below (Nat.le_refl _)) (HZ.out x (List.mem_of_getElem? hx))⟩
        rw [hd] at CD
        clear hx hd ia S
        go_wp2_with fail
        refine CD.out.mono ?_
        rintro e w2 ⟨rfl, hb2⟩
        have S3 : Seal _ := ⟨S2.out.later hb2⟩
        have x0 := S3.out.head.c 0 _ rfl
        clear hb2 CD S2 c0 c1 c2 c3 c4
        cases d
        · have HT : Seal _ := ⟨dueTo_no HX.out HD.out⟩
          have S4 : Seal _ := ⟨S3.out.tail⟩
          rw [← HT.out] at S4
          clear hle S3 x0
          go_wp2
          go_roundw
          case rel => exact ⟨k + 1, by omega, by go_num, S4⟩
          case measure => simp [intOf]; omega
        · have HT : Seal _ := ⟨dueTo_yes HX.out HD.out⟩
          have S4 : Seal _ := ⟨S3.out.tail.more (.cells #[.int .i64 x.id] 3)⟩
          have ow : World.ownsRow _ 0 3 1 _ (dueTo s now k).length ((dueTo s now k).map (Value.int .i64)) := S4.out.head
          obtain ⟨m, hm⟩ : ∃ m, (dueTo s now k).length = m := ⟨_, rfl⟩
          rw [hm] at hle ow
          have HM : Seal _ := ⟨hm⟩
          have OW : Seal _ := ⟨ow⟩
          clear hm S3 ow
          go_wp2_with (at_builtin; refine wpList_append_own_at _ rfl _ _ 38 rfl 0 3 i0 (.int .i64 0) 1 8 Tryz.underlying38 hi hz0 hz1 hz2 rfl (by decide) _ _ _ rfl OW.out ⟨w2.heap.size, 0, none⟩ 1 1 [.int .i64 x.id] rfl rfl ?c1 ?c2 ?c3 ?c4 ?c5 ?_)
          case c1 =>
            intro j u hj
            match j, hj with
            | 0, hj => simp at hj; subst hj; simp [Addr.add]
          case c2 => intro u hu; simp at hu; subst hu; rfl
          case c3 => unfold maxLen; omega
          case c4 => omega
          case c5 => exact Nat.zero_le _
          intro v' w3 hown hg _ hat
          have s5 := S4.out.app hown hg (by rw [World.size_alloc]; exact hat)
          have S5 : Seal (St w w3 [intsV v' (dueTo s now (k + 1))]) := ⟨by
            unfold intsV
            rw [HT.out, List.length_append, HM.out, List.map_append]
            exact s5⟩
          clear hown hg hat OW S4 s5 x0
          go_wp2
          go_roundw
          case rel => exact ⟨k + 1, by omega, by go_num, S5⟩
          case measure => simp [intOf]; omega
      · obtain rfl : k = s.items.length := by omega
        have hown := S.out.head
        obtain ⟨bo, c, rfl, _⟩ := row_value hown
        have HE : Seal _ := ⟨dueTo_end (now := now) (Nat.le_refl _) HV.out⟩
        have s1 := S.out
        rw [HE.out] at s1
        have S6 : Seal _ := ⟨s1⟩
        clear hown s1 S
        go_wp2
        go_ret
        exact ⟨bo, c, congrArg (fun n => Ending.returned (Value.slice bo n c)) (congrArg List.length HE.out), S6.out⟩

theorem any_succ {α : Type} {f : α → Bool} {xs : List α} {k : Nat} {x : α} (hx : xs[k]? = some x) : (xs.take (k + 1)).any f = ((xs.take k).any f || f x) := by
  obtain ⟨hk, e⟩ := List.getElem?_eq_some_iff.1 hx
  rw [List.take_succ_eq_append_getElem hk, e, List.any_append]
  simp

end Go.Proofs.YtcaknjdolfheaaaGreatDoor
