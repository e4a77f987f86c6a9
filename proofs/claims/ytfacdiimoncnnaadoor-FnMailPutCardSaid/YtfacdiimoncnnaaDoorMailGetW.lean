/- Contract: MailGet of the model. -/
import Derived.Test.YtfacdiimoncnnaaDoorMailGetS
namespace Go.Proofs.YtfacdiimoncnnaaDoor
open Go Go.RowKit

/-- Two results: a mail of the call's own, and whether it is one. -/
def MailGetPost (w : World) (r : MailD × Bool) (e : Ending) (w' : World) : Prop :=
  ∃ a1 c1 a2 c2, e = .returned (.tuple #[.agg (mailV r.1 a1 c1 a2 c2), .bool r.2]) ∧ MailOwn w' w.heap.size r.1 a1 c1 a2 c2 ∧ Below w.heap.size w w'
theorem MailOwn.nothing (w : World) (B : Nat) : MailOwn w B noMail none 0 none 0 := ⟨World.ownsRow_nil _ _ _ _, World.ownsRow_nil _ _ _ _, ⟨.inl rfl, .inl rfl⟩⟩
theorem MailGetPost.no {w w' : World} {r : MailD × Bool} (h : r = (noMail, false)) (hb : Below w.heap.size w w') : MailGetPost w r (.returned (.tuple #[.agg (mailV noMail none 0 none 0), .bool false])) w' := by
  subst h
  exact ⟨none, 0, none, 0, rfl, MailOwn.nothing _ _, hb⟩

theorem marked_size {t : List UInt8} {x : ByteArray} (h : (markedR t x).2.2 = true) : (markedR t x).1.size ≤ x.size ∧ (markedR t x).2.1.size ≤ x.size := by
  obtain ⟨h1, h2⟩ := marked_ok h
  generalize (markedR t x).1 = u at *
  generalize (markedR t x).2.1 = d at *
  cases hn : nullB u d
  · have ha : addrB u d = true := by unfold whoOk at h2; simpa [hn] using h2
    have e : x.size = t.length + (u.size + d.size + 3) := by
      rw [Lib.size_eq, h1]
      unfold markL
      rw [List.length_append, ← Lib.size_eq]
      show _ + (putB u d).size = _
      rw [putB_addr ha, wire_size]
    omega
  · obtain ⟨e1, e2⟩ := nullB_true hn
    rw [Lib.toList_data] at e1 e2
    have z1 : u.size = 0 := by rw [Lib.size_eq, e1]; rfl
    have z2 : d.size = 0 := by rw [Lib.size_eq, e2]; rfl
    omega
theorem first_size {ls : List ByteArray} {n : Nat} (h : firstOk ls = true) (hs : ∀ x ∈ ls, x.size ≤ n) : (firstP ls).1.size ≤ n ∧ (firstP ls).2.size ≤ n := by
  cases ls with
  | nil => cases h
  | cons x xs =>
    have := marked_size (t := fromT) (x := x) h
    have := hs x List.mem_cons_self
    exact ⟨by show (markedR fromT x).1.size ≤ n; omega, by show (markedR fromT x).2.1.size ≤ n; omega⟩
theorem tos_size {xs : List ByteArray} {n : Nat} (h : xs.all toOk = true) (hs : ∀ x ∈ xs, x.size ≤ n) : ∀ p ∈ xs.map toP, p.1.size ≤ n ∧ p.2.size ≤ n := by
  intro p hp
  obtain ⟨x, hx, rfl⟩ := List.mem_map.1 hp
  have := marked_size (t := toT) (x := x) (List.all_eq_true.1 h x hx)
  have := hs x hx
  exact ⟨by show (markedR toT x).1.size ≤ n; omega, by show (markedR toT x).2.1.size ≤ n; omega⟩
theorem takeWhile_all {α : Type} {p : α → Bool} : ∀ l : List α, (l.takeWhile p).all p = true
  | [] => rfl
  | x :: l => by
    rw [List.takeWhile_cons]
    cases h : p x
    · rfl
    · simp only [if_true, List.all_cons, h, takeWhile_all l, Bool.and_self]
theorem takeWhile_mem {α : Type} {p : α → Bool} : ∀ {l : List α} {x : α}, x ∈ l.takeWhile p → x ∈ l
  | [], _, h => by cases h
  | y :: l, x, h => by
    rw [List.takeWhile_cons] at h
    split at h
    · rcases List.mem_cons.1 h with rfl | h
      · exact List.mem_cons_self
      · exact List.mem_cons_of_mem _ (takeWhile_mem h)
    · cases h
theorem head_parts {ls : List ByteArray} (h : headS ls = true) : firstOk ls = true ∧ 0 < headAt ls := by
  unfold headS at h
  rw [Bool.and_eq_true] at h
  refine ⟨h.1, ?_⟩
  cases ls with
  | nil => have := h.1; cases this
  | cons x xs =>
    unfold headAt
    rw [show 2 + tosN (x :: xs) = (1 + tosN (x :: xs)) + 1 by omega, List.take_succ_cons]
    show 0 < (x.size + 2) + _
    omega
theorem dotGetR_size {s : ByteArray} {b : List ByteArray} {ok : Bool} (h : dotGetR s = (b, ok)) : b.length ≤ 800 ∧ ∀ x ∈ b, x.size ≤ 800 := by
  unfold dotGetR at h
  split at h
  · rename_i hc
    simp only [Bool.and_eq_true, decide_eq_true_eq] at hc
    simp only [Prod.mk.injEq] at h
    rw [← h.1]
    have := outs_len s
    exact ⟨by omega, fun x hx => by have := outs_size hx; omega⟩
  · simp only [Prod.mk.injEq] at h
    rw [← h.1]
    exact ⟨by simp, fun x hx => (List.not_mem_nil hx).elim⟩
/-- The sizes of what the model reads. -/
theorem parsed_sz {s u d : ByteArray} {ps : List Pair} {b : List ByteArray} {ok : Bool} (hs : s.size ≤ 800) (h : headS (linesB s) = true) (h1 : (u, d) = firstP (linesB s)) (h2 : ps = tosOf (linesB s)) (hb : dotGetR (bodyOf s) = (b, ok)) : MailSz 1048576 ⟨u, d, ps, b⟩ := by
  have hz : ∀ x ∈ linesB s, x.size ≤ 800 := fun x hx => by have := lines_size hx; omega
  have hf := first_size (head_parts h).1 hz
  rw [← h1] at hf
  have hd := dotGetR_size hb
  have hl := lines_len s
  have ht : ∀ p ∈ ps, p.1.size ≤ 800 ∧ p.2.size ≤ 800 := by
    rw [h2]
    exact tos_size (takeWhile_all _) fun x hx => hz x (List.mem_of_mem_drop (takeWhile_mem hx))
  have hn : ps.length ≤ 800 := by
    rw [h2]
    unfold tosOf
    rw [List.length_map]
    have := (List.takeWhile_sublist (p := toOk) (l := (linesB s).drop 1)).length_le
    rw [List.length_drop] at this
    omega
  exact ⟨Nat.le_trans hf.1 (by omega), Nat.le_trans hf.2 (by omega), Nat.le_trans hn (by omega), fun p hp => ⟨Nat.le_trans (ht p hp).1 (by omega), Nat.le_trans (ht p hp).2 (by omega)⟩, Nat.le_trans hd.1 (by omega), fun x hx => Nat.le_trans (hd.2 x hx) (by omega)⟩
theorem parsed_eq {s u d : ByteArray} {ps : List Pair} {b : List ByteArray} {ok : Bool} (h1 : (u, d) = firstP (linesB s)) (h2 : ps = tosOf (linesB s)) (hb : dotGetR (bodyOf s) = (b, ok)) : parsed s = ⟨u, d, ps, b⟩ := by
  unfold parsed
  rw [hb, ← h1, ← h2]
theorem head_le (ls : List ByteArray) : headAt ls ≤ takes ls := takes_take _ _

/-- What the model asks, in its order. -/
theorem getS_head {s : ByteArray} (h : headS (linesB s) = false) : mailGetR s = (noMail, false) :=
  mailGetR_no fun m hw => by
    have := (read_written hw).1
    rw [h] at this; cases this
theorem getS_body {s : ByteArray} {b : List ByteArray} (h : dotGetR (bodyOf s) = (b, false)) : mailGetR s = (noMail, false) :=
  mailGetR_no fun m hw => by
    have := (read_written hw).2.2
    rw [h] at this; cases this
theorem getS_no {s : ByteArray} (h : writes (parsed s) s = false) : mailGetR s = (noMail, false) := by
  unfold mailGetR
  rw [h, Bool.and_false]; rfl
theorem getS_yes {s : ByteArray} (hs : s.size ≤ 800) (h : writes (parsed s) s = true) : mailGetR s = (parsed s, true) := mailGetR_yes h hs

/-- What is read behind the head. -/
structure BodyIs (s : ByteArray) (b : List ByteArray) (ok : Bool) : Prop where
  eq : dotGetR (bodyOf s) = (b, ok)

set_option maxHeartbeats 1600000 in
set_option maxRecDepth 100000 in
theorem specMailGet_any (s : ByteArray) (w : World) (hs : s.size ≤ 9223372036854775807) :
    Calls Tryd.prog 43 #[.string s] w (MailGetPost w (mailGetR s)) := by
  have S0 := Lib.hid ((St.start w).alloc #[.string { data := #[] }, .string { data := #[] }, .slice none 0 0, .slice none 0 0] 59)
  by_cases h800 : 800 < s.size
  · have hq := Lib.hid (mailGetR_no (s := s) fun m _ => h800)
    have S1 := Lib.hid ((((S0.out.set 0 (.string { data := #[] }) (by simp)).set 1 (.string { data := #[] }) (by simp)).set 2 (.slice none 0 0) (by simp)).set 3 (.slice none 0 0) (by simp))
    go_enter Tryd.func43, Tryd.ntmps43
    go_wp2
    refine bodyPost_ret (v := .tuple #[.agg (mailV noMail none 0 none 0), .bool false]) (by simp [results, Tryd.results43, go_sem, noMail]) rfl (MailGetPost.no hq.out ?_)
    first | exact S1.out.below | exact S0.out.below
  have hs8 : s.size ≤ 800 := by omega
  have C := Lib.hid (fun W => l2Get_any s W hs8)
  have HSZ : Hid (∀ x ∈ linesB s, x.size ≤ 800) := Lib.hid fun x hx => by have := lines_size hx; omega
  have hT : headAt (linesB s) ≤ s.size := by have := (takes_lines s).1; have := head_le (linesB s); omega
  have hLL := lines_len s
  cases hh : headS (linesB s)
  · have hq := Lib.hid (getS_head hh)
    have HH := Lib.hid hh
    clear hh
    go_enter Tryd.func43, Tryd.ntmps43
    go_wp2_with fail
    refine (C.out _).mono ?_
    rintro e w1 ⟨u, d, ps, a1, c1, p, rfl, b1, hor⟩
    obtain rfl : p = 0 := by
      rcases hor with ⟨_, h⟩ | ⟨h, _⟩
      · exact h
      · rw [HH.out] at h; cases h
    have S1 := Lib.hid ((S0.out.later b1).more (.cells (mailV ⟨u, d, ps, []⟩ a1 c1 none 0) 59))
    have S1' := (S0.out.later b1)
    obtain ⟨r0, r1, r2, r3, g0, g1, g2, g3⟩ := cells_two S1'.head
    have l2 := S1'.head.lt
    have S2 := Lib.hid (((((S1'.set 0 (.string { data := #[] }) (by simp)).set 1 (.string { data := #[] }) (by simp)).set 2 (.slice none 0 0) (by simp)).set 3 (.slice none 0 0) (by simp)).more (.cells (mailV ⟨u, d, ps, []⟩ a1 c1 none 0) 59))
    clear hor b1 S1'
    go_wp2
    refine bodyPost_ret (v := .tuple #[.agg (mailV noMail none 0 none 0), .bool false]) (by simp [results, Tryd.results43, go_sem, noMail, r0, r1, r2, r3, l2]) rfl (MailGetPost.no hq.out ?_)
    first | exact S2.out.below | exact S1.out.below
  · have hpos := (head_parts hh).2
    obtain ⟨⟨b, okb⟩, hb⟩ : ∃ r, dotGetR (bodyOf s) = r := ⟨_, rfl⟩
    have CD := Lib.hid (fun W => specDotGet_any (s.extract (headAt (linesB s)) s.size) W (by rw [ByteArray.size_extract]; omega))
    rw [show dotGetR (s.extract (headAt (linesB s)) s.size) = (b, okb) from hb] at CD
    have HB : BodyIs s b okb := ⟨hb⟩
    have HH := Lib.hid hh
    obtain ⟨n, hn⟩ : ∃ n, headAt (linesB s) = n := ⟨_, rfl⟩
    rw [hn] at CD hpos hT
    have HN := Lib.hid hn
    clear hb hh hn
    go_enter Tryd.func43, Tryd.ntmps43
    go_wp2_with fail
    refine (C.out _).mono ?_
    rintro e w1 ⟨u, d, ps, a1, c1, p, rfl, b1, hor⟩
    obtain ⟨rfl, h1, h2, r1⟩ : p = (n : Int) ∧ (u, d) = firstP (linesB s) ∧ ps = tosOf (linesB s) ∧ PRow w1 (w.alloc (.cells #[.string { data := #[] }, .string { data := #[] }, .slice none 0 0, .slice none 0 0] 59)).heap.size 56 a1 c1 ps := by
      rcases hor with ⟨h, _⟩ | ⟨_, h⟩
      · rw [HH.out] at h; cases h
      · rw [HN.out] at h; exact h
    have HSZ2 := Lib.hid (parsed_sz hs8 HH.out h1 h2 HB.eq)
    have HPE := Lib.hid (parsed_eq h1 h2 HB.eq)
    have S1 := Lib.hid ((S0.out.row b1 r1).alloc (mailV ⟨u, d, ps, []⟩ a1 c1 none 0) 59)
    have l1 := b1.size
    simp only [World.size_alloc] at l1
    have hn12 : w.heap.size ≠ w1.heap.size := by omega
    have hn21 : w1.heap.size ≠ w.heap.size := by omega
    clear hor b1 r1 h1 h2 C
    go_wp2_with fail
    (with_reducible refine (CD.out _).mono ?_)
    rintro e w2 ⟨a2, c2, rfl, r2, b2⟩
    have S2 := Lib.hid (S1.out.row b2 r2)
    clear b2 r2 S1
    obtain ⟨q0, q1, q2, q3, f0, f1, f2, f3⟩ := cells_two S2.out.two.head
    have S3 : Hid (St w (w2.setCell ⟨w1.heap.size, 3, none⟩ (.slice a2 b.length c2)) [Res.cells w1.heap.size [.string u, .string d, .slice a1 ps.length c1, .slice a2 b.length c2], Res.row 9 1 (.slice a2 b.length c2) b.length (b.map Value.string), Res.row 56 2 (.slice a1 ps.length c1) ps.length (pairCells ps), Res.cells w.heap.size noMailV]) := Lib.hid (S2.out.two.set 3 (.slice a2 b.length c2) (by simp))
    obtain ⟨r0, r1, r2, r3, g0, g1, g2, g3⟩ := cells_two S2.out.four.head
    have SZ := Lib.hid (fill4 S3.out (.string { data := #[] }) (.string { data := #[] }) (.slice none 0 0) (.slice none 0 0))
    cases okb
    · have hq := Lib.hid (getS_body HB.eq)
      go_wp2
      refine bodyPost_ret (v := .tuple #[.agg (mailV noMail none 0 none 0), .bool false]) (by simp [results, Tryd.results43, go_sem, noMail, r0, r1, r2, r3]) rfl (MailGetPost.no hq.out SZ.out.below)
    · have MA : Hid (MailAt (w2.setCell ⟨w1.heap.size, 3, none⟩ (.slice a2 b.length c2)) ⟨u, d, ps, b⟩ a1 a2) := Lib.hid ⟨PRow.pairs (B := 0) (t := 56) (cap := c1) S3.out.three.head, StrRow.of_own S3.out.two.head⟩
      have s3 : (w2.setCell ⟨w1.heap.size, 3, none⟩ (.slice a2 b.length c2)).heap.size = w2.heap.size := by simp
      have ht0 := S3.out.head
      clear q0 q1 q2 q3 f0 f1 f2 f3 r0 r1 r2 r3 g0 g1 g2 g3
      obtain ⟨q0, q1, q2, q3, f0, f1, f2, f3⟩ := cells_two S2.out.two.head
      cases hmb : mailB ⟨u, d, ps, b⟩
      · have hq := Lib.hid (getS_no (s := s) (by rw [HPE.out]; unfold writes; rw [hmb]; rfl))
        have HMB := Lib.hid hmb
        clear hmb ht0
        go_wp2_with fail
        (with_reducible refine (l2Ok_any ⟨u, d, ps, b⟩ a1 c1 a2 c2 _ MA.out HSZ2.out).mono ?_)
        rintro e w4 ⟨rfl, b4⟩
        rw [HMB.out]
        have S4 := Lib.hid (S3.out.later b4)
        obtain ⟨r0, r1, r2, r3, g0, g1, g2, g3⟩ := cells_two S4.out.four.head
        have SW := Lib.hid (fill4 S4.out (.string { data := #[] }) (.string { data := #[] }) (.slice none 0 0) (.slice none 0 0))
        clear b4
        go_wp2
        refine bodyPost_ret (v := .tuple #[.agg (mailV noMail none 0 none 0), .bool false]) (by simp [results, Tryd.results43, go_sem, noMail, r0, r1, r2, r3]) rfl (MailGetPost.no hq.out SW.out.below)
      · have HMB := Lib.hid hmb
        obtain ⟨z, hz⟩ : ∃ z : ByteArray, (⟨(mailL ⟨u, d, ps, b⟩).toArray⟩ : ByteArray) = z := ⟨_, rfl⟩
        have CP := Lib.hid (fun W h1 h2 => l2Put_any ⟨u, d, ps, b⟩ a1 c1 a2 c2 W h1 h2 hmb)
        rw [hz] at CP
        by_cases hzs : z = s
        · have hw : writes (parsed s) s = true := by
            rw [HPE.out]
            unfold writes
            rw [hmb, Bool.true_and, beq_iff_eq, ← hzs, ← hz]
          have hq := Lib.hid ((getS_yes hs8 hw).trans (by rw [HPE.out]))
          subst hzs
          clear hmb ht0 hz hw
          go_wp2_with fail
          (with_reducible refine (l2Ok_any ⟨u, d, ps, b⟩ a1 c1 a2 c2 _ MA.out HSZ2.out).mono ?_)
          rintro e w4 ⟨rfl, b4⟩
          rw [HMB.out]
          have S4 := Lib.hid (S3.out.later b4)
          have M4 := Lib.hid (MA.out.below b4 (Nat.le_refl _))
          have h4 := S4.out.head
          obtain ⟨p0, p1, p2, p3, _, _, _, _⟩ := cells_two h4
          clear b4
          go_wp2_with fail
          (with_reducible refine (CP.out _ M4.out HSZ2.out).mono ?_)
          rintro e w5 ⟨rfl, b5⟩
          have S5 := Lib.hid (S4.out.later b5)
          clear p0 p1 p2 p3 h4
          obtain ⟨p0, p1, p2, p3, _, _, _, _⟩ := cells_two S5.out.head
          obtain ⟨r0, r1, r2, r3, g0, g1, g2, g3⟩ := cells_two S5.out.four.head
          have SW := Lib.hid (fill4 S5.out (.string u) (.string d) (.slice a1 ps.length c1) (.slice a2 b.length c2))
          clear b5
          go_wp2
          refine bodyPost_ret (v := .tuple #[.agg (mailV ⟨u, d, ps, b⟩ a1 c1 a2 c2), .bool true]) (by simp [results, Tryd.results43, go_sem, r0, r1, r2, r3]) rfl ?_
          unfold MailGetPost
          rw [hq.out]
          exact ⟨a1, c1, a2, c2, rfl, ⟨SW.out.four.rowAt, SW.out.three.rowAt, by have h := SW.out.tail.tail.two.ne; rw [own_block, own_block] at h; exact h⟩, SW.out.below⟩
        · have hw : writes (parsed s) s = false := by
            rw [HPE.out]
            unfold writes
            rw [hmb, Bool.true_and, beq_eq_false_iff_ne]
            intro e
            exact hzs (by rw [← hz]; exact ba_extd e)
          have hq := Lib.hid (getS_no hw)
          have n1 : ¬ z.toList = s.toList := by
            rw [Lib.toList_data, Lib.toList_data]
            exact fun e => hzs (ba_extd e)
          have n2 : (z.toList == s.toList) = false := by rw [beq_eq_false_iff_ne]; exact n1
          clear hmb ht0 hz hw hzs
          go_wp2_with fail
          (with_reducible refine (l2Ok_any ⟨u, d, ps, b⟩ a1 c1 a2 c2 _ MA.out HSZ2.out).mono ?_)
          rintro e w4 ⟨rfl, b4⟩
          rw [HMB.out]
          have S4 := Lib.hid (S3.out.later b4)
          have M4 := Lib.hid (MA.out.below b4 (Nat.le_refl _))
          obtain ⟨p0, p1, p2, p3, _, _, _, _⟩ := cells_two S4.out.head
          clear b4
          go_wp2_with fail
          (with_reducible refine (CP.out _ M4.out HSZ2.out).mono ?_)
          rintro e w5 ⟨rfl, b5⟩
          have S5 := Lib.hid (S4.out.later b5)
          clear p0 p1 p2 p3
          obtain ⟨r0, r1, r2, r3, g0, g1, g2, g3⟩ := cells_two S5.out.four.head
          have SW := Lib.hid (fill4 S5.out (.string { data := #[] }) (.string { data := #[] }) (.slice none 0 0) (.slice none 0 0))
          clear b5
          go_wp2
          refine bodyPost_ret (v := .tuple #[.agg (mailV noMail none 0 none 0), .bool false]) (by simp [results, Tryd.results43, go_sem, noMail, r0, r1, r2, r3]) rfl (MailGetPost.no hq.out SW.out.below)
end Go.Proofs.YtfacdiimoncnnaaDoor
