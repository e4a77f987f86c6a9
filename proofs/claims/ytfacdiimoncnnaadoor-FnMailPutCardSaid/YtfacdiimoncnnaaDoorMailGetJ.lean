/- Contract: MailGet of the program, whole. -/
import Derived.Test.YtfacdiimoncnnaaDoorMailGetI
namespace Go.Proofs.YtfacdiimoncnnaaDoor
open Go Go.RowKit

set_option maxHeartbeats 3200000 in
set_option maxRecDepth 100000 in
theorem headGet_one (b off : Nat) (x : ByteArray) (w : World) (hm : HasMax w) (hr : StrRow w (some ⟨b, off, none⟩) [x]) (hx : x.size ≤ 1048576) :
    Calls Tryd.prog 116 #[.slice (some ⟨b, off, none⟩) 1 1] w (HeadIPost w [x]) := by
  have S0 : Seal _ := ⟨(St.start w).alloc #[.string { data := #[] }, .string { data := #[] }, .slice none 0 0, .slice none 0 0] 59⟩
  have hM0 := hm.below ((Below.refl w.heap.size w).alloc (Nat.le_refl _) (.cells #[.string { data := #[] }, .string { data := #[] }, .slice none 0 0, .slice none 0 0] 59)) (Nat.le_refl _)
  have C1 : Seal _ := ⟨markedAddr_any fromT x _ hM0 hx⟩
  obtain ⟨b', off', e0, hcell⟩ := hr 0 x rfl
  cases e0
  rw [Nat.add_zero] at hcell
  have hbw := World.block_lt_of_cell? w _ hcell
  obtain ⟨⟨u, d, ok⟩, hmk⟩ : ∃ r, markedR fromT x = r := ⟨_, rfl⟩
  rw [hmk] at C1
  have HMK : Seal (markedR fromT x = (u, d, ok)) := ⟨hmk⟩
  clear hm hr hmk hM0
  cases ok
  · have hq : Seal (headI [x] = false) := ⟨headI_first (by unfold fromOk; rw [HMK.out])⟩
    go_enter Tryd.func116, Tryd.ntmps116
    go_wp2_with fail
    refine C1.out.mono ?_
    rintro e w1 ⟨rfl, b1⟩
    have S1 := S0.out.later b1
    obtain ⟨r0, r1, r2, r3, g0, g1, g2, g3⟩ := cells_two S1.head
    have l2 := S1.head.lt
    have SZ : Seal _ := ⟨(((S1.set 0 (.string { data := #[] }) (by simp)).set 1 (.string { data := #[] }) (by simp)).set 2 (.slice none 0 0) (by simp)).set 3 (.slice none 0 0) (by simp) |>.more (.cells #[.string u, .string d] 56)⟩
    clear S1 b1
    go_wp2
    refine bodyPost_ret (v := .tuple #[.agg (mailV noMail none 0 none 0), .bool false]) (by simp [results, Tryd.results116, go_sem, noMail, r0, r1, r2, r3, l2]) rfl (HeadIPost.no hq.out SZ.out.below)
  · have HF : Seal (fromOk x = true ∧ fromP x = (u, d)) := ⟨by unfold fromOk fromP; rw [HMK.out]; exact ⟨rfl, rfl⟩⟩
    have hq : Seal (headI [x] = true) := ⟨headI_all HF.out.1 rfl⟩
    have HF2 : Seal ((u, d) = firstP [x]) := ⟨HF.out.2.symm⟩
    go_enter Tryd.func116, Tryd.ntmps116
    go_wp2_with fail
    refine C1.out.mono ?_
    rintro e w1 ⟨rfl, b1⟩
    have S1 : Seal _ := ⟨((S0.out.later b1).more (.cells #[.string u, .string d] 56)).alloc #[.string u, .string d, .slice none 0 0, .slice none 0 0] 59⟩
    have l1 := b1.size
    simp only [World.size_alloc] at l1
    have hn12 : w.heap.size ≠ w1.heap.size + 1 := by omega
    have hn21 : w1.heap.size + 1 ≠ w.heap.size := by omega
    have S2 : Seal (St w _ [Res.cells (w1.heap.size + 1) [.string u, .string d, .slice none 0 0, .slice none 0 0], Res.cells w.heap.size noMailV]) := ⟨by
      have h := S1.out
      simp only [World.size_alloc] at h
      exact h⟩
    clear b1 S1 S0 C1 hcell
    go_wp2
    go_loopw [26] (fun i wr => i = .int .i64 0 ∧ Seal (St w wr [Res.cells (w1.heap.size + 1) [.string u, .string d, .slice none 0 0, .slice none 0 0], Res.cells w.heap.size noMailV])) (fun _ _ => 0)
    case atStart => exact ⟨rfl, S2⟩
    case round =>
      obtain ⟨rfl, HSt⟩ := hrel
      clear S2
      obtain ⟨q0, q1, q2, q3, f0, f1, f2, f3⟩ := cells_two HSt.out.head
      obtain ⟨r0, r1, r2, r3, g0, g1, g2, g3⟩ := cells_two HSt.out.two.head
      have SZ : Seal _ := ⟨((((HSt.out.two.set 0 (.string u) (by simp)).set 1 (.string d) (by simp)).set 2 (.slice none 0 0) (by simp)).set 3 (.slice none 0 0) (by simp))⟩
      go_wp2
      refine bodyPost_ret (v := .tuple #[.agg (mailV ⟨u, d, [], []⟩ none 0 none 0), .bool true]) (by simp [results, Tryd.results116, go_sem, r0, r1, r2, r3]) rfl ⟨u, d, [], none, 0, by rw [hq.out], SZ.out.below, World.ownsRow_nil _ _ _ _, fun _ => ⟨HF2.out, rfl⟩⟩

theorem headGet_any (b off : Nat) (ls : List ByteArray) (h0 : ls ≠ []) (w : World) (hm : HasMax w) (hr : StrRow w (some ⟨b, off, none⟩) ls) (hl : ls.length ≤ 100000) (hs : ∀ z ∈ ls, z.size ≤ 1048576) :
    Calls Tryd.prog 116 #[.slice (some ⟨b, off, none⟩) ls.length ls.length] w (HeadIPost w ls) := by
  match ls, h0, hr, hl, hs with
  | [x], _, hr, _, hs => exact headGet_one b off x w hm hr (hs x List.mem_cons_self)
  | x :: y :: ys, _, hr, hl, hs => exact headGet_more b off x y ys w hm hr (by simp at hl; omega) hs

/-- strings.Cut at an empty line. -/
theorem cut2_any (s : ByteArray) (hs : s.size ≤ 1048576) : ∃ (h t : ByteArray) (f : Bool), h.size ≤ s.size ∧ t.size ≤ s.size ∧
    ((f = false ∧ Lib.indexB s crlf2 = -1) ∨ (f = true ∧ ∃ i : Nat, Lib.indexB s crlf2 = i ∧ h = s.extract 0 i ∧ t = textI s i)) ∧
    ∀ W, HasMax W → Calls Tryd.prog 115 #[.string s, .string { data := #[13, 10, 13, 10] }] W fun e w' => e = .returned (.tuple #[.string h, .string t, .bool f]) ∧ Below W.heap.size W w' := by
  rcases Lib.indexB_cases s crlf2 with e | ⟨i, e, hi⟩
  · refine ⟨s, ByteArray.empty, false, Nat.le_refl _, Nat.zero_le _, .inl ⟨rfl, e⟩, fun W hW => ?_⟩
    obtain ⟨m, hmx⟩ := hW
    obtain ⟨h1, h2, h3⟩ := Lib.cutB_miss _ _ e
    refine (Tryd.strings_Cut s crlf2 m W (by omega) hmx).mono ?_
    rintro e w' ⟨rfl, n, rfl⟩
    exact ⟨by rw [h1, h2, h3], below_drewN' _ _ _⟩
  · refine ⟨s.extract 0 i, textI s i, true, by rw [ByteArray.size_extract]; omega, by unfold textI; rw [ByteArray.size_extract]; omega, .inr ⟨rfl, i, e, rfl, rfl⟩, fun W hW => ?_⟩
    obtain ⟨m, hmx⟩ := hW
    obtain ⟨h1, h2, h3⟩ := Lib.cutB_hit _ _ _ e
    refine (Tryd.strings_Cut s crlf2 m W (by omega) hmx).mono ?_
    rintro e w' ⟨rfl, n, rfl⟩
    exact ⟨by rw [h1, h2, h3]; rfl, below_drewN' _ _ _⟩

theorem splitC_size {h : ByteArray} : (splitC h).length ≤ h.size + 1 ∧ ∀ x ∈ splitC h, x.size ≤ h.size := by
  unfold splitC
  have h1 := lines_len h
  refine ⟨by simp; omega, fun x hx => ?_⟩
  rcases List.mem_append.1 hx with hx | hx
  · exact lines_size hx
  · rw [List.mem_singleton.1 hx, ← (takes_lines h).2, ByteArray.size_extract]; omega

/-- strings.Split at the ends of lines. -/
theorem split_any (h : ByteArray) (W : World) (hm : HasMax W) (hs : h.size ≤ 1048576) :
    Calls Tryd.prog 117 #[.string h, .string { data := #[13, 10] }] W fun e w' => e = .returned (.slice (some ⟨W.heap.size, 0, none⟩) (splitC h).length (splitC h).length) ∧ StrRow w' (some ⟨W.heap.size, 0, none⟩) (splitC h) ∧ Below W.heap.size W w' := by
  obtain ⟨m, hmx⟩ := hm
  have e := split_lines h.size h (Nat.le_refl _)
  have hlen : Lib.countB h crlf + 1 = (splitC h).length := by
    rw [← e]
    exact (Lib.splitB_all crlf (by decide) 0 _ h rfl).symm
  refine (Tryd.strings_Split h crlf m W (by omega) hmx (by decide)).mono ?_
  rintro e' w' ⟨rfl, rfl⟩
  rw [hlen, e]
  refine ⟨rfl, fun k x hx => ⟨W.heap.size, 0, rfl, ?_⟩, (Below.refl _ _).alloc (Nat.le_refl _) _⟩
  rw [World.cell?_alloc_at _ _ _ _ rfl]
  simp [hx]

/-- What the program asks. -/
structure Asked (s h t : ByteArray) (f : Bool) (ls : List ByteArray) (hI : Bool) (b : List ByteArray) (okb : Bool) : Prop where
  lines : splitC h = ls
  head : headI ls = hI
  body : dotGetR t = (b, okb)
  cut : (f = false ∧ Lib.indexB s crlf2 = -1) ∨ (f = true ∧ ∃ i : Nat, Lib.indexB s crlf2 = i ∧ h = s.extract 0 i ∧ t = textI s i)
theorem Asked.no {s h t : ByteArray} {f hI okb : Bool} {ls b : List ByteArray} (q : Asked s h t f ls hI b okb) (hn : ¬ (f && (hI && okb)) = true) : mailGetR s = (noMail, false) := by
  rcases q.cut with ⟨_, e⟩ | ⟨rfl, i, e, rfl, rfl⟩
  · exact getI_none e
  · refine getI_no e ?_
    unfold okI linesI
    rw [q.lines, q.head, q.body]
    revert hn
    cases hI <;> cases okb <;> simp
theorem Asked.mail {s h t : ByteArray} {ls b : List ByteArray} (q : Asked s h t true ls true b true) : ∃ i : Nat, Lib.indexB s crlf2 = i ∧ mailI s i = ⟨(firstP ls).1, (firstP ls).2, (ls.drop 1).map toP, b⟩ ∧ okI s i = mailB (mailI s i) := by
  rcases q.cut with ⟨h, _⟩ | ⟨_, i, e, rfl, rfl⟩
  · cases h
  · refine ⟨i, e, ?_, ?_⟩
    · unfold mailI linesI
      rw [q.lines, q.body]
    · unfold okI linesI
      rw [q.lines, q.head, q.body]; rfl

set_option maxHeartbeats 3200000 in
set_option maxRecDepth 100000 in
theorem implMailGet_any (s : ByteArray) (w : World) (hm : HasMax w) (hs : s.size ≤ 9223372036854775807) :
    Calls Tryd.prog 44 #[.string s] w (MailGetPost w (mailGetR s)) := by
  have S0 : Seal _ := ⟨(St.start w).alloc #[.string { data := #[] }, .string { data := #[] }, .slice none 0 0, .slice none 0 0] 59⟩
  by_cases h800 : 800 < s.size
  · have hq : Seal _ := ⟨mailGetR_no (s := s) fun m _ => h800⟩
    go_enter Tryd.func44, Tryd.ntmps44
    go_wp2
    refine bodyPost_ret (v := .tuple #[.agg (mailV noMail none 0 none 0), .bool false]) (by simp [results, Tryd.results44, go_sem, noMail]) rfl (MailGetPost.no hq.out S0.out.below)
  obtain ⟨h, t, f, hh, ht, hcase, hC⟩ := cut2_any s (by omega)
  have CC : Seal _ := ⟨hC⟩
  have CS : Seal _ := ⟨fun W hW => split_any h W hW (by omega)⟩
  have hne : splitC h ≠ [] := by obtain ⟨x, xs, e⟩ := splitC_ne h; rw [e]; simp
  have hlz := (splitC_size (h := h)).1
  have hsz : ∀ x ∈ splitC h, x.size ≤ 800 := fun x hx => by have := (splitC_size (h := h)).2 x hx; omega
  obtain ⟨ls, hls⟩ : ∃ ls, splitC h = ls := ⟨_, rfl⟩
  rw [hls] at CS hne hlz hsz
  have CH : Seal _ := ⟨fun b off W h1 h2 => headGet_any b off ls hne W h1 h2 (by omega) (fun z hz => by have := hsz z hz; omega)⟩
  obtain ⟨⟨b, okb⟩, hb⟩ : ∃ r, dotGetR t = r := ⟨_, rfl⟩
  have CD : Seal (∀ W, HasMax W → Calls Tryd.prog 118 #[.string t] W (RowBoolPost W (b, okb))) := ⟨fun W hW => hb ▸ implDotGet_any t W hW (by omega)⟩
  obtain ⟨hI, hhI⟩ : ∃ q, headI ls = q := ⟨_, rfl⟩
  have HQ : Asked s h t f ls hI b okb := ⟨hls, hhI, hb, hcase⟩
  have HZ : Seal (∀ x ∈ ls, x.size ≤ 800) := ⟨hsz⟩
  have HM : Seal (HasMax w) := ⟨hm⟩
  clear hcase hC hls hb hhI hsz hne hm
  go_enter Tryd.func44, Tryd.ntmps44
  go_wp2_with fail
  refine (CC.out _ (HM.out.below S0.out.below (Nat.le_refl _))).mono ?_
  rintro e w1 ⟨rfl, b1⟩
  have S1 : Seal _ := ⟨S0.out.later b1⟩
  clear b1 S0 CC
  go_wp2_with fail
  refine (CS.out _ (HM.out.below S1.out.below (Nat.le_refl _))).mono ?_
  rintro e w2 ⟨rfl, hrow, b2⟩
  have S2 : Seal _ := ⟨S1.out.later b2⟩
  have HR : Seal _ := ⟨hrow⟩
  clear b2 S1 CS hrow
  go_wp2_with fail
  refine (CH.out _ _ _ (HM.out.below S2.out.below (Nat.le_refl _)) HR.out).mono ?_
  rintro e w3 ⟨u, d, ps, a1, c1, rfl, b3, r3, hps⟩
  rw [HQ.head] at hps ⊢
  have S3 : Seal _ := ⟨(S2.out.row b3 r3).alloc (mailV ⟨u, d, ps, []⟩ a1 c1 none 0) 59⟩
  have HPS : Seal _ := ⟨hps⟩
  have l3 := S2.out.head.lt
  have l4 := b3.size
  have hn12 : w.heap.size ≠ w3.heap.size := by omega
  have hn21 : w3.heap.size ≠ w.heap.size := by omega
  clear b3 r3 hps S2 HR CH
  go_wp2_with fail
  refine (CD.out _ (HM.out.below S3.out.below (Nat.le_refl _))).mono ?_
  rintro e w4 ⟨a2, c2, rfl, r4, b4⟩
  have S4 : Seal _ := ⟨S3.out.row b4 r4⟩
  clear b4 r4 S3 CD
  obtain ⟨q0, q1, q2, q3, f0, f1, f2, f3⟩ := cells_two S4.out.two.head
  obtain ⟨r0, r1, r2, r3, g0, g1, g2, g3⟩ := cells_two S4.out.four.head
  have S5 : Seal (St w (w4.setCell ⟨w3.heap.size, 3, none⟩ (.slice a2 b.length c2)) [Res.cells w3.heap.size [.string u, .string d, .slice a1 ps.length c1, .slice a2 b.length c2], Res.row 9 1 (.slice a2 b.length c2) b.length (b.map Value.string), Res.row 56 2 (.slice a1 ps.length c1) ps.length (pairCells ps), Res.cells w.heap.size noMailV]) := ⟨S4.out.two.set 3 (.slice a2 b.length c2) (by simp)⟩
  have SZ : Seal _ := ⟨fill4 S5.out (.string { data := #[] }) (.string { data := #[] }) (.slice none 0 0) (.slice none 0 0)⟩
  by_cases hall : (f && (hI && okb)) = true
  · obtain ⟨rfl, rfl, rfl⟩ : f = true ∧ hI = true ∧ okb = true := by simpa using hall
    obtain ⟨i, hi, hmi, hok⟩ := HQ.mail
    obtain ⟨e1, e2⟩ := HPS.out rfl
    have hml : mailI s i = ⟨u, d, ps, b⟩ := by rw [hmi, ← e1, ← e2]
    have hsz : MailSz 1048576 ⟨u, d, ps, b⟩ := by
      have hf : firstOk ls = true ∧ (ls.drop 1).all toOk = true := by have := HQ.head; unfold headI at this; rwa [Bool.and_eq_true] at this
      have z1 := first_size hf.1 HZ.out
      have z2 := tos_size hf.2 (fun x hx => HZ.out x (List.mem_of_mem_drop hx))
      rw [← e1] at z1
      rw [← e2] at z2
      have z3 := dotGetR_size HQ.body
      have z4 : ps.length ≤ ls.length := by rw [e2, List.length_map, List.length_drop]; omega
      exact ⟨Nat.le_trans z1.1 (by omega), Nat.le_trans z1.2 (by omega), Nat.le_trans z4 (by omega), fun p hp => ⟨Nat.le_trans (z2 p hp).1 (by omega), Nat.le_trans (z2 p hp).2 (by omega)⟩, Nat.le_trans z3.1 (by omega), fun x hx => Nat.le_trans (z3.2 x hx) (by omega)⟩
    have HSZ : Seal _ := ⟨hsz⟩
    have hcap := PRow.cap (w := w4) (B := 0) (t := 56) (ao := a1) (cap := c1) (ps := ps) S4.out.three.head
    have MA : Seal (MailAt (w4.setCell ⟨w3.heap.size, 3, none⟩ (.slice a2 b.length c2)) ⟨u, d, ps, b⟩ a1 a2) := ⟨⟨PRow.pairs (B := 0) (t := 56) (cap := c1) S5.out.three.head, StrRow.of_own S5.out.two.head⟩⟩
    have C6 : Seal _ := ⟨implMailOk_any ⟨u, d, ps, b⟩ a1 c1 a2 c2 _ (HM.out.below S5.out.below (Nat.le_refl _)) MA.out HSZ.out hcap⟩
    have HRes : Seal (mailGetR s = if mailB ⟨u, d, ps, b⟩ then (⟨u, d, ps, b⟩, true) else (noMail, false)) := ⟨by
      rw [hml] at hok
      cases hmb : mailB ⟨u, d, ps, b⟩
      · rw [hmb] at hok; rw [getI_no hi hok]; rfl
      · rw [hmb] at hok; rw [getI_yes hi (by omega) hok, hml]; rfl⟩
    obtain ⟨v, hv⟩ : ∃ v, mailB ⟨u, d, ps, b⟩ = v := ⟨_, rfl⟩
    rw [hv] at C6 HRes
    clear hi hmi hok e1 e2 hml hsz hv hall hcap
    go_wp2_with fail
    refine C6.out.mono ?_
    rintro e w6 ⟨rfl, b6⟩
    have S6 : Seal _ := ⟨S5.out.later b6⟩
    clear q0 q1 q2 q3 f0 f1 f2 f3 r0 r1 r2 r3 g0 g1 g2 g3 b6 C6
    obtain ⟨q0, q1, q2, q3, f0, f1, f2, f3⟩ := cells_two S6.out.head
    obtain ⟨r0, r1, r2, r3, g0, g1, g2, g3⟩ := cells_two S6.out.four.head
    cases v
    · have hq : Seal (mailGetR s = (noMail, false)) := ⟨HRes.out⟩
      have SW : Seal _ := ⟨fill4 S6.out (.string { data := #[] }) (.string { data := #[] }) (.slice none 0 0) (.slice none 0 0)⟩
      go_wp2
      refine bodyPost_ret (v := .tuple #[.agg (mailV noMail none 0 none 0), .bool false]) (by simp [results, Tryd.results44, go_sem, noMail, r0, r1, r2, r3]) rfl (MailGetPost.no hq.out SW.out.below)
    · have hq : Seal (mailGetR s = (⟨u, d, ps, b⟩, true)) := ⟨HRes.out⟩
      have SW : Seal _ := ⟨fill4 S6.out (.string u) (.string d) (.slice a1 ps.length c1) (.slice a2 b.length c2)⟩
      go_wp2
      refine bodyPost_ret (v := .tuple #[.agg (mailV ⟨u, d, ps, b⟩ a1 c1 a2 c2), .bool true]) (by simp [results, Tryd.results44, go_sem, r0, r1, r2, r3]) rfl ?_
      unfold MailGetPost
      rw [hq.out]
      exact ⟨a1, c1, a2, c2, rfl, ⟨SW.out.four.rowAt, SW.out.three.rowAt, by have h := SW.out.tail.tail.two.ne; rw [own_block, own_block] at h; exact h⟩, SW.out.below⟩
  · have hq : Seal (mailGetR s = (noMail, false)) := ⟨HQ.no hall⟩
    cases f <;> cases hI <;> cases okb <;> first | exact absurd rfl hall | skip
    all_goals
      clear hall
      go_wp2
      refine bodyPost_ret (v := .tuple #[.agg (mailV noMail none 0 none 0), .bool false]) (by simp [results, Tryd.results44, go_sem, noMail, r0, r1, r2, r3]) rfl (MailGetPost.no hq.out SZ.out.below)
end Go.Proofs.YtfacdiimoncnnaaDoor
