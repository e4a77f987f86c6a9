/- SpoolMark, SpoolHeld. -/
import Derived.Test.YtcaknjdolfheaaaGreatDoorRowMark
import Derived.Test.YtcaknjdolfheaaaGreatDoorSpools
import Derived.Test.YtcaknjdolfheaaaGreatDoorMarksM
import Derived.Test.YtcaknjdolfheaaaGreatDoorHeld
namespace Go.Proofs.YtcaknjdolfheaaaGreatDoor
open Go Go.RowKit

def markOneR (k : Nat) : RcptD := ⟨markT k, markT (k + 1), ((k + 2 : Nat) : Int), ((k + 3 : Nat) : Int)⟩
def rcMarks (k n : Nat) : List RcptD := (List.range n).map fun i => markOneR (k + i * 4)
theorem rcMarks_length (k n : Nat) : (rcMarks k n).length = n := by simp [rcMarks]
theorem rcMarks_snoc (k n : Nat) : rcMarks k (n + 1) = rcMarks k n ++ [markOneR (k + n * 4)] := by simp [rcMarks, List.range_succ]
theorem rcMarks_get {k n i : Nat} (h : i < n) : (rcMarks k n)[i]? = some (markOneR (k + i * 4)) := by simp [rcMarks, h]
def itemMarks (x : ItemD) : Nat := 3 + x.rc.length * 4 + x.body.length
def markItem (k : Nat) (x : ItemD) : ItemD := ⟨(k : Int), markT (k + 1), markT (k + 2), rcMarks (k + 3) x.rc.length, markRow (k + 3 + x.rc.length * 4) x.body.length⟩
def markIs : Nat → List ItemD → List ItemD
  | _, [] => []
  | k, x :: xs => markItem k x :: markIs (k + itemMarks x) xs
theorem markIs_length : ∀ (k : Nat) (xs : List ItemD), (markIs k xs).length = xs.length
  | _, [] => rfl
  | _, _ :: xs => congrArg Nat.succ (markIs_length _ xs)
theorem markIs_snoc (k : Nat) (A : List ItemD) (x : ItemD) : markIs k (A ++ [x]) = markIs k A ++ [markItem (k + sumN itemMarks A) x] := by
  induction A generalizing k with
  | nil => simp [markIs, sumN]
  | cons a A ih =>
    rw [List.cons_append]
    unfold markIs
    rw [ih]
    have e : k + itemMarks a + sumN itemMarks A = k + sumN itemMarks (a :: A) := by unfold sumN; rw [List.map_cons, List.sum_cons]; omega
    rw [e]
    rfl
theorem rcptsR_marked (ao : Option Addr) (cap k n : Nat) : rcptsR ao cap (rcMarks k n) = Res.row 105 4 (.slice ao n cap) n (rcptE.all (rcMarks k n) (List.replicate n ())) := by
  unfold rcptsR ones
  rw [rcMarks_length]
theorem strsR_marked (ao : Option Addr) (cap k n : Nat) : strsR ao cap (markRow k n) = Res.row 9 1 (.slice ao n cap) n ((markRow k n).map Value.string) := by
  unfold strsR
  rw [markRow_length]

set_option maxHeartbeats 3200000 in
set_option maxRecDepth 100000 in
theorem markRcptS_any {X : Nat → Prop} (l : List Res) (k : Nat) (ao : Option Addr) (cap : Nat) (xs : List RcptD) (w0 w : World) (h : StX X w0 w (rcptsR ao cap xs :: l)) (hl : k + xs.length * 4 ≤ 16777216) :
    Calls Tryz.prog 173 #[.slice ao xs.length cap, .int .i64 k] w fun e w' => e = .returned (.int .i64 ((k + xs.length * 4 : Nat) : Int)) ∧ StX X w0 w' (rcptsR ao cap (rcMarks k xs.length) :: l) := by
  rcases slice_or h.head with h0 | ⟨g, rfl⟩
  · obtain rfl : xs = [] := List.eq_nil_of_length_eq_zero h0
    have S0 : Seal _ := ⟨h⟩
    clear h
    go_enter Tryz.func173, Tryz.ntmps173
    go_wp2
    go_loop [1, 5] (fun c i => c = .int .i64 k ∧ i = .int .i64 0) (fun _ _ => 0)
    case atStart => exact ⟨rfl, rfl⟩
    case round =>
      obtain ⟨rfl, rfl⟩ := hrel
      go_wp2
      go_ret
      exact ⟨by simp, S0.out⟩
  · have S0 : Seal (StX X w0 w (Res.row 105 rcptE.size (.slice (some ⟨g, 0, none⟩) xs.length cap) xs.length (rcptE.all (rcMarks k 0 ++ xs.drop 0) (ones xs)) :: l)) := ⟨h⟩
    clear h
    rw [rcptsR_marked]
    go_enter Tryz.func173, Tryz.ntmps173
    go_wp2
    go_loopw [1, 5] (fun c i wr => ∃ n : Nat, n ≤ xs.length ∧ i = .int .i64 n ∧ c = .int .i64 ((k + n * 4 : Nat) : Int) ∧ Seal (StX X w0 wr (Res.row 105 rcptE.size (.slice (some ⟨g, 0, none⟩) xs.length cap) xs.length (rcptE.all (rcMarks k n ++ xs.drop n) (ones xs)) :: l))) (fun _ i _ => xs.length - (intOf i).toNat)
    case atStart => exact ⟨0, Nat.zero_le _, rfl, rfl, S0⟩
    case round =>
      obtain ⟨n, hn, rfl, rfl, S⟩ := hrel
      clear S0
      by_cases hlt : n < xs.length
      · obtain ⟨x, hx⟩ : ∃ x, xs[n]? = some x := ⟨_, List.getElem?_eq_getElem hlt⟩
        have hd := drop_get hx
        have hml := rcMarks_length k n
        have hones : ones xs = List.replicate n () ++ () :: List.replicate (xs.length - (n + 1)) () := by
          show List.replicate xs.length () = _
          rw [← List.replicate_succ, List.replicate_append_replicate]
          congr 1
          omega
        have hPA : (List.replicate n ()).length = (rcMarks k n).length := by rw [hml, List.length_replicate]
        have s := S.out
        rw [hd, hones] at s
        have HP : Seal _ := ⟨hPA⟩
        have HML : Seal _ := ⟨hml⟩
        have HO : Seal _ := ⟨hones⟩
        have S1 : Seal _ := ⟨s⟩
        clear s S hd hml hones hPA hx
        go_wp2_with (go_at_call 172; refine (markText_int _ (k + n * 4) rfl (by omega) _).mono ?_)
        rintro e w1 ⟨rfl, hb1⟩
        have s1 := S1.out.later hb1
        obtain ⟨c0, f0⟩ := s1.elemCell rcptE HP.out HML.out hlt (j := 0) (by decide) rfl
        have c0' : w1.cell? ⟨g, n * 4, none⟩ = some (.string x.u) := c0
        have f0' : w1.frozen? ⟨g, n * 4, none⟩ = false := f0
        have S2 : Seal (StX X w0 (w1.setCell ⟨g, n * 4, none⟩ (.string (markT (k + n * 4)))) _) := ⟨s1.setElem rcptE HP.out HML.out (j := 0) (by decide) (.string (markT (k + n * 4))) { x with u := markT (k + n * 4) } rfl⟩
        clear hb1 s1 S1 c0 f0
        go_wp2_with (go_at_call 172; refine (markText_int _ (k + n * 4 + 1) (by push_cast; omega) (by omega) _).mono ?_)
        rintro e w2 ⟨rfl, hb2⟩
        have s2 := S2.out.later hb2
        obtain ⟨c1, f1⟩ := s2.elemCell rcptE HP.out HML.out hlt (j := 1) (by decide) rfl
        obtain ⟨c2, f2⟩ := s2.elemCell rcptE HP.out HML.out hlt (j := 2) (by decide) rfl
        obtain ⟨c3, f3⟩ := s2.elemCell rcptE HP.out HML.out hlt (j := 3) (by decide) rfl
        have c1' : w2.cell? ⟨g, n * 4 + 1, none⟩ = some (.string x.d) := c1
        have f1' : w2.frozen? ⟨g, n * 4 + 1, none⟩ = false := f1
        have c2' : w2.cell? ⟨g, n * 4 + 2, none⟩ = some (.int .i64 x.tries) := c2
        have f2' : w2.frozen? ⟨g, n * 4 + 2, none⟩ = false := f2
        have c3' : w2.cell? ⟨g, n * 4 + 3, none⟩ = some (.int .i64 x.next) := c3
        have f3' : w2.frozen? ⟨g, n * 4 + 3, none⟩ = false := f3
        have s3 := s2.setElem rcptE HP.out HML.out (j := 1) (by decide) (.string (markT (k + n * 4 + 1))) ⟨markT (k + n * 4), markT (k + n * 4 + 1), x.tries, x.next⟩ rfl
        have s4 := s3.setElem rcptE HP.out HML.out (j := 2) (by decide) (.int .i64 ((k + n * 4 + 2 : Nat) : Int)) ⟨markT (k + n * 4), markT (k + n * 4 + 1), ((k + n * 4 + 2 : Nat) : Int), x.next⟩ rfl
        have s5 := s4.setElem rcptE HP.out HML.out (j := 3) (by decide) (.int .i64 ((k + n * 4 + 3 : Nat) : Int)) (markOneR (k + n * 4)) rfl
        rw [← HO.out] at s5
        have ea : rcMarks k n ++ markOneR (k + n * 4) :: xs.drop (n + 1) = rcMarks k (n + 1) ++ xs.drop (n + 1) := by rw [rcMarks_snoc, List.append_assoc]; rfl
        rw [ea] at s5
        have S5 : Seal (StX X w0 ((((w2.setCell ⟨g, n * 4 + 1, none⟩ (.string (markT (k + n * 4 + 1)))).setCell ⟨g, n * 4 + 2, none⟩ (.int .i64 ((k + n * 4 + 2 : Nat) : Int))).setCell ⟨g, n * 4 + 3, none⟩ (.int .i64 ((k + n * 4 + 3 : Nat) : Int)))) _) := ⟨s5⟩
        have q2 : (((k + n * 4 : Nat) : Int) + 1 + 1) = ((k + n * 4 + 2 : Nat) : Int) := by push_cast; omega
        have q3 : (((k + n * 4 + 2 : Nat) : Int) + 1) = ((k + n * 4 + 3 : Nat) : Int) := by push_cast; omega
        clear hb2 s2 s3 s4 s5 S2 ea c1 c2 c3 f1 f2 f3 c0' f0'
        go_wp2
        go_roundw
        case rel => exact ⟨n + 1, by omega, by go_num, by go_num, by first | exact S5 | exact ⟨by simpa using S5.out⟩⟩
        case measure => simp [intOf]; omega
      · obtain rfl : n = xs.length := by omega
        have s := S.out
        rw [List.drop_length, List.append_nil] at s
        have S1 : Seal _ := ⟨s⟩
        clear s S
        go_wp2
        go_ret
        exact ⟨rfl, S1.out⟩

theorem perm_out (row : Res) (RA R RB l : List Res) : (row :: ((RA ++ (R ++ RB)) ++ l)).Perm (R ++ row :: (RA ++ (RB ++ l))) := by
  have h1 : ((RA ++ (R ++ RB)) ++ l).Perm (R ++ (RA ++ (RB ++ l))) := by
    rw [List.append_assoc, List.append_assoc]
    exact List.perm_append_comm_assoc _ _ _
  exact (h1.cons row).trans List.perm_middle.symm
theorem item_cells_marked (k : Nat) (x : ItemD) (p : ItemV) : itemE.cells (markItem k x) p = itemE.cells ⟨(k : Int), markT (k + 1), markT (k + 2), x.rc, x.body⟩ p := by
  show ([.int .i64 (k : Int), .string (markT (k + 1)), .string (markT (k + 2)), .slice p.a1 (rcMarks (k + 3) x.rc.length).length p.c1, .slice p.a2 (markRow (k + 3 + x.rc.length * 4) x.body.length).length p.c2] : List Value) = _
  rw [rcMarks_length, markRow_length]
  rfl
theorem markIs_next {k i : Nat} {xs : List ItemD} {x : ItemD} (hx : xs[i]? = some x) : markIs k (xs.take i) ++ markItem (k + sumN itemMarks (xs.take i)) x :: xs.drop (i + 1) = markIs k (xs.take (i + 1)) ++ xs.drop (i + 1) := by
  obtain ⟨hi, e⟩ := List.getElem?_eq_some_iff.1 hx
  rw [List.take_succ_eq_append_getElem hi, e, markIs_snoc, List.append_assoc]
  rfl

set_option maxHeartbeats 6400000 in
set_option maxRecDepth 100000 in
theorem markItemS_any {X : Nat → Prop} (l : List Res) (k : Nat) (ao : Option Addr) (cap : Nat) (xs : List ItemD) (ps : List ItemV) (hp : ps.length = xs.length) (w0 w : World) (h : StX X w0 w (itemsR ao cap xs ps ++ l)) (hl : k + sumN itemMarks xs ≤ 16777216) (hl2 : xs.length ≤ 1048576) :
    Calls Tryz.prog 102 #[.slice ao xs.length cap, .int .i64 k] w fun e w' => e = .returned (.int .i64 ((k + sumN itemMarks xs : Nat) : Int)) ∧ StX X w0 w' (itemsR ao cap (markIs k xs) ps ++ l) := by
  have eR : itemsR ao cap (markIs k xs) ps = Res.row 43 5 (.slice ao xs.length cap) xs.length (itemE.all (markIs k xs) ps) :: itemE.ress (markIs k xs) ps := by
    unfold itemsR Elem.row
    rw [markIs_length]
    rfl
  rw [eR]
  rcases slice_or h.head with h0 | ⟨g, rfl⟩
  · obtain rfl : xs = [] := List.eq_nil_of_length_eq_zero h0
    have S0 : Seal _ := ⟨h⟩
    clear h eR
    go_enter Tryz.func102, Tryz.ntmps102
    go_wp2
    go_loop [1, 5] (fun c i => c = .int .i64 k ∧ i = .int .i64 0) (fun _ _ => 0)
    case atStart => exact ⟨rfl, rfl⟩
    case round =>
      obtain ⟨rfl, rfl⟩ := hrel
      go_wp2
      go_ret
      exact ⟨by simp [sumN], S0.out⟩
  · have S0 : Seal (StX X w0 w (Res.row 43 itemE.size (.slice (some ⟨g, 0, none⟩) xs.length cap) xs.length (itemE.all (markIs k (xs.take 0) ++ xs.drop 0) ps) :: (itemE.ress (markIs k (xs.take 0) ++ xs.drop 0) ps ++ l))) := ⟨h⟩
    clear h eR
    have HP : Seal _ := ⟨hp⟩
    have HL : Seal _ := ⟨hl⟩
    clear hp hl
    go_enter Tryz.func102, Tryz.ntmps102
    go_wp2
    go_loopw [1, 5] (fun c i wr => ∃ n ki : Nat, n ≤ xs.length ∧ i = .int .i64 n ∧ c = .int .i64 (ki : Int) ∧ Seal (k + sumN itemMarks (xs.take n) = ki) ∧ Seal (StX X w0 wr (Res.row 43 itemE.size (.slice (some ⟨g, 0, none⟩) xs.length cap) xs.length (itemE.all (markIs k (xs.take n) ++ xs.drop n) ps) :: (itemE.ress (markIs k (xs.take n) ++ xs.drop n) ps ++ l)))) (fun _ i _ => xs.length - (intOf i).toNat)
    case atStart => exact ⟨0, k, Nat.zero_le _, rfl, rfl, ⟨by simp [sumN]⟩, S0⟩
    case round =>
      obtain ⟨n, ki, hn, rfl, rfl, HK, S⟩ := hrel
      clear S0
      by_cases hlt : n < xs.length
      · obtain ⟨x, hx⟩ : ∃ x, xs[n]? = some x := ⟨_, List.getElem?_eq_getElem hlt⟩
        obtain ⟨p, hpx⟩ : ∃ p, ps[n]? = some p := ⟨_, List.getElem?_eq_getElem (by rw [HP.out]; exact hlt)⟩
        have hA : (markIs k (xs.take n)).length = n := by rw [markIs_length, List.length_take]; omega
        have hPA : (ps.take n).length = (markIs k (xs.take n)).length := by rw [hA, List.length_take, HP.out]; omega
        have hps := take_drop_at hpx
        have hki : ki + itemMarks x = k + sumN itemMarks (xs.take (n + 1)) := by rw [sumN_snoc itemMarks hx, ← HK.out]; omega
        have hb : ki + itemMarks x ≤ 16777216 := by
          have h1 := sumN_split itemMarks xs (n + 1)
          have h2 := HL.out
          omega
        have hb2 : ki + 3 + x.rc.length * 4 + x.body.length ≤ 16777216 := by unfold itemMarks at hb; omega
        have s := S.out
        rw [drop_get hx] at s
        have HN : Seal _ := ⟨markIs_next (k := k) hx⟩
        rw [HK.out] at HN
        obtain ⟨PA, hPAe⟩ : ∃ PA, ps.take n = PA := ⟨_, rfl⟩
        obtain ⟨PB, hPBe⟩ : ∃ PB, ps.drop (n + 1) = PB := ⟨_, rfl⟩
        obtain ⟨A, hAe⟩ : ∃ A, markIs k (xs.take n) = A := ⟨_, rfl⟩
        obtain ⟨B, hBe⟩ : ∃ B, xs.drop (n + 1) = B := ⟨_, rfl⟩
        have HBE : Seal _ := ⟨hBe⟩
        rw [hPAe, hPBe] at hps
        rw [hAe, hBe, hps] at s
        rw [hAe, hBe] at HN
        rw [hPAe, hAe] at hPA
        rw [hAe] at hA
        have HPA : Seal _ := ⟨hPA⟩
        have HA : Seal _ := ⟨hA⟩
        have HPS : Seal _ := ⟨hps⟩
        have HKI : Seal (k + sumN itemMarks (xs.take (n + 1)) = ki + itemMarks x) := ⟨hki.symm⟩
        rw [itemE.ress_split hPA] at s
        have s' := (s.perm (perm_out _ _ _ _ _))
        have s1 : StX X w0 wr (Res.row 43 itemE.size (.slice (some ⟨g, 0, none⟩) xs.length cap) xs.length (itemE.all (A ++ x :: B) (PA ++ p :: PB)) :: rcptsR p.a1 p.c1 x.rc :: strsR p.a2 p.c2 x.body :: (itemE.ress A PA ++ (itemE.ress B PB ++ l))) := s'.three
        obtain ⟨c0, f0⟩ := s1.elemCell itemE hPA hA hlt (j := 0) (by decide) rfl
        have c0' : wr.cell? ⟨g, n * 5, none⟩ = some (.int .i64 x.id) := c0
        have f0' : wr.frozen? ⟨g, n * 5, none⟩ = false := f0
        have S2 : Seal (StX X w0 (wr.setCell ⟨g, n * 5, none⟩ (.int .i64 (ki : Int))) _) := ⟨s1.setElem itemE hPA hA (j := 0) (by decide) (.int .i64 (ki : Int)) { x with id := (ki : Int) } rfl⟩
        clear s s' s1 S hx hpx hA hPA hps hki hb hPAe hPBe hAe hBe c0 f0
        go_wp2_with (go_at_call 172; refine (markText_int _ (ki + 1) (by push_cast; omega) (by omega) _).mono ?_)
        rintro e w1 ⟨rfl, hb1⟩
        have s2 := S2.out.later hb1
        obtain ⟨c1, f1⟩ := s2.elemCell itemE HPA.out HA.out hlt (j := 1) (by decide) rfl
        have c1' : w1.cell? ⟨g, n * 5 + 1, none⟩ = some (.string x.fu) := c1
        have f1' : w1.frozen? ⟨g, n * 5 + 1, none⟩ = false := f1
        have S3 : Seal (StX X w0 (w1.setCell ⟨g, n * 5 + 1, none⟩ (.string (markT (ki + 1)))) _) := ⟨s2.setElem itemE HPA.out HA.out (j := 1) (by decide) (.string (markT (ki + 1))) ⟨(ki : Int), markT (ki + 1), x.fd, x.rc, x.body⟩ rfl⟩
        clear hb1 s2 S2 c1 f1 c0' f0'
        go_wp2_with (go_at_call 172; refine (markText_int _ (ki + 2) (by push_cast; omega) (by omega) _).mono ?_)
        rintro e w2 ⟨rfl, hb2'⟩
        have s3 := S3.out.later hb2'
        obtain ⟨c2, f2⟩ := s3.elemCell itemE HPA.out HA.out hlt (j := 2) (by decide) rfl
        have c2' : w2.cell? ⟨g, n * 5 + 2, none⟩ = some (.string x.fd) := c2
        have f2' : w2.frozen? ⟨g, n * 5 + 2, none⟩ = false := f2
        obtain ⟨c3, _⟩ := s3.elemCell itemE HPA.out HA.out hlt (j := 3) (by decide) rfl
        have c3' : w2.cell? ⟨g, n * 5 + 3, none⟩ = some (.slice p.a1 x.rc.length p.c1) := c3
        have S4 : Seal (StX X w0 (w2.setCell ⟨g, n * 5 + 2, none⟩ (.string (markT (ki + 2)))) _) := ⟨(s3.setElem itemE HPA.out HA.out (j := 2) (by decide) (.string (markT (ki + 2))) ⟨(ki : Int), markT (ki + 1), markT (ki + 2), x.rc, x.body⟩ rfl).two⟩
        have q3 : (ki : Int) + 1 + 1 + 1 = ((ki + 3 : Nat) : Int) := by push_cast; omega
        clear hb2' s3 S3 c2 f2 c3 c1' f1'
        go_wp2_with fail
        refine (markRcptS_any _ (ki + 3) p.a1 p.c1 x.rc w0 _ S4.out (by omega)).mono ?_
        rintro e w3 ⟨rfl, s4⟩
        have s5 := s4.two
        obtain ⟨c4, _⟩ := s5.elemCell itemE HPA.out HA.out hlt (j := 4) (by decide) rfl
        have c4' : w3.cell? ⟨g, n * 5 + 4, none⟩ = some (.slice p.a2 x.body.length p.c2) := c4
        have S5 : Seal _ := ⟨s4.three⟩
        have C5 : Seal _ := ⟨markStringS_row 0 p.c2 (ki + 3 + x.rc.length * 4) p.a2 x.body w3 S5.out.head (Nat.zero_le _) (by omega)⟩
        clear s4 s5 S4 c4 c3'
        go_wp2_with fail
        refine C5.out.mono ?_
        rintro e w4 ⟨rfl, ho, hg⟩
        have s6 := S5.out.write ho hg
        rw [← strsR_marked] at s6
        have s7 : StX X w0 w4 (itemE.res (markItem ki x) p ++ Res.row 43 itemE.size (.slice (some ⟨g, 0, none⟩) xs.length cap) xs.length (itemE.all (A ++ ⟨(ki : Int), markT (ki + 1), markT (ki + 2), x.rc, x.body⟩ :: B) (PA ++ p :: PB)) :: (itemE.ress A PA ++ (itemE.ress B PB ++ l))) := s6.two
        have s8 := s7.perm (perm_out _ _ _ _ _).symm
        have eC : itemE.all (A ++ ⟨(ki : Int), markT (ki + 1), markT (ki + 2), x.rc, x.body⟩ :: B) (PA ++ p :: PB) = itemE.all (A ++ markItem ki x :: B) (PA ++ p :: PB) := by
          rw [itemE.all_split HPA.out, itemE.all_split HPA.out, item_cells_marked]
        rw [eC, ← itemE.ress_split HPA.out, ← HPS.out, HN.out, ← HBE.out] at s8
        have S9 : Seal _ := ⟨s8⟩
        have q9 : ((ki + 3 + x.rc.length * 4 : Nat) : Int) + x.body.length = ((ki + itemMarks x : Nat) : Int) := by unfold itemMarks; push_cast; omega
        clear ho hg s6 s7 s8 eC S5 C5
        go_wp2
        go_roundw
        case rel => exact ⟨n + 1, ki + itemMarks x, by omega, by go_num, by first | rfl | (unfold itemMarks; go_num) | (unfold itemMarks; simp; omega), HKI, S9⟩
        case measure => simp [intOf]; omega
      · obtain rfl : n = xs.length := by omega
        have s := S.out
        rw [List.drop_length, List.append_nil, List.take_length] at s
        have hk := HK.out
        rw [List.take_length] at hk
        subst hk
        have S1 : Seal _ := ⟨s⟩
        clear s S HK
        go_wp2
        go_ret
        exact ⟨rfl, S1.out⟩
end Go.Proofs.YtcaknjdolfheaaaGreatDoor
namespace Go.Proofs.YtcaknjdolfheaaaGreatDoor
open Go Go.RowKit

set_option maxRecDepth 100000 in
theorem markSpool_any {X : Nat → Prop} (l : List Res) (k : Nat) (s : SpoolD) (ao : Option Addr) (cap : Nat) (ps : List ItemV) (hp : ps.length = s.items.length) (w0 w : World) (h : StX X w0 w (itemsR ao cap s.items ps ++ l)) (hl : k + sumN itemMarks s.items ≤ 16777216) (hl2 : s.items.length ≤ 1048576) :
    Calls Tryz.prog 44 #[.agg (spoolV s ao cap), .int .i64 k] w fun e w' => e = .returned (.int .i64 ((k + sumN itemMarks s.items : Nat) : Int)) ∧ StX X w0 w' (itemsR ao cap (markIs k s.items) ps ++ l) := by
  have C : Seal _ := ⟨markItemS_any l k ao cap s.items ps hp w0 _ (h.more (.cells (spoolV s ao cap) 25)) hl hl2⟩
  clear h hl hp
  go_enter Tryz.func44, Tryz.ntmps44
  go_wp2_with fail
  refine C.out.mono ?_
  rintro e w1 ⟨rfl, h1⟩
  have S1 : Seal _ := ⟨h1⟩
  clear h1 C
  go_wp2
  go_ret
  exact ⟨by first | rfl | simp, S1.out⟩

set_option maxHeartbeats 3200000 in
set_option maxRecDepth 100000 in
theorem heldRcptS_any (ao : Option Addr) (cap k N : Nat) (w : World) (hr : RcptRow w ao (rcMarks k N)) (hl : k + N * 4 ≤ 16777216) :
    Calls Tryz.prog 174 #[.slice ao N cap, .int .i64 k] w fun e w' => e = .returned (.int .i64 ((k + N * 4 : Nat) : Int)) ∧ Below w.heap.size w w' := by
  have HR : Seal _ := ⟨hr⟩
  clear hr
  go_enter Tryz.func174, Tryz.ntmps174
  go_wp2
  go_loopw [1, 5] (fun c i wr => ∃ n : Nat, n ≤ N ∧ i = .int .i64 n ∧ c = .int .i64 ((k + n * 4 : Nat) : Int) ∧ Seal (Below w.heap.size w wr)) (fun _ i _ => N - (intOf i).toNat)
  case atStart => exact ⟨0, Nat.zero_le _, rfl, rfl, ⟨Below.refl _ _⟩⟩
  case round =>
    obtain ⟨n, hn, rfl, rfl, hb⟩ := hrel
    by_cases hlt : n < N
    · obtain ⟨b, off, rfl, c0, c1, c2, c3⟩ := rcptAt (HR.out.below rcptP_stays hb.out (Nat.le_refl _)) (rcMarks_get hlt)
      unfold markOneR at c0 c1 c2 c3
      dsimp only at c0 c1 c2 c3
      have hkn : k + n * 4 ≤ 16777216 := by omega
      have hkm : k + n * 4 + 1 ≤ 16777216 := by omega
      go_wp2_with fail
      go_region_held3 (fun w' => w'.cell? ⟨b, off + n * 4, none⟩ = some (.string (markT (k + n * 4))) ∧ w'.cell? ⟨b, off + n * 4 + 1, none⟩ = some (.string (markT (k + n * 4 + 1))) ∧ w'.cell? ⟨b, off + n * 4 + 2, none⟩ = some (.int .i64 ((k + n * 4 + 2 : Nat) : Int)) ∧ w'.cell? ⟨b, off + n * 4 + 3, none⟩ = some (.int .i64 ((k + n * 4 + 3 : Nat) : Int)) ∧ Below wr.heap.size wr w') (first | exact ⟨c0, c1, c2, c3, (Below.refl _ _).drew⟩ | (go_split_ands; exact ⟨heldc (by assumption) hb1, heldc (by assumption) hb1, heldc (by assumption) hb1, heldc (by assumption) hb1, (by assumption : Below wr.heap.size wr _).trans (hb1.mono (by assumption : Below wr.heap.size wr _).size)⟩) | (go_split_ands; exact ⟨by assumption, by assumption, by assumption, by assumption, Below.drew (by assumption)⟩) | (go_split_ands; exact ⟨by assumption, by assumption, by assumption, by assumption, by assumption⟩)) (first | (go_at_call 172; refine (markText_int _ (k + n * 4) rfl hkn _).mono ?_; rintro e w1 ⟨rfl, hb1⟩))
      go_split_ands
      clear c0 c1 c2 c3
      have d0 := (by assumption : w1.cell? ⟨b, off + n * 4, none⟩ = _)
      have d1 := (by assumption : w1.cell? ⟨b, off + n * 4 + 1, none⟩ = _)
      have d2 := (by assumption : w1.cell? ⟨b, off + n * 4 + 2, none⟩ = _)
      have d3 := (by assumption : w1.cell? ⟨b, off + n * 4 + 3, none⟩ = _)
      have hbx := (by assumption : Below wr.heap.size wr w1)
      have HB1 : Seal _ := ⟨hb.out.trans (hbx.mono hb.out.size)⟩
      clear hb hbx hb1
      go_wp2_with fail
      go_region_held3 (fun w' => w'.cell? ⟨b, off + n * 4, none⟩ = some (.string (markT (k + n * 4))) ∧ w'.cell? ⟨b, off + n * 4 + 1, none⟩ = some (.string (markT (k + n * 4 + 1))) ∧ w'.cell? ⟨b, off + n * 4 + 2, none⟩ = some (.int .i64 ((k + n * 4 + 2 : Nat) : Int)) ∧ w'.cell? ⟨b, off + n * 4 + 3, none⟩ = some (.int .i64 ((k + n * 4 + 3 : Nat) : Int)) ∧ Below w1.heap.size w1 w') (first | exact ⟨d0, d1, d2, d3, (Below.refl _ _).drew⟩ | (go_split_ands; exact ⟨heldc (by assumption) hb2, heldc (by assumption) hb2, heldc (by assumption) hb2, heldc (by assumption) hb2, (by assumption : Below w1.heap.size w1 _).trans (hb2.mono (by assumption : Below w1.heap.size w1 _).size)⟩) | (go_split_ands; exact ⟨by assumption, by assumption, by assumption, by assumption, Below.drew (by assumption)⟩) | (go_split_ands; exact ⟨by assumption, by assumption, by assumption, by assumption, by assumption⟩)) (first | (go_at_call 172; refine (markText_int _ (k + n * 4 + 1) (by push_cast; omega) hkm _).mono ?_; rintro e w2 ⟨rfl, hb2⟩))
      go_split_ands
      have hbx := (by assumption : Below w1.heap.size w1 _)
      have HB2 : Seal _ := ⟨HB1.out.trans (hbx.mono HB1.out.size)⟩
      clear hbx d0 d1 d2 d3
      go_wp2
      go_roundw
      case rel => exact ⟨n + 1, by omega, by go_num, by go_num, HB2⟩
      case measure => simp [intOf]; omega
    · obtain rfl : n = N := by omega
      go_wp2
      go_ret
      exact ⟨rfl, hb.out⟩

theorem markIs_get : ∀ {k : Nat} {xs : List ItemD} {n : Nat} {x : ItemD}, xs[n]? = some x → (markIs k xs)[n]? = some (markItem (k + sumN itemMarks (xs.take n)) x)
  | _, [], _, _, h => by cases h
  | k, y :: ys, 0, x, h => by cases h; rfl
  | k, y :: ys, n + 1, x, h => by
    have h' : ys[n]? = some x := h
    have ih := markIs_get (k := k + itemMarks y) h'
    have e : k + itemMarks y + sumN itemMarks (ys.take n) = k + sumN itemMarks ((y :: ys).take (n + 1)) := by
      rw [List.take_succ_cons]; unfold sumN; rw [List.map_cons, List.sum_cons]; omega
    rw [e] at ih
    exact ih

set_option maxHeartbeats 6400000 in
set_option maxRecDepth 100000 in
theorem heldItemS_any (ao : Option Addr) (cap k : Nat) (xs : List ItemD) (w : World) (hr : ItemRow w ao (markIs k xs)) (hl : k + sumN itemMarks xs ≤ 16777216) (hl2 : xs.length ≤ 1048576) :
    Calls Tryz.prog 103 #[.slice ao xs.length cap, .int .i64 k] w fun e w' => e = .returned (.int .i64 ((k + sumN itemMarks xs : Nat) : Int)) ∧ Below w.heap.size w w' := by
  have HR : Seal _ := ⟨hr⟩
  have HL : Seal _ := ⟨hl⟩
  clear hr hl
  go_enter Tryz.func103, Tryz.ntmps103
  go_wp2
  go_loopw [1, 5] (fun c i wr => ∃ n ki : Nat, n ≤ xs.length ∧ i = .int .i64 n ∧ c = .int .i64 (ki : Int) ∧ Seal (k + sumN itemMarks (xs.take n) = ki) ∧ Seal (Below w.heap.size w wr)) (fun _ i _ => xs.length - (intOf i).toNat)
  case atStart => exact ⟨0, k, Nat.zero_le _, rfl, rfl, ⟨by simp [sumN]⟩, ⟨Below.refl _ _⟩⟩
  case round =>
    obtain ⟨n, ki, hn, rfl, rfl, HK, hb⟩ := hrel
    by_cases hlt : n < xs.length
    · obtain ⟨x, hx⟩ : ∃ x, xs[n]? = some x := ⟨_, List.getElem?_eq_getElem hlt⟩
      have hg := markIs_get (k := k) hx
      rw [HK.out] at hg
      obtain ⟨b, off, p, rfl, c0, c1, c2, c3, c4, ia⟩ := itemAt (HR.out.below itemP_stays hb.out (Nat.le_refl _)) hg
      have e3 : (markItem ki x).rc.length = x.rc.length := rcMarks_length _ _
      have e4 : (markItem ki x).body.length = x.body.length := markRow_length _ _
      rw [e3] at c3
      rw [e4] at c4
      unfold markItem at c0 c1 c2
      dsimp only at c0 c1 c2
      have IA : Seal (RcptRow wr p.a1 (rcMarks (ki + 3) x.rc.length) ∧ StrRow wr p.a2 (markRow (ki + 3 + x.rc.length * 4) x.body.length)) := ⟨ia.rc, ia.body⟩
      have hki : ki + itemMarks x = k + sumN itemMarks (xs.take (n + 1)) := by rw [sumN_snoc itemMarks hx, ← HK.out]; omega
      have HKI : Seal (k + sumN itemMarks (xs.take (n + 1)) = ki + itemMarks x) := ⟨hki.symm⟩
      have hbd : ki + itemMarks x ≤ 16777216 := by
        have h1 := sumN_split itemMarks xs (n + 1)
        have h2 := HL.out
        omega
      have hb2 : ki + 3 + x.rc.length * 4 + x.body.length ≤ 16777216 := by unfold itemMarks at hbd; omega
      have hk1 : ki + 1 ≤ 16777216 := by omega
      have hk2 : ki + 2 ≤ 16777216 := by omega
      have q0 : ((ki : Int) != (ki : Int)) = false := by simp
      clear hx hg ia e3 e4 hki hbd
      go_wp2_with fail
      go_region_held3 (fun w' => w'.cell? ⟨b, off + n * 5, none⟩ = some (.int .i64 (ki : Int)) ∧ w'.cell? ⟨b, off + n * 5 + 1, none⟩ = some (.string (markT (ki + 1))) ∧ w'.cell? ⟨b, off + n * 5 + 2, none⟩ = some (.string (markT (ki + 2))) ∧ w'.cell? ⟨b, off + n * 5 + 3, none⟩ = some (.slice p.a1 x.rc.length p.c1) ∧ w'.cell? ⟨b, off + n * 5 + 4, none⟩ = some (.slice p.a2 x.body.length p.c2) ∧ Below wr.heap.size wr w') (first | exact ⟨c0, c1, c2, c3, c4, (Below.refl _ _).drew⟩ | (go_split_ands; exact ⟨heldc (by assumption) hb1, heldc (by assumption) hb1, heldc (by assumption) hb1, heldc (by assumption) hb1, heldc (by assumption) hb1, (by assumption : Below wr.heap.size wr _).trans (hb1.mono (by assumption : Below wr.heap.size wr _).size)⟩) | (go_split_ands; exact ⟨by assumption, by assumption, by assumption, by assumption, by assumption, Below.drew (by assumption)⟩) | (go_split_ands; exact ⟨by assumption, by assumption, by assumption, by assumption, by assumption, by assumption⟩)) (first | (go_at_call 172; refine (markText_int _ (ki + 1) (by push_cast; omega) hk1 _).mono ?_; rintro e w1 ⟨rfl, hb1⟩))
      go_split_ands
      clear c0 c1 c2 c3 c4
      have d0 := (by assumption : w1.cell? ⟨b, off + n * 5, none⟩ = _)
      have d1 := (by assumption : w1.cell? ⟨b, off + n * 5 + 1, none⟩ = _)
      have d2 := (by assumption : w1.cell? ⟨b, off + n * 5 + 2, none⟩ = _)
      have d3 := (by assumption : w1.cell? ⟨b, off + n * 5 + 3, none⟩ = _)
      have d4 := (by assumption : w1.cell? ⟨b, off + n * 5 + 4, none⟩ = _)
      have hbx := (by assumption : Below wr.heap.size wr w1)
      have HB1 : Seal _ := ⟨hb.out.trans (hbx.mono hb.out.size)⟩
      have IA1 : Seal (RcptRow w1 p.a1 (rcMarks (ki + 3) x.rc.length) ∧ StrRow w1 p.a2 (markRow (ki + 3 + x.rc.length * 4) x.body.length)) := ⟨IA.out.1.later rcptP_stays hbx, IA.out.2.below hbx (Nat.le_refl _)⟩
      clear hb hbx hb1 IA
      go_wp2_with fail
      go_region_held3 (fun w' => w'.cell? ⟨b, off + n * 5, none⟩ = some (.int .i64 (ki : Int)) ∧ w'.cell? ⟨b, off + n * 5 + 1, none⟩ = some (.string (markT (ki + 1))) ∧ w'.cell? ⟨b, off + n * 5 + 2, none⟩ = some (.string (markT (ki + 2))) ∧ w'.cell? ⟨b, off + n * 5 + 3, none⟩ = some (.slice p.a1 x.rc.length p.c1) ∧ w'.cell? ⟨b, off + n * 5 + 4, none⟩ = some (.slice p.a2 x.body.length p.c2) ∧ Below w1.heap.size w1 w') (first | exact ⟨d0, d1, d2, d3, d4, (Below.refl _ _).drew⟩ | (go_split_ands; exact ⟨heldc (by assumption) hb2, heldc (by assumption) hb2, heldc (by assumption) hb2, heldc (by assumption) hb2, heldc (by assumption) hb2, (by assumption : Below w1.heap.size w1 _).trans (hb2.mono (by assumption : Below w1.heap.size w1 _).size)⟩) | (go_split_ands; exact ⟨by assumption, by assumption, by assumption, by assumption, by assumption, Below.drew (by assumption)⟩) | (go_split_ands; exact ⟨by assumption, by assumption, by assumption, by assumption, by assumption, by assumption⟩)) (first | (go_at_call 172; refine (markText_int _ (ki + 2) (by push_cast; omega) hk2 _).mono ?_; rintro e w2 ⟨rfl, hb2⟩))
      go_split_ands
      have hbx := (by assumption : Below w1.heap.size w1 w2)
      have HB2 : Seal _ := ⟨HB1.out.trans (hbx.mono HB1.out.size)⟩
      have IA2 : Seal (RcptRow w2 p.a1 (rcMarks (ki + 3) x.rc.length) ∧ StrRow w2 p.a2 (markRow (ki + 3 + x.rc.length * 4) x.body.length)) := ⟨IA1.out.1.later rcptP_stays hbx, IA1.out.2.below hbx (Nat.le_refl _)⟩
      clear d0 d1 d2 d3 d4
      have d3 := (by assumption : w2.cell? ⟨b, off + n * 5 + 3, none⟩ = _)
      have d4 := (by assumption : w2.cell? ⟨b, off + n * 5 + 4, none⟩ = _)
      have q3 : (ki : Int) + 1 + 1 + 1 = ((ki + 3 : Nat) : Int) := by push_cast; omega
      clear hbx hb2 IA1 HB1
      go_wp2_with fail
      refine (heldRcptS_any p.a1 p.c1 (ki + 3) x.rc.length _ IA2.out.1 (by omega)).mono ?_
      rintro e w3 ⟨rfl, hb3⟩
      have HB3 : Seal _ := ⟨HB2.out.trans (hb3.mono HB2.out.size)⟩
      have d4' := heldc d4 hb3
      have IA3 : Seal (StrRow w3 p.a2 (markRow (ki + 3 + x.rc.length * 4) x.body.length)) := ⟨IA2.out.2.below hb3 (Nat.le_refl _)⟩
      clear d3 d4 hb3 IA2 HB2
      go_wp2_with fail
      refine (heldStringS_own p.a2 p.c2 (ki + 3 + x.rc.length * 4) x.body.length _ IA3.out (by omega)).mono ?_
      rintro e w4 ⟨rfl, hb4⟩
      have HB4 : Seal _ := ⟨HB3.out.trans (hb4.mono HB3.out.size)⟩
      clear hb4 HB3 IA3 d4'
      go_wp2
      go_roundw
      case rel => exact ⟨n + 1, ki + itemMarks x, by omega, by go_num, by first | rfl | (unfold itemMarks; go_num) | (unfold itemMarks; simp; omega), HKI, HB4⟩
      case measure => simp [intOf]; omega
    · obtain rfl : n = xs.length := by omega
      have hk := HK.out
      rw [List.take_length] at hk
      subst hk
      clear HK
      go_wp2
      go_ret
      exact ⟨rfl, hb.out⟩

set_option maxRecDepth 100000 in
theorem heldSpool_any (k : Nat) (s : SpoolD) (n : Nat) (hn : n = s.items.length) (ao : Option Addr) (cap : Nat) (last : Int) (w : World) (hr : ItemRow w ao (markIs k s.items)) (hl : k + sumN itemMarks s.items ≤ 16777216) (hl2 : s.items.length ≤ 1048576) :
    Calls Tryz.prog 45 #[.agg #[.int .i64 last, .slice ao n cap], .int .i64 k] w fun e w' => e = .returned (.int .i64 ((k + sumN itemMarks s.items : Nat) : Int)) ∧ Below w.heap.size w w' := by
  subst hn
  have S0 : Seal _ := ⟨(St.start w).alloc #[.int .i64 last, .slice ao s.items.length cap] 25⟩
  have C : Seal _ := ⟨heldItemS_any ao cap k s.items _ (hr.below itemP_stays S0.out.below (Nat.le_refl _)) hl hl2⟩
  clear hr hl
  obtain ⟨m, hm⟩ : ∃ m, k + sumN itemMarks s.items = m := ⟨_, rfl⟩
  rw [hm] at C ⊢
  clear hm
  go_enter Tryz.func45, Tryz.ntmps45
  go_wp2_with fail
  refine C.out.mono ?_
  rintro e w1 ⟨rfl, hb1⟩
  have S1 : Seal _ := ⟨S0.out.later hb1⟩
  clear hb1 C S0
  go_wp2
  go_ret
  exact ⟨rfl, S1.out.below⟩
end Go.Proofs.YtcaknjdolfheaaaGreatDoor
