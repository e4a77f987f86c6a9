/- A mail without lines, copied by the model. -/
import Derived.Test.YtgjkoegpdfcadaaDoorCopies
namespace Go.Proofs.YtgjkoegpdfcadaaDoor
open Go Go.RowKit

set_option maxHeartbeats 6400000 in
set_option maxRecDepth 100000 in
theorem l2Copy_none (B : Nat) (m : MailD) (g1 c1 : Nat) (w : World) (ho : MailOwn w B m (some ⟨g1, 0, none⟩) c1 none 0) (hsz : MailSz 1048576 m) (hb0 : m.body = []) :
    Calls Tryd.prog 172 #[.agg (mailV m (some ⟨g1, 0, none⟩) c1 none 0)] w fun e w' => ∃ b1 d1 b2 d2, e = .returned (.agg (mailV m b1 d1 b2 d2)) ∧ MailOwn w' w.heap.size m b1 d1 b2 d2 ∧ Below w.heap.size w w' := by
  obtain ⟨i0, hi, hz0, hz1, hz2⟩ := info_parts infoA
  obtain ⟨j0, ji, jz0, jz1, jz2⟩ := info_parts infoS
  obtain ⟨fu, fd, rc, body⟩ := m
  cases hb0
  have z1 : rc.length ≤ 1048576 := hsz.rcl
  have z2 : True := trivial
  have S0 : Seal (St w _ [_, _]) := ⟨((St.start w).alloc (mailV ⟨fu, fd, rc, []⟩ (some ⟨g1, 0, none⟩) c1 none 0) 41).alloc #[.string { data := #[] }, .string { data := #[] }, .slice none 0 0, .slice none 0 0] 41⟩
  have hs0 : ((w.alloc (.cells (mailV ⟨fu, fd, rc, []⟩ (some ⟨g1, 0, none⟩) c1 none 0) 41)).alloc (.cells #[.string { data := #[] }, .string { data := #[] }, .slice none 0 0, .slice none 0 0] 41)).heap.size = w.heap.size + 1 + 1 := by simp
  have O0 : Seal _ := ⟨ho.later (S0.out.below)⟩
  have LA : Seal (∀ g, (Value.slice (some ⟨g1, 0, none⟩) rc.length c1).ownBlock = some g → g < w.heap.size) := ⟨fun g e => (World.ownsRow.lt ho.rc g e).2⟩
  clear ho hsz
  go_enter Tryd.func172, Tryd.ntmps172
  go_wp2_with fail
  generalize hW : (w.alloc (.cells (mailV ⟨fu, fd, rc, []⟩ (some ⟨g1, 0, none⟩) c1 none 0) 41)).alloc (.cells #[.string { data := #[] }, .string { data := #[] }, .slice none 0 0, .slice none 0 0] 41) = W at *
  have K1 : Seal (CellsM W w.heap.size [.string fu, .string fd, .slice (some ⟨g1, 0, none⟩) rc.length c1, .slice none 0 0]) := ⟨S0.out.two.head⟩
  have K2 : Seal (CellsM W (w.heap.size + 1) noMailV) := ⟨by have := S0.out.head; simp only [World.size_alloc] at this; exact this⟩
  have B0 : Seal (Below w.heap.size w W) := ⟨S0.out.below⟩
  have HS0 : Seal _ := ⟨hs0⟩
  have hk1 : w.heap.size < W.heap.size := by omega
  have hk2 : w.heap.size + 1 < W.heap.size := by omega
  clear hW S0 hs0
  have OA : Seal (∀ W', Below (w.heap.size + 1) W W' → W'.ownsRow 0 37 2 (.slice (some ⟨g1, 0, none⟩) rc.length c1) rc.length (pairCells rc)) := ⟨fun W' hb => row_below O0.out.rc (fun g e => Nat.lt_succ_of_lt (LA.out g e)) hb⟩
  have SA1 : Seal (St W (W.drew.alloc (.cells #[] 37)) _) := ⟨(St.start W).drew.made 37 2 #[] 0 (by unfold maxLen; omega) rfl⟩
  have ST1 : Seal (St W (W.drew.alloc (.cells #[] 9)) _) := ⟨(St.start W).drew.made 9 1 #[] 0 (by unfold maxLen; omega) rfl⟩
  have SA3 : Seal (St W ((W.drew.alloc (.cells #[] 9)).alloc (.cells #[] 37)) [Res.row 37 2 (.slice (some ⟨W.heap.size + 1, 0, none⟩) 0 0) 0 [], Res.row 9 1 (.slice (some ⟨W.heap.size, 0, none⟩) 0 0) 0 []]) := ⟨by
    have h := ST1.out.made 37 2 #[] 0 (by unfold maxLen; omega) rfl
    simp only [World.size_alloc] at h
    exact h⟩
  have ST3 : Seal (St W ((W.drew.alloc (.cells #[] 37)).alloc (.cells #[] 9)) [Res.row 9 1 (.slice (some ⟨W.heap.size + 1, 0, none⟩) 0 0) 0 [], Res.row 37 2 (.slice (some ⟨W.heap.size, 0, none⟩) 0 0) 0 []]) := ⟨by
    have h := SA1.out.made 9 1 #[] 0 (by unfold maxLen; omega) rfl
    simp only [World.size_alloc] at h
    exact h⟩
  have SA2 : Seal (St W ((W.drew.alloc (.cells #[] 37)).alloc (.cells #[] 9)) [Res.row 37 2 (.slice (some ⟨W.heap.size, 0, none⟩) 0 0) 0 [], Res.row 9 1 (.slice (some ⟨W.heap.size + 1, 0, none⟩) 0 0) 0 []]) := ⟨ST3.out.two⟩
  have ST2 : Seal (St W ((W.drew.alloc (.cells #[] 9)).alloc (.cells #[] 37)) [Res.row 9 1 (.slice (some ⟨W.heap.size, 0, none⟩) 0 0) 0 [], Res.row 37 2 (.slice (some ⟨W.heap.size + 1, 0, none⟩) 0 0) 0 []]) := ⟨SA3.out.two⟩
  obtain ⟨q0, q1, q2, q3, _⟩ := cells_two K1.out
  go_region_held3 (fun w' => w'.cell? ⟨w.heap.size, 0, none⟩ = some (.string fu) ∧ w'.cell? ⟨w.heap.size, 1, none⟩ = some (.string fd) ∧ w'.cell? ⟨w.heap.size, 2, none⟩ = some (.slice (some ⟨g1, 0, none⟩) rc.length c1) ∧ w'.cell? ⟨w.heap.size, 3, none⟩ = some (.slice none 0 0) ∧ Below (w.heap.size + 1) W w') (first | exact keep4 K1.out (Nat.lt_succ_self _) (Below.refl _ _).drew | (go_split_ands; exact keep4 K1.out (Nat.lt_succ_self _) (hb8.mono (by omega))) | (go_split_ands; have hbx := (by assumption : Below (w.heap.size + 1) W _); exact keep4 K1.out (Nat.lt_succ_self _) (hbx.alloc (Nat.le_trans (by omega) hbx.size) _)) | (go_split_ands; have hbx := (by assumption : Below (w.heap.size + 1) W _); exact keep4 K1.out (Nat.lt_succ_self _) ((((hbx.setCell (Nat.le_refl _) _).setCell (Nat.le_refl _) _).setCell (Nat.le_refl _) _).setCell (Nat.le_refl _) _)) | (go_split_ands; exact ⟨by assumption, by assumption, by assumption, by assumption, by assumption⟩)) (first | (go_split_ands; have hbx := (by assumption : Below (w.heap.size + 1) W _); first | (refine step_append_at (by rfl) _ _ 39 (by rfl) 0 37 i0 (.agg #[.string ByteArray.empty, .string ByteArray.empty]) 2 32 Tryd.underlying39 hi hz0 hz1 hz2 rfl (by decide) _ 0 [] (by rfl) (SA1.out.head) ⟨g1, 0, none⟩ rc.length c1 (pairCells rc) (by rfl) (pairCells_length _) (own_news (OA.out _ hbx)) (pairs_one' _) (by unfold maxLen; omega) (by omega) (Nat.zero_le _) ?_; intro v8 w8 ho8 hg8 hat8; have S8A : Seal _ := ⟨SA1.out.app ho8 hg8 hat8⟩; have hb8 : Below W.heap.size W w8 := S8A.out.below; obtain ⟨eA, dA, rfl⟩ := shape_own ho8; obtain ⟨r0, r1, r2, r3, f0, f1, f2, f3⟩ := cells_two (K2.out.later hb8); obtain ⟨ra0, ra1, ra2, ra3, fa0, fa1, fa2, fa3⟩ := cells_two ((K2.out.later hb8).more (.cells #[] 9)); clear ho8 hg8 hat8) | (refine step_append_at (by rfl) _ _ 39 (by rfl) 0 37 i0 (.agg #[.string ByteArray.empty, .string ByteArray.empty]) 2 32 Tryd.underlying39 hi hz0 hz1 hz2 rfl (by decide) _ 0 [] (by rfl) (SA2.out.head) ⟨g1, 0, none⟩ rc.length c1 (pairCells rc) (by rfl) (pairCells_length _) (own_news (OA.out _ hbx)) (pairs_one' _) (by unfold maxLen; omega) (by omega) (Nat.zero_le _) ?_; intro v8 w8 ho8 hg8 hat8; have S8A : Seal _ := ⟨SA2.out.app ho8 hg8 hat8⟩; have hb8 : Below W.heap.size W w8 := S8A.out.below; obtain ⟨eA, dA, rfl⟩ := shape_own ho8; obtain ⟨r0, r1, r2, r3, f0, f1, f2, f3⟩ := cells_two (K2.out.later hb8); obtain ⟨ra0, ra1, ra2, ra3, fa0, fa1, fa2, fa3⟩ := cells_two ((K2.out.later hb8).more (.cells #[] 9)); clear ho8 hg8 hat8) | (refine step_append_at (by rfl) _ _ 39 (by rfl) 0 37 i0 (.agg #[.string ByteArray.empty, .string ByteArray.empty]) 2 32 Tryd.underlying39 hi hz0 hz1 hz2 rfl (by decide) _ 0 [] (by rfl) (SA3.out.head) ⟨g1, 0, none⟩ rc.length c1 (pairCells rc) (by rfl) (pairCells_length _) (own_news (OA.out _ hbx)) (pairs_one' _) (by unfold maxLen; omega) (by omega) (Nat.zero_le _) ?_; intro v8 w8 ho8 hg8 hat8; have S8A : Seal _ := ⟨SA3.out.app ho8 hg8 hat8⟩; have hb8 : Below W.heap.size W w8 := S8A.out.below; obtain ⟨eA, dA, rfl⟩ := shape_own ho8; obtain ⟨r0, r1, r2, r3, f0, f1, f2, f3⟩ := cells_two (K2.out.later hb8); obtain ⟨ra0, ra1, ra2, ra3, fa0, fa1, fa2, fa3⟩ := cells_two ((K2.out.later hb8).more (.cells #[] 9)); clear ho8 hg8 hat8) | (refine step_append_nothing (by rfl) _ _ 23 (by rfl) 0 9 j0 1 Tryd.underlying23 ji _ 0 [] (by rfl) (ST1.out.head) (by rfl) ?_) | (refine step_append_nothing (by rfl) _ _ 23 (by rfl) 0 9 j0 1 Tryd.underlying23 ji _ 0 [] (by rfl) (ST2.out.head) (by rfl) ?_) | (refine step_append_nothing (by rfl) _ _ 23 (by rfl) 0 9 j0 1 Tryd.underlying23 ji _ 0 [] (by rfl) (ST3.out.head) (by rfl) ?_) | (refine step_append_nothing (by rfl) _ _ 23 (by rfl) 0 9 j0 1 Tryd.underlying23 ji _ 0 [] (by rfl) ((⟨S8A.out.two⟩ : Seal (St W _ [_, _])).out.head) (by rfl) ?_) | (refine step_append_nothing (by rfl) _ _ 23 (by rfl) 0 9 j0 1 Tryd.underlying23 ji _ 0 [] (by rfl) ((⟨S8A.out.made 9 1 #[] 0 (by unfold maxLen; omega) rfl⟩ : Seal (St W _ _)).out.head) (by rfl) ?_)))
  all_goals
    have hlk : w.heap.size + 1 < w8.heap.size := by have := hb8.size; omega
    have BF : Seal (Below w.heap.size w w8) := ⟨B0.out.trans (hb8.mono B0.out.size)⟩
    have hs8 := hb8.size
    first
      | (have FIN : MailOwn w8 W.heap.size ⟨fu, fd, rc, []⟩ eA dA (some ⟨W.heap.size, 0, none⟩) 0 := by
           refine StX.join (X := fun _ => False) (w0 := W) (l := []) ?_
           have h := S8A.out
           simp only [Nat.zero_add, List.nil_append] at h
           exact h
         have FF : Seal _ := ⟨FIN⟩
         clear FIN S8A
         go_wp2
         refine bodyPost_ret (v := .agg (mailV ⟨fu, fd, rc, []⟩ eA dA (some ⟨W.heap.size, 0, none⟩) 0)) (by simp [results, Tryd.results172, go_sem, r0, r1, r2, r3]) rfl ⟨eA, dA, some ⟨W.heap.size, 0, none⟩, 0, rfl, ?_, ?_⟩
         · refine (?_ : MailOwn _ W.heap.size ⟨fu, fd, rc, []⟩ eA dA (some ⟨W.heap.size, 0, none⟩) 0).base (by omega)
           iterate 4 (refine MailOwn.low ?_ (by omega) _ _)
           exact FF.out
         · iterate 4 (refine Below.setCell ?_ (by simp) _)
           exact BF.out)
      | (have FIN : MailOwn w8 W.heap.size ⟨fu, fd, rc, []⟩ eA dA (some ⟨W.heap.size + 1, 0, none⟩) 0 := by
           refine StX.join (X := fun _ => False) (w0 := W) (l := []) ?_
           have h := S8A.out
           simp only [Nat.zero_add, List.nil_append] at h
           exact h
         have FF : Seal _ := ⟨FIN⟩
         clear FIN S8A
         go_wp2
         refine bodyPost_ret (v := .agg (mailV ⟨fu, fd, rc, []⟩ eA dA (some ⟨W.heap.size + 1, 0, none⟩) 0)) (by simp [results, Tryd.results172, go_sem, r0, r1, r2, r3]) rfl ⟨eA, dA, some ⟨W.heap.size + 1, 0, none⟩, 0, rfl, ?_, ?_⟩
         · refine (?_ : MailOwn _ W.heap.size ⟨fu, fd, rc, []⟩ eA dA (some ⟨W.heap.size + 1, 0, none⟩) 0).base (by omega)
           iterate 4 (refine MailOwn.low ?_ (by omega) _ _)
           exact FF.out
         · iterate 4 (refine Below.setCell ?_ (by simp) _)
           exact BF.out)
      | (have FIN : MailOwn (w8.alloc (.cells #[] 9)) W.heap.size ⟨fu, fd, rc, []⟩ eA dA (some ⟨w8.heap.size, 0, none⟩) 0 := by
           refine StX.join (X := fun _ => False) (w0 := W) (l := []) ?_
           have h := (S8A.out.made 9 1 #[] 0 (by unfold maxLen; omega) rfl).two
           simp only [Nat.zero_add, List.nil_append] at h
           exact h
         have FF : Seal _ := ⟨FIN⟩
         have BG : Seal (Below w.heap.size w (w8.alloc (.cells #[] 9))) := ⟨BF.out.alloc (by omega) _⟩
         clear FIN S8A
         go_wp2
         refine bodyPost_ret (v := .agg (mailV ⟨fu, fd, rc, []⟩ eA dA (some ⟨w8.heap.size, 0, none⟩) 0)) (by simp [results, Tryd.results172, go_sem, r0, r1, r2, r3, hlk]) rfl ⟨eA, dA, some ⟨w8.heap.size, 0, none⟩, 0, rfl, ?_, ?_⟩
         · refine (?_ : MailOwn _ W.heap.size ⟨fu, fd, rc, []⟩ eA dA (some ⟨w8.heap.size, 0, none⟩) 0).base (by omega)
           iterate 4 (refine MailOwn.low ?_ (by omega) _ _)
           exact FF.out
         · iterate 4 (refine Below.setCell ?_ (by simp) _)
           exact BG.out)

theorem l2Copy_any (B : Nat) (m : MailD) (a1 : Option Addr) (c1 : Nat) (a2 : Option Addr) (c2 : Nat) (w : World) (ho : MailOwn w B m a1 c1 a2 c2) (hsz : MailSz 1048576 m) (h1 : 1 ≤ m.rc.length) :
    Calls Tryd.prog 172 #[.agg (mailV m a1 c1 a2 c2)] w fun e w' => ∃ b1 d1 b2 d2, e = .returned (.agg (mailV m b1 d1 b2 d2)) ∧ MailOwn w' w.heap.size m b1 d1 b2 d2 ∧ Below w.heap.size w w' := by
  rcases own_split ho.rc with ⟨_, h0, _⟩ | ⟨g1, rfl⟩
  · omega
  rcases own_split ho.body with ⟨rfl, h0, rfl⟩ | ⟨g2, rfl⟩
  · exact l2Copy_none B m g1 c1 w ho hsz (List.eq_nil_of_length_eq_zero h0)
  · exact l2Copy_some B m g1 c1 g2 c2 w ho hsz
end Go.Proofs.YtgjkoegpdfcadaaDoor
