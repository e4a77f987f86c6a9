/- Contracts: marks written into a mail and a client's state, with what the rows hold then; and found there. -/
import Derived.Test.YtcaknjdolfheaaaGreatDoorMarksM
namespace Go.Proofs.YtcaknjdolfheaaaGreatDoor
open Go Go.RowKit

theorem markP_get (k n i : Nat) (h : i < n) : (markP k n)[i]? = some (markT (k + i * 2), markT (k + i * 2 + 1)) := by simp [markP, h]
theorem held_two {a1 a2 : Addr} {v1 v2 : Value} {B : Nat} {w0 w1 w2 : World} (h1 : w1.cell? a1 = some v1) (h2 : w1.cell? a2 = some v2) (hB : Below B w0 w1) (hBs : B ≤ w0.heap.size) (hb : Below w1.heap.size w1 w2) : w2.cell? a1 = some v1 ∧ w2.cell? a2 = some v2 ∧ Below B w0 w2 :=
  ⟨(hb.cell (World.block_lt_of_cell? w1 _ h1)).trans h1, (hb.cell (World.block_lt_of_cell? w1 _ h2)).trans h2, hB.trans (hb.mono (Nat.le_trans hBs hB.size))⟩

set_option maxHeartbeats 1600000 in
set_option maxRecDepth 100000 in
theorem heldAddrS_any (ao : Option Addr) (cap k N : Nat) (w : World) (hr : PairRow w ao (markP k N)) (hl : k + N * 2 ≤ 16777216) :
    Calls Tryz.prog 163 #[.slice ao N cap, .int .i64 k] w fun e w' => e = .returned (.int .i64 ((k + N * 2 : Nat) : Int)) ∧ Below w.heap.size w w' := by
  have HR := Lib.hid hr
  clear hr
  go_enter Tryz.func163, Tryz.ntmps163
  go_wp2
  go_loopw [1, 5] (fun c i wr => ∃ n : Nat, n ≤ N ∧ i = .int .i64 n ∧ c = .int .i64 ((k + n * 2 : Nat) : Int) ∧ Below w.heap.size w wr) (fun _ i _ => N - (intOf i).toNat)
  case atStart => exact ⟨0, Nat.zero_le _, rfl, rfl, Below.refl _ _⟩
  case round =>
    obtain ⟨n, hn, rfl, rfl, hb⟩ := hrel
    have hsz := hb.size
    by_cases hlt : n < N
    · obtain ⟨b, off, rfl, hc1, hc2⟩ := (HR.out.below hb (Nat.le_refl _)) n _ (markP_get k N n hlt)
      have hrefl : Below wr.heap.size wr wr := Below.refl _ _
      have hkn : k + n * 2 ≤ 16777216 := by omega
      have hkm : k + n * 2 + 1 ≤ 16777216 := by omega
      go_wp2_with fail
      go_region_held3 (fun w' => w'.cell? ⟨b, off + n * 2, none⟩ = some (.string (markT (k + n * 2))) ∧ w'.cell? ⟨b, off + n * 2 + 1, none⟩ = some (.string (markT (k + n * 2 + 1))) ∧ Below wr.heap.size wr w') (first | exact ⟨hc1, hc2, hrefl.drew⟩ | (go_split_ands; exact held_two (by assumption) (by assumption) (by assumption) (Nat.le_refl _) hb1) | (go_split_ands; exact ⟨by assumption, by assumption, Below.drew (by assumption)⟩) | (go_split_ands; exact ⟨by assumption, by assumption, by assumption⟩)) (first | (go_at_call 172; refine (markText_int _ (k + n * 2) rfl hkn _).mono ?_; rintro e w1 ⟨rfl, hb1⟩))
      go_split_ands
      clear hrefl hc1 hc2
      have hx1 := (by assumption : w1.cell? ⟨b, off + n * 2, none⟩ = _)
      have hx2 := (by assumption : w1.cell? ⟨b, off + n * 2 + 1, none⟩ = _)
      have hrefl2 : Below w1.heap.size w1 w1 := Below.refl _ _
      have hbx := (by assumption : Below wr.heap.size wr w1)
      have HB1 := Lib.hid (hb.trans (hbx.mono hsz))
      clear hb hbx hb1
      go_wp2_with fail
      go_region_held3 (fun w' => w'.cell? ⟨b, off + n * 2, none⟩ = some (.string (markT (k + n * 2))) ∧ w'.cell? ⟨b, off + n * 2 + 1, none⟩ = some (.string (markT (k + n * 2 + 1))) ∧ Below w1.heap.size w1 w') (first | exact ⟨hx1, hx2, hrefl2.drew⟩ | (go_split_ands; exact held_two (by assumption) (by assumption) (by assumption) (Nat.le_refl _) hb2) | (go_split_ands; exact ⟨by assumption, by assumption, Below.drew (by assumption)⟩) | (go_split_ands; exact ⟨by assumption, by assumption, by assumption⟩)) (first | (go_at_call 172; refine (markText_int _ (k + n * 2 + 1) (by omega) hkm _).mono ?_; rintro e w2 ⟨rfl, hb2⟩))
      go_split_ands
      have hbx := (by assumption : Below w1.heap.size w1 _)
      have HB2 := Lib.hid (HB1.out.trans (hbx.mono HB1.out.size))
      clear hbx hrefl2
      go_wp2
      go_roundw
      case rel => exact ⟨n + 1, by omega, by go_num, by go_num, HB2.out⟩
      case measure => simp [intOf]; omega
    · obtain rfl : n = N := by omega
      go_wp2
      go_ret
      exact ⟨rfl, hb⟩

set_option maxHeartbeats 1600000 in
theorem heldMail_any (k n1 n2 : Nat) (u d : ByteArray) (a1 : Option Addr) (c1 : Nat) (a2 : Option Addr) (c2 : Nat) (w : World) (h1 : PairRow w a1 (markP k n1)) (h2 : StrRow w a2 (markRow (k + n1 * 2) n2)) (hl : k + n1 * 2 + n2 ≤ 16777216) :
    Calls Tryz.prog 94 #[.agg #[.string u, .string d, .slice a1 n1 c1, .slice a2 n2 c2], .int .i64 k] w fun e w' => e = .returned (.int .i64 ((k + n1 * 2 + n2 : Nat) : Int)) ∧ Below w.heap.size w w' := by
  have X0 := Lib.hid (CellsM.new w #[.string u, .string d, .slice a1 n1 c1, .slice a2 n2 c2] 31)
  have b0 := Lib.hid ((Below.refl w.heap.size w).alloc (Nat.le_refl _) (.cells #[.string u, .string d, .slice a1 n1 c1, .slice a2 n2 c2] 31))
  have H1 := Lib.hid (h1.later b0.out)
  have H2 := Lib.hid (h2.below b0.out (Nat.le_refl _))
  have hn1 : ¬ (((k + n1 * 2 : Nat) : Int) < 0) := by omega
  have hn2 : ¬ (((k + n1 * 2 + n2 : Nat) : Int) < 0) := by omega
  clear h1 h2
  go_enter Tryz.func94, Tryz.ntmps94
  go_wp2_with fail
  generalize w.alloc (.cells #[.string u, .string d, .slice a1 n1 c1, .slice a2 n2 c2] 31) = W at *
  refine (heldAddrS_any a1 c1 k n1 W H1.out (by omega)).mono ?_
  rintro e w1 ⟨rfl, hb1⟩
  have X1 := X0.out.later hb1
  have q2 := X1.c 2 _ rfl
  have q3 := X1.c 3 _ rfl
  have HB1 := Lib.hid (b0.out.trans (hb1.mono b0.out.size))
  have H21 := Lib.hid (H2.out.below hb1 (Nat.le_refl _))
  clear hb1 X1
  generalize hN : k + n1 * 2 = N1 at *
  go_wp2_with fail
  refine (heldStringS_own a2 c2 N1 n2 _ H21.out (by omega)).mono ?_
  rintro e w2 ⟨rfl, hb2⟩
  have HB2 := Lib.hid (HB1.out.trans (hb2.mono HB1.out.size))
  clear hb2
  go_wp2
  go_ret
  exact ⟨ret_im (by omega), HB2.out⟩

set_option maxHeartbeats 1600000 in
theorem markMail_own (B k : Nat) (m : MailD) (a1 : Option Addr) (c1 : Nat) (a2 : Option Addr) (c2 : Nat) (w : World) (ho : MailOwn w B m a1 c1 a2 c2) (hB : B ≤ w.heap.size) (hl : k + m.rc.length * 2 + m.body.length ≤ 16777216) :
    Calls Tryz.prog 93 #[.agg (mailV m a1 c1 a2 c2), .int .i64 k] w fun e w' => e = .returned (.int .i64 ((k + m.rc.length * 2 + m.body.length : Nat) : Int)) ∧ GrownIn (mailS a1 a2) w w' ∧ w'.ownsRow B 27 2 (.slice a1 m.rc.length c1) m.rc.length (pairCells (markP k m.rc.length)) ∧ Row w' B a2 c2 (markRow (k + m.rc.length * 2) m.body.length) := by
  have X0 := Lib.hid (CellsM.new w (mailV m a1 c1 a2 c2) 31)
  have b0 : Below w.heap.size w (w.alloc (.cells (mailV m a1 c1 a2 c2) 31)) := (Below.refl _ _).alloc (Nat.le_refl _) _
  have O0 := Lib.hid (ho.later b0)
  have G0 : Hid (GrownIn (mailS a1 a2) w (w.alloc (.cells (mailV m a1 c1 a2 c2) 31))) := Lib.hid (.of_below b0)
  have N0 : Hid (¬ mailS a1 a2 w.heap.size) := Lib.hid (by
    rintro (h | h)
    · have := (ho.rc.lt h).2; omega
    · have := (ho.body.lt h).2; omega)
  have hs0 : w.heap.size ≤ (w.alloc (.cells (mailV m a1 c1 a2 c2) 31)).heap.size := by simp
  clear ho b0
  go_enter Tryz.func93, Tryz.ntmps93
  go_wp2_with fail
  generalize w.alloc (.cells (mailV m a1 c1 a2 c2) 31) = W at *
  refine (markAddrS_any B k a1 c1 m.rc W O0.out.rc (by omega)).mono ?_
  rintro e w1 ⟨rfl, r1, g1⟩
  have P1 := Lib.hid r1
  have NE := Lib.hid O0.out.ne.1
  have G1 : GrownIn (mailS a1 a2) W w1 := .of_grown g1 (fun g e => .inl e)
  have X1 := G1.cells X0.out N0.out
  have R1 := Lib.hid (O0.out.body.other g1 O0.out.ne.2)
  have HG := Lib.hid (G0.out.trans G1)
  have hs1 := g1.size
  have q0 := X1.c 0 _ rfl
  have q1 := X1.c 1 _ rfl
  have q2 := X1.c 2 _ rfl
  have q3 := X1.c 3 _ rfl
  clear X1 G1 g1 X0 O0 G0 r1
  go_wp2_with fail
  refine (markStringS_own B c2 (k + m.rc.length * 2) a2 m.body _ R1.out (by omega) (by omega)).mono ?_
  rintro e w2 ⟨rfl, r2, g2⟩
  have P2 := Lib.hid (P1.out.kept g2 (by rw [own_block]; exact NE.out))
  have R2 := Lib.hid r2
  have HG2 := Lib.hid (HG.out.trans (.of_grown g2 (fun g e => .inr e)))
  clear g2 q0 q1 q2 q3 r2
  go_wp2
  go_ret
  exact ⟨rfl, HG2.out, P2.out, R2.out⟩

end Go.Proofs.YtcaknjdolfheaaaGreatDoor
