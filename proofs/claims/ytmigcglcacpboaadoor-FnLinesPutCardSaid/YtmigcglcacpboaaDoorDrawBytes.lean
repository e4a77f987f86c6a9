/- Contracts: bytes drawn, not too many. -/
import Derived.Test.YtmigcglcacpboaaDoorDraws
import Derived.Test.YtmigcglcacpboaaDoorByteOwn
namespace Go.Proofs.YtmigcglcacpboaaDoor
open Go Go.RowKit

set_option maxHeartbeats 2000000 in
set_option maxRecDepth 100000 in
theorem l20Bytes_any (B b P : Nat) (w : World) (h : Rd B b P w) (hP : P ≤ 400000) :
    Calls Tryd.prog 30 #[.pointer (some ⟨b, 0, none⟩)] w fun e w' => ∃ s : ByteArray, s.size ≤ 241 ∧ e = .returned (.string s) ∧ Rd B b (P + 1000) w' ∧ w.grownBy w' (some b) := by
  obtain ⟨i0, hi, hz0, hz1, hz2⟩ := info_parts infoByteO
  have HP := Lib.hid hP
  have hbw := h.lt.2
  have H := Lib.hid (h.more' (.cells #[] 5))
  have R0 := BRow.made w
  clear hP h
  go_enter Tryd.func30, Tryd.ntmps30
  go_wp2_with fail
  refine (one_at (m := 241) [0, 1, 2, 3, 5, 31, 90, 240, 241] H.out (by simp) (by have := HP.out; omega) rfl rfl (by decide) (by decide) (by decide)).mono ?_
  rintro e w1 ⟨N, hN, rfl, h1, g1⟩
  have O1 := Lib.hid (R0.kept (row := some b) g1 (.inr (by simp [Value.ownBlock]; omega)))
  have H1 := Lib.hid (h1.mono (P' := P + 1) (by omega))
  have G1 := Lib.hid (grow_alloc g1)
  clear h1 g1 H R0
  go_wp2_with fail
  go_loopw [3, 4] (fun o i wr => ∃ (n : Nat) (ao : Option Addr) (cap : Nat) (l : List UInt8), i = .int .i64 n ∧ o = .slice ao l.length cap ∧ n + l.length = N ∧ Hid (BRow wr w.heap.size ao cap l) ∧ Hid (Rd B b (P + 1 + 2 * l.length) wr) ∧ Hid (w.grownBy wr (some b))) (fun _ i _ => (intOf i).toNat)
  case atStart => exact ⟨N, _, _, [], rfl, rfl, rfl, O1, H1, G1⟩
  case round =>
    obtain ⟨n, ao, cap, l, rfl, rfl, hn, HR, HRd, HG⟩ := hrel
    clear O1 H1 G1
    have hgs := HG.out.size
    by_cases h0 : 0 < n
    · go_wp2_with fail
      refine (pick_at 256 HRd.out rfl (by have := HP.out; omega) (by decide) (by decide)).mono ?_
      rintro e w2 ⟨k, rfl, hk, h2, g2⟩
      have HR2 := Lib.hid (World.ownsRow.kept HR.out g2 (by
        cases e : (Value.slice ao l.length cap).ownBlock with
        | none => exact .inl rfl
        | some j => exact .inr (by have := (World.ownsRow.lt HR.out j e).1; simp; omega)))
      have HRd2 := Lib.hid (h2.more' (.cells #[.int .i64 0, .int .i64 97, .int .i64 61, .int .i64 32, .int .i64 255, .int .i64 46, .int .i64 126, .int .i64 127, .int .i64 (k : Int)] 3))
      have HRd2' := Lib.hid h2
      have HG2 := Lib.hid (HG.out.trans g2)
      have hgs2 := HG2.out.size
      clear HR HRd HG h2 g2
      go_wp2_with fail
      refine (one_at (m := 255) [0, 97, 61, 32, 255, 46, 126, 127, k] HRd2'.out (by simp) (by have := HP.out; omega) rfl rfl (by simp) (by simp) (by simp; omega)).mono ?_
      rintro e w3 ⟨x, hx, rfl, h3, g3⟩
      have HR3 : Hid (BRow w3 w.heap.size ao cap l) := Lib.hid (World.ownsRow.kept HR2.out g3 (by
        cases e : (Value.slice ao l.length cap).ownBlock with
        | none => exact .inl rfl
        | some j => exact .inr (by have := (World.ownsRow.lt HR2.out j e).1; simp; omega)))
      have HRd3 := Lib.hid h3
      have HG3 := Lib.hid (HG2.out.trans g3)
      have hgs3 := HG3.out.size
      obtain ⟨c, hc⟩ : ∃ c : UInt8, (x : Int) = (c.toNat : Int) := ⟨UInt8.ofNat x, by rw [UInt8.toNat_ofNat', Nat.mod_eq_of_lt (by omega)]⟩
      have q1 : IntKind.u8.wrap (x : Int) = (c.toNat : Int) := by rw [IntWalk.u8_in _ (by omega)]; exact hc
      clear HR2 HRd2 HRd2' HG2 h3 g3 hc
      have hown := HR3.out
      unfold BRow at hown
      go_wp2_with (at_builtin; refine wpList_append_own _ rfl _ _ 22 rfl w.heap.size 5 i0 (.int .u8 0) 1 1 Tryd.underlying22 hi hz0 hz1 hz2 rfl (by decide) _ _ _ rfl (hown.alloc _) ⟨w3.heap.size, 0, none⟩ 1 1 [.int .u8 (c.toNat : Int)] rfl rfl ?d1 ?d2 ?d3 ?d4 ?d5 ?_)
      case d1 => exact cell_one_new _ _ _
      case d2 => intro u hu; rw [List.mem_singleton.1 hu]; rfl
      case d3 => unfold maxLen; omega
      case d4 => omega
      case d5 => simp; omega
      intro v' w4 hown' hg _
      obtain ⟨a4, c4, rfl, R4⟩ := BRow.snoc hown'
      have hlt : ∀ j, (Value.slice ao l.length cap).ownBlock = some j → w.heap.size ≤ j := fun j e => (hown.lt j e).1
      have HR4 := Lib.hid R4
      have HRd4 := Lib.hid ((HRd3.out.more' (.cells #[.int .u8 (c.toNat : Int)] 5)).grown hg (fun j e => by have := hlt j e; omega))
      have HG4 := Lib.hid (grow_own (grow_more' HG3.out (.cells #[.int .u8 (c.toNat : Int)] 5)) hg hlt)
      clear hown hown' hg R4 HR3 HRd3 HG3 hlt
      go_wp2
      go_roundw
      case rel => exact ⟨n - 1, a4, c4, l ++ [c], by go_num, rfl, by rw [List.length_append, List.length_singleton]; omega, HR4, Lib.hid (HRd4.out.mono (by rw [List.length_append, List.length_singleton]; omega)), HG4⟩
      case measure => simp [intOf]; omega
    · have hcv := HR.out.conv
      have hll : l.length ≤ 241 := by omega
      go_wp2
      go_ret
      exact ⟨⟨l.toArray⟩, hll, rfl, HRd.out.mono (by omega), HG.out⟩
end Go.Proofs.YtmigcglcacpboaaDoor
