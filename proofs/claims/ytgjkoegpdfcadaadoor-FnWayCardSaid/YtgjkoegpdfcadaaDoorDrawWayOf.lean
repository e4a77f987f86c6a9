/- Contract: a host and a domain drawn. -/
import Derived.Test.YtgjkoegpdfcadaaDoorDrawAnyConf
import Derived.Deep.RegionWith
namespace Go.Proofs.YtgjkoegpdfcadaaDoor
open Go Go.RowKit

theorem field_dom (u d : ByteArray) : ∀ w : World, (Instr.field 37 (.agg #[.string u, .string d]) 1).run Tryd.prog w = .ok (.string d) w := fun _ => by kernel_rfl

set_option maxHeartbeats 2000000 in
set_option maxRecDepth 100000 in
theorem drawWayOf_any (ao : Option Addr) (len cap : Nat) (w : World) (hr : ByteRow w ao len) (hl : len ≤ cap) (hc : cap ≤ maxLen) :
    Calls Tryd.prog 15 #[.slice ao len cap] w fun e w' => ∃ c g1 c1 g2 c2 d, e = .returned (.tuple #[.agg (confV c (some ⟨g1, 0, none⟩) c1 (some ⟨g2, 0, none⟩) c2), .string d]) ∧ ConfAt w' c (some ⟨g1, 0, none⟩) (some ⟨g2, 0, none⟩) ∧ ConfSz 40 c ∧ d.size ≤ 20 ∧ Below w.heap.size w w' := by
  have C := Lib.hid (fun W h1 => l20Open_any ao len cap W h1 hl hc)
  have b0 : Below w.heap.size w (w.alloc (.cells #[.string { data := #[] }, .slice none 0 0, .slice none 0 0] 26)) := (Below.refl _ _).alloc (Nat.le_refl _) _
  have R0 := Lib.hid (CellsM.new w #[.string { data := #[] }, .slice none 0 0, .slice none 0 0] 26)
  have HR := Lib.hid (hr.below b0 (Nat.le_refl _))
  clear hr hl hc
  go_enter Tryd.func15, Tryd.ntmps15
  go_wp2_with fail
  refine (C.out _ HR.out).mono ?_
  rintro e w1 ⟨b, rfl, h1, b1⟩
  simp only [World.size_alloc] at h1 b1
  have hlo := h1.lt
  have R1 := Lib.hid (R0.out.later (b1.mono (by simp)))
  have B1 := Lib.hid (b0.trans (b1.mono (by omega)))
  have hs1 := b1.size
  simp only [World.size_alloc] at hs1
  have H1 := Lib.hid h1
  clear h1 b1 R0 b0
  go_wp2_with fail
  refine (l20AnyConf_any _ b 0 _ H1.out (by omega)).mono ?_
  rintro e w2 ⟨c, g1, c1, g2, c2, rfl, hown, hsz, h2, hg2⟩
  have hs2 := hg2.size
  have R2 := Lib.hid ((R1.out.kept hg2 (fun e => by have := Option.some.inj e; omega)).more (.cells #[.string c.name, .slice (some ⟨g1, 0, none⟩) c.own.length c1, .slice (some ⟨g2, 0, none⟩) c.ways.length c2] 26))
  have B2 := Lib.hid ((B1.out.trans (H1.out.below hg2 (by omega))).alloc (by omega) (.cells #[.string c.name, .slice (some ⟨g1, 0, none⟩) c.own.length c1, .slice (some ⟨g2, 0, none⟩) c.ways.length c2] 26))
  have O2 := Lib.hid (hown.later ((Below.refl _ _).alloc (Nat.le_refl _) (.cells #[.string c.name, .slice (some ⟨g1, 0, none⟩) c.own.length c1, .slice (some ⟨g2, 0, none⟩) c.ways.length c2] 26)))
  have H2 := Lib.hid (h2.more (.cells #[.string c.name, .slice (some ⟨g1, 0, none⟩) c.own.length c1, .slice (some ⟨g2, 0, none⟩) c.ways.length c2] 26))
  have K2 := CellsM.new w2 #[.string c.name, .slice (some ⟨g1, 0, none⟩) c.own.length c1, .slice (some ⟨g2, 0, none⟩) c.ways.length c2] 26
  have HZ := Lib.hid hsz
  clear hown hsz h2 hg2 R1 B1 H1
  go_wp2_with fail
  generalize hW : w2.alloc (.cells #[.string c.name, .slice (some ⟨g1, 0, none⟩) c.own.length c1, .slice (some ⟨g2, 0, none⟩) c.ways.length c2] 26) = W at *
  have hWs : W.heap.size = w2.heap.size + 1 := by rw [← hW]; simp
  generalize w2.heap.size = M at *
  clear hW
  have HD := Lib.hid (H2.out.later ((Below.refl _ W).drew))
  have k0 := K2.c 0 _ rfl
  have k1 := K2.c 1 _ rfl
  have k2 := K2.c 2 _ rfl
  have KK := Lib.hid K2
  have hbM : b ≠ M := by omega
  clear K2
  go_region_with (first | (go_at_call 73; (refine (l20AnyAddr_any _ b _ _ HD.out (by omega)).mono ?_; rintro e w3 ⟨u, d, hu, hd, rfl, h3, hg3⟩; have hfd := field_dom u d; have KK3 := (KK.out.later ((Below.refl _ W).drew)).kept hg3 (fun e => by have := Option.some.inj e; omega); have RR3 := (R2.out.later ((Below.refl _ W).drew)).kept hg3 (fun e => by have := Option.some.inj e; omega); have m0 := KK3.c 0 _ rfl; have m1 := KK3.c 1 _ rfl; have m2 := KK3.c 2 _ rfl; have r0 := RR3.c 0 _ rfl; have s0 := RR3.f 0 (by simp); have r1 := RR3.c 1 _ rfl; have s1 := RR3.f 1 (by simp); have r2 := RR3.c 2 _ rfl; have s2 := RR3.f 2 (by simp); clear KK3 RR3)))
  all_goals
    have BF : Below w.heap.size w w3 := (B2.out.drew).grown hg3 (by show _ ≤ W.heap.size; omega) (fun k e => by have := Option.some.inj e; omega)
    have OF := (O2.out.later ((Below.refl _ W).drew)).keep hg3 (by omega)
    go_wp2
    refine bodyPost_ret (v := .tuple #[.agg (confV c (some ⟨g1, 0, none⟩) c1 (some ⟨g2, 0, none⟩) c2), .string d]) (by simp [results, Tryd.results15, go_sem, r0, r1, r2]) rfl ⟨c, g1, c1, g2, c2, d, rfl, ?_, HZ.out, by omega, ?_⟩
    · exact CfOwn.at (B := w1.heap.size) (c1 := c1) (c2 := c2) ⟨(((OF.own.low (by omega) _).low (by omega) _).low (by omega) _), (((OF.ways.low (by omega) _).low (by omega) _).low (by omega) _)⟩
    · iterate 3 (refine Below.setCell ?_ (by simp <;> omega) _)
      exact BF

end Go.Proofs.YtgjkoegpdfcadaaDoor
