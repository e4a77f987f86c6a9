/- The walk of FnTakes. -/
import Derived.Test.YtecjifbckjclfaaDoorDrawAnyConf
import Derived.Test.YtecjifbckjclfaaDoorWayOf
import Derived.Deep.RegionWith
namespace Go.Proofs.YtecjifbckjclfaaDoor
open Go Go.RowKit

set_option maxHeartbeats 2000000 in
set_option maxRecDepth 100000 in
theorem drawConfTakes_any (ao : Option Addr) (len cap : Nat) (w : World) (hr : ByteRow w ao len) (hl : len ≤ cap) (hc : cap ≤ maxLen) :
    Calls Tryd.prog 42 #[.slice ao len cap] w fun e w' => ∃ c g1 c1 g2 c2 u d, e = .returned (.tuple #[.agg (confV c (some ⟨g1, 0, none⟩) c1 (some ⟨g2, 0, none⟩) c2), .agg #[.string u, .string d]]) ∧ ConfAt w' c (some ⟨g1, 0, none⟩) (some ⟨g2, 0, none⟩) ∧ ConfSz 40 c ∧ u.size ≤ 20 ∧ d.size ≤ 20 ∧ Below w.heap.size w w' := by
  have C := Lib.hid (fun W h1 => l20Open_any ao len cap W h1 hl hc)
  have b0 : Below w.heap.size w ((w.alloc (.cells #[.string { data := #[] }, .slice none 0 0, .slice none 0 0] 47)).alloc (.cells #[.string { data := #[] }, .string { data := #[] }] 33)) := ((Below.refl _ _).alloc (Nat.le_refl _) _).alloc (by simp) _
  have R0 := Lib.hid ((CellsM.new w #[.string { data := #[] }, .slice none 0 0, .slice none 0 0] 47).more (.cells #[.string { data := #[] }, .string { data := #[] }] 33))
  have S0 := Lib.hid (CellsM.new (w.alloc (.cells #[.string { data := #[] }, .slice none 0 0, .slice none 0 0] 47)) #[.string { data := #[] }, .string { data := #[] }] 33)
  simp only [World.size_alloc] at S0
  have HR := Lib.hid (hr.below b0 (Nat.le_refl _))
  clear hr hl hc
  go_enter Tryd.func42, Tryd.ntmps42
  go_wp2_with fail
  refine (C.out _ HR.out).mono ?_
  rintro e w1 ⟨b, rfl, h1, b1⟩
  simp only [World.size_alloc] at h1 b1
  have hlo := h1.lt
  have R1 := Lib.hid (R0.out.later (b1.mono (by simp)))
  have S1 := Lib.hid (S0.out.later (b1.mono (by simp)))
  have B1 := Lib.hid (b0.trans (b1.mono (by omega)))
  have hs1 := b1.size
  simp only [World.size_alloc] at hs1
  have H1 := Lib.hid h1
  clear h1 b1 R0 S0 b0
  go_wp2_with fail
  refine (l20AnyConf_any _ b 0 _ H1.out (by omega)).mono ?_
  rintro e w2 ⟨c, g1, c1, g2, c2, rfl, hown, hsz, h2, hg2⟩
  have hs2 := hg2.size
  have R2 := Lib.hid ((R1.out.kept hg2 (fun e => by have := Option.some.inj e; omega)).more (.cells #[.string c.name, .slice (some ⟨g1, 0, none⟩) c.own.length c1, .slice (some ⟨g2, 0, none⟩) c.ways.length c2] 47))
  have S2 := Lib.hid ((S1.out.kept hg2 (fun e => by have := Option.some.inj e; omega)).more (.cells #[.string c.name, .slice (some ⟨g1, 0, none⟩) c.own.length c1, .slice (some ⟨g2, 0, none⟩) c.ways.length c2] 47))
  have B2 := Lib.hid ((B1.out.trans (H1.out.below hg2 (by omega))).alloc (by omega) (.cells #[.string c.name, .slice (some ⟨g1, 0, none⟩) c.own.length c1, .slice (some ⟨g2, 0, none⟩) c.ways.length c2] 47))
  have O2 := Lib.hid (hown.later ((Below.refl _ _).alloc (Nat.le_refl _) (.cells #[.string c.name, .slice (some ⟨g1, 0, none⟩) c.own.length c1, .slice (some ⟨g2, 0, none⟩) c.ways.length c2] 47)))
  have H2 := Lib.hid (h2.more (.cells #[.string c.name, .slice (some ⟨g1, 0, none⟩) c.own.length c1, .slice (some ⟨g2, 0, none⟩) c.ways.length c2] 47))
  have K2 := CellsM.new w2 #[.string c.name, .slice (some ⟨g1, 0, none⟩) c.own.length c1, .slice (some ⟨g2, 0, none⟩) c.ways.length c2] 47
  have HZ := Lib.hid hsz
  clear hown hsz h2 hg2 R1 S1 B1 H1
  go_wp2_with fail
  generalize hW : w2.alloc (.cells #[.string c.name, .slice (some ⟨g1, 0, none⟩) c.own.length c1, .slice (some ⟨g2, 0, none⟩) c.ways.length c2] 47) = W at *
  have hWs : W.heap.size = w2.heap.size + 1 := by rw [← hW]; simp
  generalize w2.heap.size = M at *
  clear hW
  have HD := Lib.hid (H2.out.later ((Below.refl _ W).drew))
  have k0 := K2.c 0 _ rfl
  have k1 := K2.c 1 _ rfl
  have k2 := K2.c 2 _ rfl
  have KK := Lib.hid K2
  have hbM : b ≠ M := by omega
  clear K2
  go_region_with (first | (go_at_call 85; refine (l20AnyAddr_any _ b _ _ HD.out (by omega)).mono ?_; rintro e w3 ⟨u, d, hu, hd, rfl, h3, hg3⟩; have KK3 := (KK.out.later ((Below.refl _ W).drew)).kept hg3 (fun e => by have := Option.some.inj e; omega); have RR3 := (R2.out.later ((Below.refl _ W).drew)).kept hg3 (fun e => by have := Option.some.inj e; omega); have SS3 := (S2.out.later ((Below.refl _ W).drew)).kept hg3 (fun e => by have := Option.some.inj e; omega); have m0 := KK3.c 0 _ rfl; have m1 := KK3.c 1 _ rfl; have m2 := KK3.c 2 _ rfl; have r0 := RR3.c 0 _ rfl; have s0 := RR3.f 0 (by simp); have r1 := RR3.c 1 _ rfl; have s1 := RR3.f 1 (by simp); have r2 := RR3.c 2 _ rfl; have s2 := RR3.f 2 (by simp); have x0 := SS3.c 0 _ rfl; have y0 := SS3.f 0 (by simp); have x1 := SS3.c 1 _ rfl; have y1 := SS3.f 1 (by simp); clear KK3 RR3 SS3))
  all_goals
    have BF : Below w.heap.size w w3 := (B2.out.drew).grown hg3 (by show _ ≤ W.heap.size; omega) (fun k e => by have := Option.some.inj e; omega)
    have OF := (O2.out.later ((Below.refl _ W).drew)).keep hg3 (by omega)
    go_wp2
    refine bodyPost_ret (v := .tuple #[.agg (confV c (some ⟨g1, 0, none⟩) c1 (some ⟨g2, 0, none⟩) c2), .agg #[.string u, .string d]]) (by simp [results, Tryd.results42, go_sem, r0, r1, r2, x0, x1]) rfl ⟨c, g1, c1, g2, c2, u, d, rfl, ?_, HZ.out, by omega, by omega, ?_⟩
    · exact CfOwn.at (B := w1.heap.size) (c1 := c1) (c2 := c2) ⟨(((((OF.own.low (by omega) _).low (by omega) _).low (by omega) _).low (by omega) _).low (by omega) _), (((((OF.ways.low (by omega) _).low (by omega) _).low (by omega) _).low (by omega) _).low (by omega) _)⟩
    · iterate 5 (refine Below.setCell ?_ (by simp <;> omega) _)
      exact BF

theorem takesB_true {c : ConfD} {u d : ByteArray} (h : takesB c u d = true) : confB c = true ∧ addrB u d = true ∧ takesB c ⟨#[122, 122]⟩ d = true := by
  unfold takesB at h
  rw [Bool.and_eq_true, Bool.and_eq_true] at h
  obtain ⟨⟨h1, h2⟩, h3⟩ := h
  refine ⟨h1, h2, ?_⟩
  have hz : wordB ⟨#[122, 122]⟩ = true := by decide +kernel
  have ha : addrB ⟨#[122, 122]⟩ d = true := by
    unfold addrB at h2 ⊢
    rw [Bool.and_eq_true] at h2
    rw [hz, h2.2]; rfl
  unfold takesB
  rw [h1, ha, h3]; rfl

set_option maxHeartbeats 2000000 in
set_option maxRecDepth 100000 in
theorem wFnTakes.walk (ao : Option Addr) (len cap : Nat) (w : World) (hr : ByteRow w ao len) (hl : len ≤ cap) (hc : cap ≤ maxLen) (hm : HasMax w) :
    Calls Tryd.prog 7 #[.slice ao len cap] w fun e w' => e = .returned (.bool true) ∧ Below w.heap.size w w' := by
  have hc' := hc
  unfold maxLen at hc'
  by_cases hbig : 1048576 < len
  · clear hr
    go_enter Tryd.func7, Tryd.ntmps7
    go_wp2
    go_ret
    exact ⟨rfl, Below.refl _ _⟩
  have CD := Lib.hid (drawConfTakes_any ao len cap w hr hl hc)
  have HM := Lib.hid hm
  clear hr hc hm
  go_enter Tryd.func7, Tryd.ntmps7
  go_wp2_with fail
  refine CD.out.mono ?_
  rintro e w1 ⟨c, g1, c1, g2, c2, u, d, rfl, hat, hsz, hu, hd, b1⟩
  have bb : Below w1.heap.size w1 ((w1.alloc (.cells (confV c (some ⟨g1, 0, none⟩) c1 (some ⟨g2, 0, none⟩) c2) 47)).alloc (.cells #[.string u, .string d] 33)) := ((Below.refl _ _).alloc (Nat.le_refl _) _).alloc (by simp) _
  have K1 := Lib.hid ((CellsM.new w1 (confV c (some ⟨g1, 0, none⟩) c1 (some ⟨g2, 0, none⟩) c2) 47).more (.cells #[.string u, .string d] 33))
  have L1 := Lib.hid (CellsM.new (w1.alloc (.cells (confV c (some ⟨g1, 0, none⟩) c1 (some ⟨g2, 0, none⟩) c2) 47)) #[.string u, .string d] 33)
  simp only [World.size_alloc] at L1
  have A1 := Lib.hid (hat.later bb)
  have B1 := Lib.hid (b1.trans (bb.mono b1.size))
  have SZ : Hid (ConfSz 1048576 c) := Lib.hid ⟨Nat.le_trans hsz.nm (by omega), Nat.le_trans hsz.owl (by omega), fun x hx => Nat.le_trans (hsz.ows x hx) (by omega), Nat.le_trans hsz.wal (by omega), fun p hp => ⟨Nat.le_trans (hsz.was p hp).1 (by omega), Nat.le_trans (hsz.was p hp).2 (by omega)⟩⟩
  have HM1 := Lib.hid (HM.out.below B1.out (Nat.le_refl _))
  obtain ⟨v, hv⟩ : ∃ v, takesB c u d = v := ⟨_, rfl⟩
  have HV := Lib.hid hv
  clear CD hat hsz b1 bb hv
  go_wp2_with fail
  generalize (w1.alloc (.cells (confV c (some ⟨g1, 0, none⟩) c1 (some ⟨g2, 0, none⟩) c2) 47)).alloc (.cells #[.string u, .string d] 33) = W at *
  refine (implConfTakes_any c _ c1 _ c2 u d _ HM1.out A1.out SZ.out (by omega) (by omega)).mono ?_
  rintro e w2 ⟨rfl, hb2⟩
  rw [HV.out]
  have K2 := K1.out.later hb2
  have L2 := L1.out.later hb2
  have A2 := Lib.hid (A1.out.later hb2)
  have B2 := Lib.hid (B1.out.trans (hb2.mono B1.out.size))
  have HM2 := Lib.hid (HM1.out.below hb2 (Nat.le_refl _))
  have k0 := K2.c 0 _ rfl
  have k1 := K2.c 1 _ rfl
  have k2 := K2.c 2 _ rfl
  have l0 := L2.c 0 _ rfl
  have l1 := L2.c 1 _ rfl
  have KH := Lib.hid K2
  have LH := Lib.hid L2
  clear K2 L2 hb2 K1 L1 A1 B1 HM1
  go_wp2_with fail
  refine (specConfTakes_any c _ c1 _ c2 u d _ A2.out SZ.out (by omega) (by omega)).mono ?_
  rintro e w3 ⟨rfl, hb3⟩
  rw [HV.out]
  clear k0 k1 k2 l0 l1
  have K3 := KH.out.later hb3
  have L3 := LH.out.later hb3
  have A3 := Lib.hid (A2.out.later hb3)
  have B3 := Lib.hid (B2.out.trans (hb3.mono B2.out.size))
  have HM3 := Lib.hid (HM2.out.below hb3 (Nat.le_refl _))
  have k0 := K3.c 0 _ rfl
  have k1 := K3.c 1 _ rfl
  have k2 := K3.c 2 _ rfl
  have l0 := L3.c 0 _ rfl
  have l1 := L3.c 1 _ rfl
  have KH3 := Lib.hid K3
  have LH3 := Lib.hid L3
  clear K3 L3 hb3 KH LH A2 B2 HM2
  cases v
  · go_wp2_with fail
    refine (specConfTakes_any c _ c1 _ c2 u d _ A3.out SZ.out (by omega) (by omega)).mono ?_
    rintro e w4 ⟨rfl, hb4⟩
    rw [HV.out]
    have B4 := B3.out.trans (hb4.mono B3.out.size)
    go_wp2
    go_ret
    exact ⟨rfl, B4⟩
  · obtain ⟨t1, t2, t3⟩ := takesB_true HV.out
    have T1 := Lib.hid t1
    have T2 := Lib.hid t2
    have T3 := Lib.hid t3
    clear t1 t2 t3
    go_wp2_with fail
    refine (implConfTakes_any c _ c1 _ c2 ⟨#[122, 122]⟩ d _ HM3.out A3.out SZ.out (by decide) (by omega)).mono ?_
    rintro e w4 ⟨rfl, hb4⟩
    rw [T3.out]
    clear k0 k1 k2 l0 l1
    have K4 := KH3.out.later hb4
    have L4 := LH3.out.later hb4
    have A4 := Lib.hid (A3.out.later hb4)
    have B4 := Lib.hid (B3.out.trans (hb4.mono B3.out.size))
    have HM4 := Lib.hid (HM3.out.below hb4 (Nat.le_refl _))
    have k0 := K4.c 0 _ rfl
    have k1 := K4.c 1 _ rfl
    have k2 := K4.c 2 _ rfl
    have LH4 := Lib.hid L4
    clear K4 L4 hb4 KH3 LH3 A3 B3 HM3
    go_wp2_with fail
    refine (implConfOk_any c _ c1 _ c2 _ HM4.out A4.out SZ.out).mono ?_
    rintro e w5 ⟨rfl, hb5⟩
    rw [T1.out]
    clear k0 k1 k2
    have L5 := LH4.out.later hb5
    have B5 := Lib.hid (B4.out.trans (hb5.mono B4.out.size))
    have HM5 := Lib.hid (HM4.out.below hb5 (Nat.le_refl _))
    have l0 := L5.c 0 _ rfl
    have l1 := L5.c 1 _ rfl
    clear L5 hb5 LH4 A4 B4 HM4
    go_wp2_with fail
    refine (implAddrOk_any u d _ HM5.out (by omega) (by omega)).mono ?_
    rintro e w6 ⟨rfl, hb6⟩
    rw [T2.out]
    have B6 := B5.out.trans (hb6.mono B5.out.size)
    go_wp2
    go_ret
    exact ⟨rfl, B6⟩
end Go.Proofs.YtecjifbckjclfaaDoor
