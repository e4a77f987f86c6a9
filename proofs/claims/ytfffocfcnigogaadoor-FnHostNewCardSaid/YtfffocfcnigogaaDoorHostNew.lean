/- Contracts: a host's settings cloned by the program; a new host, of the model and of the program. -/
import Derived.Test.YtfffocfcnigogaaDoorConfCopy
import Derived.Test.YtfffocfcnigogaaDoorConfOkI
namespace Go.Proofs.YtfffocfcnigogaaDoor
open Go Go.RowKit

set_option maxHeartbeats 800000 in
set_option maxRecDepth 100000 in
theorem cloneWays_any (B : Nat) (ao : Option Addr) (cap : Nat) (ps : List Pair) (w : World) (ho : PRow w B 114 ao cap ps) (hl : ps.length ≤ 1048576) :
    Calls Tryd.prog 99 #[.slice ao ps.length cap] w fun e w' => ∃ bo c, e = .returned (.slice bo ps.length c) ∧ PRow w' w.heap.size 114 bo c ps ∧ Below w.heap.size w w' := by
  obtain ⟨i0, hi, hz0, hz1, hz2⟩ := info_parts infoWay
  have qT : ∀ (w : World) (a : Option Addr) (n c n' c' : Nat), (binOp .eql 51 (.slice a n c) (.slice none n' c')).run Tryd.prog w = .ok (.bool a.isNone) w := fun w a n c n' c' => Lib.run_eql_slice_nil w _ _ a n c n' c' Tryd.underlying51
  rcases own_split ho with ⟨rfl, h0, rfl⟩ | ⟨g, rfl⟩
  · obtain rfl : ps = [] := List.eq_nil_of_length_eq_zero h0
    clear ho
    go_enter Tryd.func99, Tryd.ntmps99
    go_wp2
    go_ret
    exact ⟨none, 0, rfl, World.ownsRow_nil _ _ _ _, Below.refl _ _⟩
  · have HN := Lib.hid (own_news (World.ownsRow.alloc ho (.cells #[] 114)))
    have OW := Lib.hid (World.ownsRow_made (e := 114) (size := 2) w #[] 0 (Nat.le_refl _) (by unfold maxLen; omega) rfl : (w.alloc (.cells #[] 114)).ownsRow w.heap.size 114 2 (.slice (some ⟨w.heap.size, 0, none⟩) 0 0) 0 [])
    clear ho
    go_enter Tryd.func99, Tryd.ntmps99
    go_wp2_with (at_builtin; refine wpList_append_own _ rfl _ _ 51 rfl w.heap.size 114 i0 (.agg #[.string ByteArray.empty, .string ByteArray.empty]) 2 32 Tryd.underlying51 hi hz0 hz1 hz2 rfl (by decide) _ 0 [] rfl OW.out ⟨g, 0, none⟩ ps.length cap (pairCells ps) rfl (pairCells_length _) ?c1 ?c2 ?c3 ?c4 ?c5 ?_)
    case c1 => exact HN.out
    case c2 => exact pairs_one' _
    case c3 => unfold maxLen; omega
    case c4 => omega
    case c5 => simp
    intro v' w2 hown hgrow _
    have hb : Below w.heap.size w w2 := ((Below.refl _ w).alloc (Nat.le_refl _) _).grown hgrow (by simp) (fun k e => by have : w.heap.size = k := Option.some.inj e; omega)
    obtain ⟨bo, c, rfl⟩ := shape_of hown
    have O2 := Lib.hid hown
    clear hown hgrow
    go_wp2
    go_ret
    exact ⟨bo, c, rfl, by unfold PRow; simpa using O2.out, hb⟩

set_option maxHeartbeats 3200000 in
set_option maxRecDepth 100000 in
theorem confClone_any {X : Nat → Prop} (L : List Res) (c : ConfD) (a1 : Option Addr) (c1 : Nat) (a2 : Option Addr) (c2 : Nat) (w0 w : World) (h : StX X w0 w L) (hr : ∀ r ∈ confR a1 c1 a2 c2 c, r ∈ L) (zA : c.own.length ≤ 1048576) (zB : c.ways.length ≤ 1048576) :
    Calls Tryd.prog 58 #[.agg (confV c a1 c1 a2 c2)] w fun e w' => ∃ eA dA eB dB, e = .returned (.agg (confV c eA dA eB dB)) ∧ St w w' (confR eA dA eB dB c) := by
  have s0 := ((St.start w).alloc (confV c a1 c1 a2 c2) 53).alloc #[.string { data := #[] }, .slice none 0 0, .slice none 0 0] 53
  simp only [World.size_alloc] at s0
  have S0 : Seal _ := ⟨s0⟩
  have HS : Seal _ := ⟨h⟩
  have HR1 : Seal _ := ⟨hr _ List.mem_cons_self⟩
  have HR2 : Seal _ := ⟨hr _ (List.mem_cons_of_mem _ List.mem_cons_self)⟩
  have K0 := s0.two.head
  have g1 := K0.c 1 _ rfl
  clear s0 h hr K0
  go_enter Tryd.func58, Tryd.ntmps58
  go_wp2_with fail
  refine (cloneStrs_any 0 a1 c1 c.own _ ((HS.out.later S0.out.below).get HR1.out) zA).mono ?_
  rintro e w1 ⟨q1, d1, rfl, k1, hb1⟩
  have s1 := (S0.out.row hb1 k1).three
  have P1 := s1.head
  have o1 := P1.c 1 _ rfl
  have f1 := P1.f 1 (by simp)
  have o2 := P1.c 2 _ rfl
  have S1 : Seal _ := ⟨s1.set 1 (.slice q1 c.own.length d1) (by simp)⟩
  clear k1 S0 s1 P1 g1 hb1
  go_wp2_with fail
  refine (cloneWays_any 0 a2 c2 c.ways _ ((HS.out.later S1.out.below).get HR2.out) zB).mono ?_
  rintro e w2 ⟨q2, d2, rfl, k2, hb2⟩
  have s2 := (S1.out.row hb2 k2).two
  have P2 := s2.head
  have u0 := P2.c 0 _ rfl
  have u1 := P2.c 1 _ rfl
  have u2 := P2.c 2 _ rfl
  have f2 := P2.f 2 (by simp)
  have S2 : Seal _ := ⟨s2.set 2 (.slice q2 c.ways.length d2) (by simp)⟩
  have R2 := s2.four.head
  have r0 := R2.c 0 _ rfl
  have r1 := R2.c 1 _ rfl
  have r2 := R2.c 2 _ rfl
  have h0 := R2.f 0 (by simp)
  have h1 := R2.f 1 (by simp)
  have h2 := R2.f 2 (by simp)
  have hn : w.heap.size ≠ w.heap.size + 1 := by omega
  clear k2 S1 s2 hb2 P2 R2 o1 f1 o2
  go_wp2
  refine bodyPost_ret (v := .agg (confV c q1 d1 q2 d2)) (by simp [results, Tryd.results58, go_sem, r0, r1, r2]) rfl ⟨q1, d1, q2, d2, rfl, ?_⟩
  have s4 := ((S2.out.four.set 0 (.string c.name) (by simp)).set 1 (.slice q1 c.own.length d1) (by simp)).set 2 (.slice q2 c.ways.length d2) (by simp)
  exact s4.tail.tail.two

/-- Settings that a new host keeps: none, if they are not ok. -/
def okC (c : ConfD) : ConfD := if confB c then c else ⟨{ data := #[] }, [], []⟩
theorem okC_yes {c : ConfD} (h : confB c = true) : okC c = c := by unfold okC; rw [h]; rfl
theorem okC_no {c : ConfD} (h : confB c = false) : okC c = ⟨{ data := #[] }, [], []⟩ := by unfold okC; rw [h]; rfl
/-- A host's cells: its settings, and nothing more. -/
abbrev newHostV (c : ConfD) (a1 : Option Addr) (c1 : Nat) (a2 : Option Addr) (c2 : Nat) : Array Value := #[.string c.name, .slice a1 c.own.length c1, .slice a2 c.ways.length c2, .int .i64 0, .slice none 0 0, .slice none 0 0, .slice none 0 0]
abbrev noHost : Array Value := #[.string { data := #[] }, .slice none 0 0, .slice none 0 0, .int .i64 0, .slice none 0 0, .slice none 0 0, .slice none 0 0]

set_option maxHeartbeats 3200000 in
set_option maxRecDepth 100000 in
theorem specHostNew_any {X : Nat → Prop} (L : List Res) (c : ConfD) (a1 : Option Addr) (c1 : Nat) (a2 : Option Addr) (c2 : Nat) (w0 w : World) (h : StX X w0 w L) (hr : ∀ r ∈ confR a1 c1 a2 c2 c, r ∈ L) (hat : ConfAt w c a1 a2) (hsz : ConfSz 1048576 c) :
    Calls Tryd.prog 25 #[.agg (confV c a1 c1 a2 c2)] w fun e w' => ∃ eA dA eB dB, e = .returned (.agg (newHostV (okC c) eA dA eB dB)) ∧ St w w' (confR eA dA eB dB (okC c)) := by
  have s0 := ((St.start w).alloc (confV c a1 c1 a2 c2) 53).alloc noHost 58
  simp only [World.size_alloc] at s0
  have S0 : Seal _ := ⟨s0⟩
  have HS : Seal _ := ⟨h⟩
  have HR : Seal _ := ⟨hr⟩
  have zA := hsz.owl
  have zB := hsz.wal
  have C : Seal _ := ⟨l3ConfOk_any c a1 c1 a2 c2 _ (hat.below s0.below (Nat.le_refl _)) hsz⟩
  clear s0 h hr hat hsz
  cases hv : confB c
  · have HV : Seal _ := ⟨hv⟩
    clear hv
    go_enter Tryd.func25, Tryd.ntmps25
    go_wp2_with fail
    refine C.out.mono ?_
    rintro e w1 ⟨rfl, hb1⟩
    rw [HV.out]
    have S1 : Seal _ := ⟨S0.out.later hb1⟩
    have R1 := S1.out.head
    have r0 := R1.c 0 _ rfl
    have h0 := R1.f 0 (by simp)
    have r1 := R1.c 1 _ rfl
    have h1 := R1.f 1 (by simp)
    have r2 := R1.c 2 _ rfl
    have h2 := R1.f 2 (by simp)
    have r3 := R1.c 3 _ rfl
    have h3 := R1.f 3 (by simp)
    have r4 := R1.c 4 _ rfl
    have h4 := R1.f 4 (by simp)
    have r5 := R1.c 5 _ rfl
    have h5 := R1.f 5 (by simp)
    have r6 := R1.c 6 _ rfl
    have h6 := R1.f 6 (by simp)
    clear hb1 S0 R1 C
    go_wp2
    refine bodyPost_ret (v := .agg noHost) (by simp [results, Tryd.results25, go_sem, r0, r1, r2, r3, r4, r5, r6]) rfl ⟨none, 0, none, 0, by rw [okC_no HV.out]; rfl, ?_⟩
    have s4 := (((((((S1.out.set 0 (.string { data := #[] }) (by simp)).set 1 (.slice none 0 0) (by simp)).set 2 (.slice none 0 0) (by simp)).set 3 (.int .i64 0) (by simp)).set 4 (.slice none 0 0) (by simp)).set 5 (.slice none 0 0) (by simp)).set 6 (.slice none 0 0) (by simp)).tail.tail
    rw [okC_no HV.out]
    exact (s4.nothing 114 2).nothing 9 1
  · have HV : Seal _ := ⟨hv⟩
    clear hv
    go_enter Tryd.func25, Tryd.ntmps25
    go_wp2_with fail
    refine C.out.mono ?_
    rintro e w1 ⟨rfl, hb1⟩
    rw [HV.out]
    have S1 : Seal _ := ⟨S0.out.later hb1⟩
    have B1 := S1.out.two.head
    have b0 := B1.c 0 _ rfl
    have b1 := B1.c 1 _ rfl
    have b2 := B1.c 2 _ rfl
    clear hb1 S0 B1 C
    go_wp2_with fail
    refine (l7CopyConf_any L c a1 c1 a2 c2 w0 _ (HS.out.later S1.out.below) HR.out zA zB).mono ?_
    rintro e w2 ⟨eA, dA, eB, dB, rfl, k2⟩
    have S2 : Seal _ := ⟨(S1.out.join k2).three⟩
    have R1 := S2.out.head
    have r0 := R1.c 0 _ rfl
    have h0 := R1.f 0 (by simp)
    have r1 := R1.c 1 _ rfl
    have h1 := R1.f 1 (by simp)
    have r2 := R1.c 2 _ rfl
    have h2 := R1.f 2 (by simp)
    have r3 := R1.c 3 _ rfl
    have h3 := R1.f 3 (by simp)
    have r4 := R1.c 4 _ rfl
    have h4 := R1.f 4 (by simp)
    have r5 := R1.c 5 _ rfl
    have h5 := R1.f 5 (by simp)
    have r6 := R1.c 6 _ rfl
    have h6 := R1.f 6 (by simp)
    clear k2 S1 R1 b0 b1 b2
    go_wp2
    refine bodyPost_ret (v := .agg (newHostV c eA dA eB dB)) (by simp [results, Tryd.results25, go_sem, r0, r1, r2, r3, r4, r5, r6]) rfl ⟨eA, dA, eB, dB, by rw [okC_yes HV.out], ?_⟩
    have s4 := (((((((S2.out.set 0 (.string c.name) (by simp)).set 1 (.slice eA c.own.length dA) (by simp)).set 2 (.slice eB c.ways.length dB) (by simp)).set 3 (.int .i64 0) (by simp)).set 4 (.slice none 0 0) (by simp)).set 5 (.slice none 0 0) (by simp)).set 6 (.slice none 0 0) (by simp)).tail
    rw [okC_yes HV.out]
    exact s4.first (l := confR eA dA eB dB c)

set_option maxHeartbeats 3200000 in
set_option maxRecDepth 100000 in
theorem implHostNew_any {X : Nat → Prop} (L : List Res) (c : ConfD) (a1 : Option Addr) (c1 : Nat) (a2 : Option Addr) (c2 : Nat) (w0 w : World) (hm : HasMax w) (h : StX X w0 w L) (hr : ∀ r ∈ confR a1 c1 a2 c2 c, r ∈ L) (hat : ConfAt w c a1 a2) (hsz : ConfSz 1048576 c) :
    Calls Tryd.prog 23 #[.agg (confV c a1 c1 a2 c2)] w fun e w' => ∃ eA dA eB dB, e = .returned (.agg (newHostV (okC c) eA dA eB dB)) ∧ St w w' (confR eA dA eB dB (okC c)) := by
  have s0 := ((St.start w).alloc (confV c a1 c1 a2 c2) 53).alloc noHost 58
  simp only [World.size_alloc] at s0
  have S0 : Seal _ := ⟨s0⟩
  have HS : Seal _ := ⟨h⟩
  have HR : Seal _ := ⟨hr⟩
  have zA := hsz.owl
  have zB := hsz.wal
  have C : Seal _ := ⟨implConfOk_any c a1 c1 a2 c2 _ (hm.below s0.below (Nat.le_refl _)) (hat.below s0.below (Nat.le_refl _)) hsz⟩
  clear s0 h hr hat hsz hm
  cases hv : confB c
  · have HV : Seal _ := ⟨hv⟩
    clear hv
    go_enter Tryd.func23, Tryd.ntmps23
    go_wp2_with fail
    refine C.out.mono ?_
    rintro e w1 ⟨rfl, hb1⟩
    rw [HV.out]
    have S1 : Seal _ := ⟨S0.out.later hb1⟩
    have R1 := S1.out.head
    have r0 := R1.c 0 _ rfl
    have h0 := R1.f 0 (by simp)
    have r1 := R1.c 1 _ rfl
    have h1 := R1.f 1 (by simp)
    have r2 := R1.c 2 _ rfl
    have h2 := R1.f 2 (by simp)
    have r3 := R1.c 3 _ rfl
    have h3 := R1.f 3 (by simp)
    have r4 := R1.c 4 _ rfl
    have h4 := R1.f 4 (by simp)
    have r5 := R1.c 5 _ rfl
    have h5 := R1.f 5 (by simp)
    have r6 := R1.c 6 _ rfl
    have h6 := R1.f 6 (by simp)
    clear hb1 S0 R1 C
    go_wp2
    refine bodyPost_ret (v := .agg noHost) (by simp [results, Tryd.results23, go_sem, r0, r1, r2, r3, r4, r5, r6]) rfl ⟨none, 0, none, 0, by rw [okC_no HV.out]; rfl, ?_⟩
    have s4 := (((((((S1.out.set 0 (.string { data := #[] }) (by simp)).set 1 (.slice none 0 0) (by simp)).set 2 (.slice none 0 0) (by simp)).set 3 (.int .i64 0) (by simp)).set 4 (.slice none 0 0) (by simp)).set 5 (.slice none 0 0) (by simp)).set 6 (.slice none 0 0) (by simp)).tail.tail
    rw [okC_no HV.out]
    exact (s4.nothing 114 2).nothing 9 1
  · have HV : Seal _ := ⟨hv⟩
    clear hv
    go_enter Tryd.func23, Tryd.ntmps23
    go_wp2_with fail
    refine C.out.mono ?_
    rintro e w1 ⟨rfl, hb1⟩
    rw [HV.out]
    have S1 : Seal _ := ⟨S0.out.later hb1⟩
    have B1 := S1.out.two.head
    have b0 := B1.c 0 _ rfl
    have b1 := B1.c 1 _ rfl
    have b2 := B1.c 2 _ rfl
    clear hb1 S0 B1 C
    go_wp2_with fail
    refine (confClone_any L c a1 c1 a2 c2 w0 _ (HS.out.later S1.out.below) HR.out zA zB).mono ?_
    rintro e w2 ⟨eA, dA, eB, dB, rfl, k2⟩
    have S2 : Seal _ := ⟨(S1.out.join k2).three⟩
    have R1 := S2.out.head
    have r0 := R1.c 0 _ rfl
    have h0 := R1.f 0 (by simp)
    have r1 := R1.c 1 _ rfl
    have h1 := R1.f 1 (by simp)
    have r2 := R1.c 2 _ rfl
    have h2 := R1.f 2 (by simp)
    have r3 := R1.c 3 _ rfl
    have h3 := R1.f 3 (by simp)
    have r4 := R1.c 4 _ rfl
    have h4 := R1.f 4 (by simp)
    have r5 := R1.c 5 _ rfl
    have h5 := R1.f 5 (by simp)
    have r6 := R1.c 6 _ rfl
    have h6 := R1.f 6 (by simp)
    clear k2 S1 R1 b0 b1 b2
    go_wp2
    refine bodyPost_ret (v := .agg (newHostV c eA dA eB dB)) (by simp [results, Tryd.results23, go_sem, r0, r1, r2, r3, r4, r5, r6]) rfl ⟨eA, dA, eB, dB, by rw [okC_yes HV.out], ?_⟩
    have s4 := (((((((S2.out.set 0 (.string c.name) (by simp)).set 1 (.slice eA c.own.length dA) (by simp)).set 2 (.slice eB c.ways.length dB) (by simp)).set 3 (.int .i64 0) (by simp)).set 4 (.slice none 0 0) (by simp)).set 5 (.slice none 0 0) (by simp)).set 6 (.slice none 0 0) (by simp)).tail
    rw [okC_yes HV.out]
    exact s4.first (l := confR eA dA eB dB c)
end Go.Proofs.YtfffocfcnigogaaDoor
