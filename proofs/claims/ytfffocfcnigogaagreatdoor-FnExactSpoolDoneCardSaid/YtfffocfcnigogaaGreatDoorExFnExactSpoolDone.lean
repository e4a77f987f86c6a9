/-
  laws.FnExactSpoolDone: for every input the call returns true, and each argument reads afterwards as it read before. Condition: the listed tables of unicode/utf8 hold what the program lays (the card ties them to its text).
-/
import Derived.Test.YtfffocfcnigogaaGreatDoorFrame
import Derived.Test.YtfffocfcnigogaaGreatDoorWSpoolDone
import Derived.Test.YtfffocfcnigogaaGreatDoorFrameAddr
import Derived.Test.YtfffocfcnigogaaGreatDoorFrameSpool
import Derived.Test.YtfffocfcnigogaaGreatDoorFactE
import Derived.Test.YtfffocfcnigogaaGreatDoorFactL
import Derived.Test.YtfffocfcnigogaaGreatDoorFactM
import Derived.Test.YtfffocfcnigogaaGreatDoorFactN
import Derived.Test.YtfffocfcnigogaaGreatDoorFactK
namespace Go.Proofs.YtfffocfcnigogaaGreatDoor.fnExactSpoolDone
open Go.ChangeShapes Go.WideShapes Go.ChangeAt Go.RowKit
open Go.ChangeMaps (open_string shut_string)

set_option maxRecDepth 100000 in
theorem contract (H : Type) (enc : TypeId × Value → H) (W : World) (base : Nat) (args : Array Value) (ds gs : List (DataW H)) (before : List MemPlace)
    (hval : ∀ (j : Nat) t v, Tryz.f8.params[j]? = some t → args[j]? = some v → Value.okWide Tryz.prog W .any base t v)
    (hW : DataW.Whole enc Tryz.prog Tryz.f8.params.toList Rows.fnExactSpoolDoneSpec.vars false W args.toList ds gs before) (hsh : W.ShapedOpen Tryz.prog) :
    Calls Tryz.prog 8 args W fun e W' => ∃ v, e = .returned v ∧ Rows.fnExactSpoolDoneSpec.post enc Tryz.prog Tryz.f8 false true false false W args v W' := by
  have hW' := hW
  obtain ⟨p, q, hA0, hV, rfl, hfz, hnd⟩ := hW
  have hA : DataW.TrodAll enc Tryz.prog W 0 (fun _ => true) true Tryz.f8.params.toList args.toList ds p := hA0
  rw [Tryz.params8] at hA hval
  obtain ⟨v0, vs0, d0, ds0, p0, q0, hargs, rfl, rfl, h0, r0⟩ := trodAll_cons hA
  obtain ⟨v1, vs1, d1, ds1, p1, q1, rfl, rfl, rfl, h1, r1⟩ := trodAll_cons r0
  obtain ⟨v2, vs2, d2, ds2, p2, q2, rfl, rfl, rfl, h2, r2⟩ := trodAll_cons r1
  obtain ⟨rfl, rfl, rfl⟩ := trodAll_nil r2
  obtain rfl : args = #[v0, v1, v2] := by
    clear hval hW' hV hfz hnd hA0 hA h0 h1 h2
    cases args; simpa using hargs
  obtain ⟨rfl, rfl⟩ := trodVars_none hV
  have k0 := h0
  have lt0 : ∀ x ∈ p0, x.block < W.heap.size := by obtain ⟨m, hm⟩ := k0; exact DataW.trod_lt m _ _ _ hm
  obtain ⟨mm0, am0, cm0, rfl, at0, sz0⟩ := open_spool (hval 0 60 v0 rfl rfl) h0
  obtain ⟨n1, rfl, rfl, rfl, in1⟩ := open_int Tryz.underlying3 (hval 1 3 v1 rfl rfl) h1
  have k2 := h2
  have lt2 : ∀ x ∈ p2, x.block < W.heap.size := by obtain ⟨m, hm⟩ := k2; exact DataW.trod_lt m _ _ _ hm
  obtain ⟨u2, g2, rfl, hu2, hg2⟩ := open_addr (hval 2 61 v2 rfl rfl) h2
  clear hA0
  refine (wFnExactSpoolDone.walk mm0 am0 cm0 n1 u2 g2 W at0 sz0 in1 ⟨hu2, hg2⟩ (maxLen_cell W hsh)).mono fun e W' ⟨he, bel⟩ => ?_
  subst he
  exact ⟨_, rfl, _, _, _, [], _, [], hW', trodAll_mk1 (shut_bool Tryz.underlying4 _), trodAll_cons_mk (Below.trod laidOut (by kernel_rfl) (of_decide_eq_true (by kernel_rfl)) k0 bel lt0) (trodAll_cons_mk (shut_int Tryz.underlying3 in1) (trodAll_cons_mk (Below.trod laidOut (by kernel_rfl) (of_decide_eq_true (by kernel_rfl)) k2 bel lt2) trodAll_mk0)), rfl, bel.frame _, fun h => by cases h⟩

theorem reads (os : Os) {H : Type} (enc : TypeId × Value → H) : ∃ places, DataW.whole enc Tryz.prog ((laidWorld os).forCall (fun _ _ => 0) ⟨#[], #[(.agg #[.int .i64 0, .slice none 0 0] : Value), (.int .i64 0 : Value), (.agg #[.string ByteArray.empty, .string ByteArray.empty] : Value)], []⟩).memory Tryz.f8.params.toList Rows.fnExactSpoolDoneSpec.vars false (#[(.agg #[.int .i64 0, .slice none 0 0] : Value), (.int .i64 0 : Value), (.agg #[.string ByteArray.empty, .string ByteArray.empty] : Value)] : Array Value).toList 8 = some ([.agg [.lit (.int .i64 0), .nil], .lit (.int .i64 0), .agg [.lit (.string []), .lit (.string [])]], [], places) :=
  ⟨[], by kernel_rfl⟩
theorem laid_met (os : Os) : laidMet Tryz.prog Rows.fnExactSpoolDoneRow.laid ((laidWorld os).forCall (fun _ _ => 0) ⟨#[], #[(.agg #[.int .i64 0, .slice none 0 0] : Value), (.int .i64 0 : Value), (.agg #[.string ByteArray.empty, .string ByteArray.empty] : Value)], []⟩).memory :=
  laidMet_of_run' 8 (by kernel_rfl) (by kernel_rfl)

set_option maxRecDepth 100000 in
theorem lifted (os : Os) (started : os.Started) (H : Type) (enc : TypeId × Value → H) (F : Stop.Interp) :
    ReturnsInHanded {} Tryz.checked os 8 .any ((OpenSpec.ofChange Rows.fnExactSpoolDoneSpec).preRow enc Tryz.prog Tryz.f8 Rows.fnExactSpoolDoneRow.domain false Rows.fnExactSpoolDoneRow.laid) (((OpenSpec.ofChange Rows.fnExactSpoolDoneSpec).at F).post enc Tryz.prog Tryz.f8 false true false false) := by
  obtain ⟨places, hx⟩ := reads os enc
  refine returnsInHanded_of_row (C := Tryz.checked) (s := OpenSpec.ofChange Rows.fnExactSpoolDoneSpec) own started (by kernel_rfl) Tryz.func8
    (witness_row_at (enc := enc) (C := Tryz.checked) false (laidWorld os) #[(.agg #[.int .i64 0, .slice none 0 0] : Value), (.int .i64 0 : Value), (.agg #[.string ByteArray.empty, .string ByteArray.empty] : Value)] rfl (by kernel_rfl) (by kernel_rfl) (by kernel_rfl)
      (OpenSpec.preRow_of_cond 8 hx (by kernel_rfl) (fun k hk => by cases hk) (by kernel_rfl) (laid_met os))) ?_
  intro W base args ds gs before hval hW _ _ _ _ hsh _
  exact contract H enc W base args ds gs before hval hW hsh

theorem closed : joinedFacts Tryz.pinned.checked.prog 8 Tryz.f8 (OpenSpec.ofChange Rows.fnExactSpoolDoneSpec).bare Rows.fnExactSpoolDoneRow = true := by unfold joinedFacts; rw [fEnter, fLift, fMake]; kernel_rfl
theorem named : Tryz.pinned.checked.prog.funcNamed Rows.fnExactSpoolDoneRow.func = some 8 := by kernel_rfl
theorem instD : Tryz.f8.isInstance Tryz.pinned.checked.prog Rows.fnExactSpoolDoneRow.origin Rows.fnExactSpoolDoneRow.targs := of_decide_eq_true (by kernel_rfl)
theorem wrapD : Tryz.f8.isWrapper Tryz.pinned.checked.prog Rows.fnExactSpoolDoneRow.wrapper Rows.fnExactSpoolDoneRow.mainSum := by
  unfold Func.isWrapper
  first | (rw [if_pos (by decide +kernel)]; kernel_rfl) | (rw [if_neg (by decide +kernel)]; exact ⟨rfl, rfl⟩)

theorem said : Rows.FnExactSpoolDoneSaid :=
  OpenClaim.holds_of_cond 8 Tryz.f8 rfl rfl rfl rfl rfl rfl rfl ⟨rfl, rfl, rfl, rfl, rfl⟩ rfl rfl rfl rfl rfl named Tryz.func8 closed instD wrapD
    (fun os started H enc _ F => by rw [OpenClaim.pre_eq_preRow]; exact lifted os started H enc F)

theorem plain (f : FuncId) (fn : Func) (hf : Tryz.pinned.checked.prog.funcNamed "loop.example/satchel/laws.FnExactSpoolDone" = some f) (hfn : Tryz.pinned.checked.prog.funcs[f]? = some fn) :
    true = Tryz.pinned.checked.prog.looks [] ∧ ∀ (j : Nat) t, fn.params[j]? = some t → Tryz.pinned.checked.prog.wantsStandIn t = false := by
  obtain rfl : f = 8 := Option.some.inj ((show Tryz.prog.funcNamed "loop.example/satchel/laws.FnExactSpoolDone" = some 8 by kernel_rfl).symm.trans hf) |>.symm
  obtain rfl : fn = Tryz.f8 := (Option.some.inj (Tryz.func8.symm.trans hfn)).symm
  refine ⟨fLooks.symm, fun j t ht => ?_⟩
  rw [Tryz.params8] at ht
  have hall : ∀ t ∈ ([60, 3, 61] : List TypeId), Tryz.prog.wantsStandIn t = false := by
    intro t ht
    simp only [List.mem_cons, List.not_mem_nil, or_false] at ht
    rcases ht with rfl | rfl | rfl
    all_goals kernel_rfl
  exact hall t (by simpa using Array.mem_of_getElem? ht)

/-- ████ THE CARD ████ -/
theorem card : Rows.FnExactSpoolDoneCardSaid :=
  Claim7.holds_tied_plain_at .later [] _ _ _ _ said (fun _ h => by cases h) (by kernel_rfl) (fun _ h => by cases h) fnExactSpoolDone_row_tie rfl ⟨rfl, rfl⟩ fMain rfl plain (by kernel_rfl)
#print axioms card
end Go.Proofs.YtfffocfcnigogaaGreatDoor.fnExactSpoolDone
