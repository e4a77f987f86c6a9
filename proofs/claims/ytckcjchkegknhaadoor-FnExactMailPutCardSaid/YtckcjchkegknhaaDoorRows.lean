/-
  NARROWER THAN 'FOR EVERY INPUT', by the rows' own cells (each row's printed sentence says how): FnHops: laid · FnMailPut: laid · FnMailGet: laid · FnWay: laid · FnTakes: laid · FnHello: laid · FnCliNew: laid · FnCliOuts: laid · FnExactMailOk: laid · FnExactMailPut: laid · FnExactMailGet: laid · FnExactConfOk: laid · FnExactWayOf: laid · FnExactConfTakes: laid · FnExactSessHello: laid · FnExactCliOk: laid · FnExactCliNew: laid · FnExactCliOuts: laid.
  DERIVED. THE GIVEN ROWS OF THIS SEAT. 18 by the template 'for every input the law returns true; each argument reads behind the call as it read before'; 0 by the template 'total and deterministic' (their statements: YtckcjchkegknhaaDoorTotals.lean).
  GIVEN WITH THE SEED: the statements are not yours to turn. If you find one false, say at which input.
  Laid BY PROGRAM, IN A SANDBOX (cutbox-rows.mjs): the forced cells as the released guide's own fill.sh prints them over the translation f90b8e0842d015d5… (all of the seat's roots in one cut). By AI agents, Wed Nov 11 2026. No macro, syntax, notation, axiom, sorry.
-/
import Derived.Test.YtckcjchkegknhaaDoorChecked
import GoSem.PinnedTables
import GoSem.Claim
import GoSem.ClaimJoined
import GoSem.ClaimMapViews
import Derived.JoinedTies
import Derived.KernelRfl
namespace Go.Proofs.YtckcjchkegknhaaDoor
/- THE CELL 'sum', in the pinned program and in every row, IS THE sha256 OF THE DUMP (.gsa) THAT YtckcjchkegknhaaDoorProg.lean LOADS. Nothing in Lean hashes anything: it is a label: what it is worth is what the hold of that sum in a sandbox is worth. -/
noncomputable def Tryd.pinned : Pinned := { name := "ytckcjchkegknhaadoor", sum := "f90b8e0842d015d54dd3dbb09e1ed08f3b7d539e9fbc1ce8900a6b61e1d91c6c", checked := Tryd.checked }
namespace Rows
def none {H : Type} : Left H := { results := [], args := [] }

/- WHAT THE LISTED PACKAGE-LEVEL VARIABLES READ AS WHEN THE CALL BEGINS. Each datum BY PROGRAM (the guide's laid-datum.mjs) off the statement by which the dump's own 'gosem.cut.vars' lays the variable. In a bare row this is a premise. The card (YtckcjchkegknhaaDoorCards.lean) ties it to the program's text. -/
def laid_unicode_utf8_acceptRanges {H : Type} : DataW H := .agg [.agg [.lit (.int .u8 128), .lit (.int .u8 191)], .agg [.lit (.int .u8 160), .lit (.int .u8 191)], .agg [.lit (.int .u8 128), .lit (.int .u8 159)], .agg [.lit (.int .u8 144), .lit (.int .u8 191)], .agg [.lit (.int .u8 128), .lit (.int .u8 143)], .agg [.lit (.int .u8 0), .lit (.int .u8 0)], .agg [.lit (.int .u8 0), .lit (.int .u8 0)], .agg [.lit (.int .u8 0), .lit (.int .u8 0)], .agg [.lit (.int .u8 0), .lit (.int .u8 0)], .agg [.lit (.int .u8 0), .lit (.int .u8 0)], .agg [.lit (.int .u8 0), .lit (.int .u8 0)], .agg [.lit (.int .u8 0), .lit (.int .u8 0)], .agg [.lit (.int .u8 0), .lit (.int .u8 0)], .agg [.lit (.int .u8 0), .lit (.int .u8 0)], .agg [.lit (.int .u8 0), .lit (.int .u8 0)], .agg [.lit (.int .u8 0), .lit (.int .u8 0)]]
/-- One of Go's own tables, pinned by name: the form's constant. -/
def laid_unicode_utf8_first : DataW Unit := Go.Pinned.utf8First

/-- 'laws.FnHops': WHATEVER THE INPUT: true; the input reads as it did. -/
def fnHopsSpec : ChangeSpec := { name := "fnHops", fn := fun _ => fun
  | [d1, d2] => { results := [.lit (.bool true)], args := [d1, d2] }
  | _ => none }
def fnHopsRow : OpenClaim := { program := "ytckcjchkegknhaadoor", sum := "f90b8e0842d015d54dd3dbb09e1ed08f3b7d539e9fbc1ce8900a6b61e1d91c6c", func := "loop.example/satchel/laws.FnHops", spec := "fnHops", inPlace := ["internal/bytealg.CountString", "internal/bytealg.IndexByteString", "internal/bytealg.IndexString"], named := ["unicode/utf8.first", "unicode/utf8.acceptRanges", "internal/bytealg.MaxLen"], apart := false, laid := [("unicode/utf8.acceptRanges", laid_unicode_utf8_acceptRanges), ("unicode/utf8.first", laid_unicode_utf8_first)] }
def FnHopsSaid : Prop := fnHopsRow.holds Tryd.pinned (OpenSpec.ofChange fnHopsSpec)

/-- ITS FALSE NEIGHBOUR: 'it returns false'. Refute it at one input. -/
def fnHopsWrong : ChangeSpec := { name := "fnHops", fn := fun _ => fun
  | [d1, d2] => { results := [.lit (.bool false)], args := [d1, d2] }
  | _ => none }
def FnHopsWrongFalsely : Prop := fnHopsRow.holds Tryd.pinned (OpenSpec.ofChange fnHopsWrong)

/-- 'laws.FnMailPut': WHATEVER THE INPUT: true; the input reads as it did. -/
def fnMailPutSpec : ChangeSpec := { name := "fnMailPut", fn := fun _ => fun
  | [d] => { results := [.lit (.bool true)], args := [d] }
  | _ => none }
def fnMailPutRow : OpenClaim := { program := "ytckcjchkegknhaadoor", sum := "f90b8e0842d015d54dd3dbb09e1ed08f3b7d539e9fbc1ce8900a6b61e1d91c6c", func := "loop.example/satchel/laws.FnMailPut", spec := "fnMailPut", inPlace := ["internal/bytealg.CountString", "internal/bytealg.IndexByteString", "internal/bytealg.IndexString", "internal/abi.NoEscape"], unfollowed := true, recurses := true, named := ["unicode/utf8.first", "unicode/utf8.acceptRanges", "internal/bytealg.MaxLen"], apart := false, laid := [("unicode/utf8.acceptRanges", laid_unicode_utf8_acceptRanges), ("unicode/utf8.first", laid_unicode_utf8_first)] }
def FnMailPutSaid : Prop := fnMailPutRow.holds Tryd.pinned (OpenSpec.ofChange fnMailPutSpec)

/-- ITS FALSE NEIGHBOUR: 'it returns false'. Refute it at one input. -/
def fnMailPutWrong : ChangeSpec := { name := "fnMailPut", fn := fun _ => fun
  | [d] => { results := [.lit (.bool false)], args := [d] }
  | _ => none }
def FnMailPutWrongFalsely : Prop := fnMailPutRow.holds Tryd.pinned (OpenSpec.ofChange fnMailPutWrong)

/-- 'laws.FnMailGet': WHATEVER THE INPUT: true; the input reads as it did. -/
def fnMailGetSpec : ChangeSpec := { name := "fnMailGet", fn := fun _ => fun
  | [d] => { results := [.lit (.bool true)], args := [d] }
  | _ => none }
def fnMailGetRow : OpenClaim := { program := "ytckcjchkegknhaadoor", sum := "f90b8e0842d015d54dd3dbb09e1ed08f3b7d539e9fbc1ce8900a6b61e1d91c6c", func := "loop.example/satchel/laws.FnMailGet", spec := "fnMailGet", inPlace := ["internal/bytealg.IndexByteString", "internal/bytealg.IndexString", "internal/bytealg.CountString", "internal/abi.NoEscape"], unfollowed := true, recurses := true, named := ["internal/bytealg.MaxLen", "unicode/utf8.first", "unicode/utf8.acceptRanges"], apart := false, laid := [("unicode/utf8.acceptRanges", laid_unicode_utf8_acceptRanges), ("unicode/utf8.first", laid_unicode_utf8_first)] }
def FnMailGetSaid : Prop := fnMailGetRow.holds Tryd.pinned (OpenSpec.ofChange fnMailGetSpec)

/-- ITS FALSE NEIGHBOUR: 'it returns false'. Refute it at one input. -/
def fnMailGetWrong : ChangeSpec := { name := "fnMailGet", fn := fun _ => fun
  | [d] => { results := [.lit (.bool false)], args := [d] }
  | _ => none }
def FnMailGetWrongFalsely : Prop := fnMailGetRow.holds Tryd.pinned (OpenSpec.ofChange fnMailGetWrong)

/-- 'laws.FnWay': WHATEVER THE INPUT: true; the input reads as it did. -/
def fnWaySpec : ChangeSpec := { name := "fnWay", fn := fun _ => fun
  | [d] => { results := [.lit (.bool true)], args := [d] }
  | _ => none }
def fnWayRow : OpenClaim := { program := "ytckcjchkegknhaadoor", sum := "f90b8e0842d015d54dd3dbb09e1ed08f3b7d539e9fbc1ce8900a6b61e1d91c6c", func := "loop.example/satchel/laws.FnWay", spec := "fnWay", inPlace := ["internal/bytealg.CountString", "internal/bytealg.IndexByteString", "internal/bytealg.IndexString"], named := ["unicode/utf8.first", "unicode/utf8.acceptRanges", "internal/bytealg.MaxLen"], apart := false, laid := [("unicode/utf8.acceptRanges", laid_unicode_utf8_acceptRanges), ("unicode/utf8.first", laid_unicode_utf8_first)] }
def FnWaySaid : Prop := fnWayRow.holds Tryd.pinned (OpenSpec.ofChange fnWaySpec)

/-- ITS FALSE NEIGHBOUR: 'it returns false'. Refute it at one input. -/
def fnWayWrong : ChangeSpec := { name := "fnWay", fn := fun _ => fun
  | [d] => { results := [.lit (.bool false)], args := [d] }
  | _ => none }
def FnWayWrongFalsely : Prop := fnWayRow.holds Tryd.pinned (OpenSpec.ofChange fnWayWrong)

/-- 'laws.FnTakes': WHATEVER THE INPUT: true; the input reads as it did. -/
def fnTakesSpec : ChangeSpec := { name := "fnTakes", fn := fun _ => fun
  | [d] => { results := [.lit (.bool true)], args := [d] }
  | _ => none }
def fnTakesRow : OpenClaim := { program := "ytckcjchkegknhaadoor", sum := "f90b8e0842d015d54dd3dbb09e1ed08f3b7d539e9fbc1ce8900a6b61e1d91c6c", func := "loop.example/satchel/laws.FnTakes", spec := "fnTakes", inPlace := ["internal/bytealg.CountString", "internal/bytealg.IndexByteString", "internal/bytealg.IndexString"], named := ["unicode/utf8.first", "unicode/utf8.acceptRanges", "internal/bytealg.MaxLen"], apart := false, laid := [("unicode/utf8.acceptRanges", laid_unicode_utf8_acceptRanges), ("unicode/utf8.first", laid_unicode_utf8_first)] }
def FnTakesSaid : Prop := fnTakesRow.holds Tryd.pinned (OpenSpec.ofChange fnTakesSpec)

/-- ITS FALSE NEIGHBOUR: 'it returns false'. Refute it at one input. -/
def fnTakesWrong : ChangeSpec := { name := "fnTakes", fn := fun _ => fun
  | [d] => { results := [.lit (.bool false)], args := [d] }
  | _ => none }
def FnTakesWrongFalsely : Prop := fnTakesRow.holds Tryd.pinned (OpenSpec.ofChange fnTakesWrong)

/-- 'laws.FnHello': WHATEVER THE INPUT: true; the input reads as it did. -/
def fnHelloSpec : ChangeSpec := { name := "fnHello", fn := fun _ => fun
  | [d] => { results := [.lit (.bool true)], args := [d] }
  | _ => none }
def fnHelloRow : OpenClaim := { program := "ytckcjchkegknhaadoor", sum := "f90b8e0842d015d54dd3dbb09e1ed08f3b7d539e9fbc1ce8900a6b61e1d91c6c", func := "loop.example/satchel/laws.FnHello", spec := "fnHello", inPlace := ["internal/bytealg.CountString", "internal/bytealg.IndexByteString", "internal/bytealg.IndexString"], unfollowed := true, recurses := true, named := ["unicode/utf8.first", "unicode/utf8.acceptRanges", "internal/bytealg.MaxLen"], apart := false, laid := [("unicode/utf8.acceptRanges", laid_unicode_utf8_acceptRanges), ("unicode/utf8.first", laid_unicode_utf8_first)] }
def FnHelloSaid : Prop := fnHelloRow.holds Tryd.pinned (OpenSpec.ofChange fnHelloSpec)

/-- ITS FALSE NEIGHBOUR: 'it returns false'. Refute it at one input. -/
def fnHelloWrong : ChangeSpec := { name := "fnHello", fn := fun _ => fun
  | [d] => { results := [.lit (.bool false)], args := [d] }
  | _ => none }
def FnHelloWrongFalsely : Prop := fnHelloRow.holds Tryd.pinned (OpenSpec.ofChange fnHelloWrong)

/-- 'laws.FnCliNew': WHATEVER THE INPUT: true; the input reads as it did. -/
def fnCliNewSpec : ChangeSpec := { name := "fnCliNew", fn := fun _ => fun
  | [d] => { results := [.lit (.bool true)], args := [d] }
  | _ => none }
def fnCliNewRow : OpenClaim := { program := "ytckcjchkegknhaadoor", sum := "f90b8e0842d015d54dd3dbb09e1ed08f3b7d539e9fbc1ce8900a6b61e1d91c6c", func := "loop.example/satchel/laws.FnCliNew", spec := "fnCliNew", inPlace := ["internal/bytealg.CountString", "internal/bytealg.IndexByteString", "internal/bytealg.IndexString"], named := ["unicode/utf8.first", "unicode/utf8.acceptRanges", "internal/bytealg.MaxLen"], apart := false, laid := [("unicode/utf8.acceptRanges", laid_unicode_utf8_acceptRanges), ("unicode/utf8.first", laid_unicode_utf8_first)] }
def FnCliNewSaid : Prop := fnCliNewRow.holds Tryd.pinned (OpenSpec.ofChange fnCliNewSpec)

/-- ITS FALSE NEIGHBOUR: 'it returns false'. Refute it at one input. -/
def fnCliNewWrong : ChangeSpec := { name := "fnCliNew", fn := fun _ => fun
  | [d] => { results := [.lit (.bool false)], args := [d] }
  | _ => none }
def FnCliNewWrongFalsely : Prop := fnCliNewRow.holds Tryd.pinned (OpenSpec.ofChange fnCliNewWrong)

/-- 'laws.FnCliOuts': WHATEVER THE INPUT: true; the input reads as it did. -/
def fnCliOutsSpec : ChangeSpec := { name := "fnCliOuts", fn := fun _ => fun
  | [d] => { results := [.lit (.bool true)], args := [d] }
  | _ => none }
def fnCliOutsRow : OpenClaim := { program := "ytckcjchkegknhaadoor", sum := "f90b8e0842d015d54dd3dbb09e1ed08f3b7d539e9fbc1ce8900a6b61e1d91c6c", func := "loop.example/satchel/laws.FnCliOuts", spec := "fnCliOuts", inPlace := ["internal/bytealg.CountString", "internal/bytealg.IndexByteString", "internal/bytealg.IndexString"], named := ["unicode/utf8.first", "unicode/utf8.acceptRanges", "internal/bytealg.MaxLen"], apart := false, laid := [("unicode/utf8.acceptRanges", laid_unicode_utf8_acceptRanges), ("unicode/utf8.first", laid_unicode_utf8_first)] }
def FnCliOutsSaid : Prop := fnCliOutsRow.holds Tryd.pinned (OpenSpec.ofChange fnCliOutsSpec)

/-- ITS FALSE NEIGHBOUR: 'it returns false'. Refute it at one input. -/
def fnCliOutsWrong : ChangeSpec := { name := "fnCliOuts", fn := fun _ => fun
  | [d] => { results := [.lit (.bool false)], args := [d] }
  | _ => none }
def FnCliOutsWrongFalsely : Prop := fnCliOutsRow.holds Tryd.pinned (OpenSpec.ofChange fnCliOutsWrong)

/-- 'laws.FnExactMailOk': WHATEVER THE INPUT: true; the input reads as it did. -/
def fnExactMailOkSpec : ChangeSpec := { name := "fnExactMailOk", fn := fun _ => fun
  | [d] => { results := [.lit (.bool true)], args := [d] }
  | _ => none }
def fnExactMailOkRow : OpenClaim := { program := "ytckcjchkegknhaadoor", sum := "f90b8e0842d015d54dd3dbb09e1ed08f3b7d539e9fbc1ce8900a6b61e1d91c6c", func := "loop.example/satchel/laws.FnExactMailOk", spec := "fnExactMailOk", inPlace := ["internal/bytealg.CountString", "internal/bytealg.IndexByteString", "internal/bytealg.IndexString"], named := ["unicode/utf8.first", "unicode/utf8.acceptRanges", "internal/bytealg.MaxLen"], apart := false, laid := [("unicode/utf8.acceptRanges", laid_unicode_utf8_acceptRanges), ("unicode/utf8.first", laid_unicode_utf8_first)] }
def FnExactMailOkSaid : Prop := fnExactMailOkRow.holds Tryd.pinned (OpenSpec.ofChange fnExactMailOkSpec)

/-- ITS FALSE NEIGHBOUR: 'it returns false'. Refute it at one input. -/
def fnExactMailOkWrong : ChangeSpec := { name := "fnExactMailOk", fn := fun _ => fun
  | [d] => { results := [.lit (.bool false)], args := [d] }
  | _ => none }
def FnExactMailOkWrongFalsely : Prop := fnExactMailOkRow.holds Tryd.pinned (OpenSpec.ofChange fnExactMailOkWrong)

/-- 'laws.FnExactMailPut': WHATEVER THE INPUT: true; the input reads as it did. -/
def fnExactMailPutSpec : ChangeSpec := { name := "fnExactMailPut", fn := fun _ => fun
  | [d] => { results := [.lit (.bool true)], args := [d] }
  | _ => none }
def fnExactMailPutRow : OpenClaim := { program := "ytckcjchkegknhaadoor", sum := "f90b8e0842d015d54dd3dbb09e1ed08f3b7d539e9fbc1ce8900a6b61e1d91c6c", func := "loop.example/satchel/laws.FnExactMailPut", spec := "fnExactMailPut", inPlace := ["internal/bytealg.CountString", "internal/bytealg.IndexByteString", "internal/bytealg.IndexString", "internal/abi.NoEscape"], named := ["unicode/utf8.first", "unicode/utf8.acceptRanges", "internal/bytealg.MaxLen"], apart := false, laid := [("unicode/utf8.acceptRanges", laid_unicode_utf8_acceptRanges), ("unicode/utf8.first", laid_unicode_utf8_first)] }
def FnExactMailPutSaid : Prop := fnExactMailPutRow.holds Tryd.pinned (OpenSpec.ofChange fnExactMailPutSpec)

/-- ITS FALSE NEIGHBOUR: 'it returns false'. Refute it at one input. -/
def fnExactMailPutWrong : ChangeSpec := { name := "fnExactMailPut", fn := fun _ => fun
  | [d] => { results := [.lit (.bool false)], args := [d] }
  | _ => none }
def FnExactMailPutWrongFalsely : Prop := fnExactMailPutRow.holds Tryd.pinned (OpenSpec.ofChange fnExactMailPutWrong)

/-- 'laws.FnExactMailGet': WHATEVER THE INPUT: true; the input reads as it did. -/
def fnExactMailGetSpec : ChangeSpec := { name := "fnExactMailGet", fn := fun _ => fun
  | [d] => { results := [.lit (.bool true)], args := [d] }
  | _ => none }
def fnExactMailGetRow : OpenClaim := { program := "ytckcjchkegknhaadoor", sum := "f90b8e0842d015d54dd3dbb09e1ed08f3b7d539e9fbc1ce8900a6b61e1d91c6c", func := "loop.example/satchel/laws.FnExactMailGet", spec := "fnExactMailGet", inPlace := ["internal/bytealg.IndexByteString", "internal/bytealg.IndexString", "internal/bytealg.CountString"], unfollowed := true, recurses := true, named := ["internal/bytealg.MaxLen", "unicode/utf8.first", "unicode/utf8.acceptRanges"], apart := false, laid := [("unicode/utf8.acceptRanges", laid_unicode_utf8_acceptRanges), ("unicode/utf8.first", laid_unicode_utf8_first)] }
def FnExactMailGetSaid : Prop := fnExactMailGetRow.holds Tryd.pinned (OpenSpec.ofChange fnExactMailGetSpec)

/-- ITS FALSE NEIGHBOUR: 'it returns false'. Refute it at one input. -/
def fnExactMailGetWrong : ChangeSpec := { name := "fnExactMailGet", fn := fun _ => fun
  | [d] => { results := [.lit (.bool false)], args := [d] }
  | _ => none }
def FnExactMailGetWrongFalsely : Prop := fnExactMailGetRow.holds Tryd.pinned (OpenSpec.ofChange fnExactMailGetWrong)

/-- 'laws.FnExactConfOk': WHATEVER THE INPUT: true; the input reads as it did. -/
def fnExactConfOkSpec : ChangeSpec := { name := "fnExactConfOk", fn := fun _ => fun
  | [d] => { results := [.lit (.bool true)], args := [d] }
  | _ => none }
def fnExactConfOkRow : OpenClaim := { program := "ytckcjchkegknhaadoor", sum := "f90b8e0842d015d54dd3dbb09e1ed08f3b7d539e9fbc1ce8900a6b61e1d91c6c", func := "loop.example/satchel/laws.FnExactConfOk", spec := "fnExactConfOk", inPlace := ["internal/bytealg.CountString", "internal/bytealg.IndexByteString", "internal/bytealg.IndexString"], named := ["unicode/utf8.first", "unicode/utf8.acceptRanges", "internal/bytealg.MaxLen"], apart := false, laid := [("unicode/utf8.acceptRanges", laid_unicode_utf8_acceptRanges), ("unicode/utf8.first", laid_unicode_utf8_first)] }
def FnExactConfOkSaid : Prop := fnExactConfOkRow.holds Tryd.pinned (OpenSpec.ofChange fnExactConfOkSpec)

/-- ITS FALSE NEIGHBOUR: 'it returns false'. Refute it at one input. -/
def fnExactConfOkWrong : ChangeSpec := { name := "fnExactConfOk", fn := fun _ => fun
  | [d] => { results := [.lit (.bool false)], args := [d] }
  | _ => none }
def FnExactConfOkWrongFalsely : Prop := fnExactConfOkRow.holds Tryd.pinned (OpenSpec.ofChange fnExactConfOkWrong)

/-- 'laws.FnExactWayOf': WHATEVER THE INPUT: true; the input reads as it did. -/
def fnExactWayOfSpec : ChangeSpec := { name := "fnExactWayOf", fn := fun _ => fun
  | [d1, d2] => { results := [.lit (.bool true)], args := [d1, d2] }
  | _ => none }
def fnExactWayOfRow : OpenClaim := { program := "ytckcjchkegknhaadoor", sum := "f90b8e0842d015d54dd3dbb09e1ed08f3b7d539e9fbc1ce8900a6b61e1d91c6c", func := "loop.example/satchel/laws.FnExactWayOf", spec := "fnExactWayOf", inPlace := ["internal/bytealg.CountString", "internal/bytealg.IndexByteString", "internal/bytealg.IndexString"], named := ["unicode/utf8.first", "unicode/utf8.acceptRanges", "internal/bytealg.MaxLen"], apart := false, laid := [("unicode/utf8.acceptRanges", laid_unicode_utf8_acceptRanges), ("unicode/utf8.first", laid_unicode_utf8_first)] }
def FnExactWayOfSaid : Prop := fnExactWayOfRow.holds Tryd.pinned (OpenSpec.ofChange fnExactWayOfSpec)

/-- ITS FALSE NEIGHBOUR: 'it returns false'. Refute it at one input. -/
def fnExactWayOfWrong : ChangeSpec := { name := "fnExactWayOf", fn := fun _ => fun
  | [d1, d2] => { results := [.lit (.bool false)], args := [d1, d2] }
  | _ => none }
def FnExactWayOfWrongFalsely : Prop := fnExactWayOfRow.holds Tryd.pinned (OpenSpec.ofChange fnExactWayOfWrong)

/-- 'laws.FnExactConfTakes': WHATEVER THE INPUT: true; the input reads as it did. -/
def fnExactConfTakesSpec : ChangeSpec := { name := "fnExactConfTakes", fn := fun _ => fun
  | [d1, d2] => { results := [.lit (.bool true)], args := [d1, d2] }
  | _ => none }
def fnExactConfTakesRow : OpenClaim := { program := "ytckcjchkegknhaadoor", sum := "f90b8e0842d015d54dd3dbb09e1ed08f3b7d539e9fbc1ce8900a6b61e1d91c6c", func := "loop.example/satchel/laws.FnExactConfTakes", spec := "fnExactConfTakes", inPlace := ["internal/bytealg.CountString", "internal/bytealg.IndexByteString", "internal/bytealg.IndexString"], named := ["unicode/utf8.first", "unicode/utf8.acceptRanges", "internal/bytealg.MaxLen"], apart := false, laid := [("unicode/utf8.acceptRanges", laid_unicode_utf8_acceptRanges), ("unicode/utf8.first", laid_unicode_utf8_first)] }
def FnExactConfTakesSaid : Prop := fnExactConfTakesRow.holds Tryd.pinned (OpenSpec.ofChange fnExactConfTakesSpec)

/-- ITS FALSE NEIGHBOUR: 'it returns false'. Refute it at one input. -/
def fnExactConfTakesWrong : ChangeSpec := { name := "fnExactConfTakes", fn := fun _ => fun
  | [d1, d2] => { results := [.lit (.bool false)], args := [d1, d2] }
  | _ => none }
def FnExactConfTakesWrongFalsely : Prop := fnExactConfTakesRow.holds Tryd.pinned (OpenSpec.ofChange fnExactConfTakesWrong)

/-- 'laws.FnExactSessHello': WHATEVER THE INPUT: true; the input reads as it did. -/
def fnExactSessHelloSpec : ChangeSpec := { name := "fnExactSessHello", fn := fun _ => fun
  | [d] => { results := [.lit (.bool true)], args := [d] }
  | _ => none }
def fnExactSessHelloRow : OpenClaim := { program := "ytckcjchkegknhaadoor", sum := "f90b8e0842d015d54dd3dbb09e1ed08f3b7d539e9fbc1ce8900a6b61e1d91c6c", func := "loop.example/satchel/laws.FnExactSessHello", spec := "fnExactSessHello", inPlace := ["internal/bytealg.CountString", "internal/bytealg.IndexByteString", "internal/bytealg.IndexString"], named := ["unicode/utf8.first", "unicode/utf8.acceptRanges", "internal/bytealg.MaxLen"], apart := false, laid := [("unicode/utf8.acceptRanges", laid_unicode_utf8_acceptRanges), ("unicode/utf8.first", laid_unicode_utf8_first)] }
def FnExactSessHelloSaid : Prop := fnExactSessHelloRow.holds Tryd.pinned (OpenSpec.ofChange fnExactSessHelloSpec)

/-- ITS FALSE NEIGHBOUR: 'it returns false'. Refute it at one input. -/
def fnExactSessHelloWrong : ChangeSpec := { name := "fnExactSessHello", fn := fun _ => fun
  | [d] => { results := [.lit (.bool false)], args := [d] }
  | _ => none }
def FnExactSessHelloWrongFalsely : Prop := fnExactSessHelloRow.holds Tryd.pinned (OpenSpec.ofChange fnExactSessHelloWrong)

/-- 'laws.FnExactCliOk': WHATEVER THE INPUT: true; the input reads as it did. -/
def fnExactCliOkSpec : ChangeSpec := { name := "fnExactCliOk", fn := fun _ => fun
  | [d] => { results := [.lit (.bool true)], args := [d] }
  | _ => none }
def fnExactCliOkRow : OpenClaim := { program := "ytckcjchkegknhaadoor", sum := "f90b8e0842d015d54dd3dbb09e1ed08f3b7d539e9fbc1ce8900a6b61e1d91c6c", func := "loop.example/satchel/laws.FnExactCliOk", spec := "fnExactCliOk", inPlace := ["internal/bytealg.CountString", "internal/bytealg.IndexByteString", "internal/bytealg.IndexString"], named := ["unicode/utf8.first", "unicode/utf8.acceptRanges", "internal/bytealg.MaxLen"], apart := false, laid := [("unicode/utf8.acceptRanges", laid_unicode_utf8_acceptRanges), ("unicode/utf8.first", laid_unicode_utf8_first)] }
def FnExactCliOkSaid : Prop := fnExactCliOkRow.holds Tryd.pinned (OpenSpec.ofChange fnExactCliOkSpec)

/-- ITS FALSE NEIGHBOUR: 'it returns false'. Refute it at one input. -/
def fnExactCliOkWrong : ChangeSpec := { name := "fnExactCliOk", fn := fun _ => fun
  | [d] => { results := [.lit (.bool false)], args := [d] }
  | _ => none }
def FnExactCliOkWrongFalsely : Prop := fnExactCliOkRow.holds Tryd.pinned (OpenSpec.ofChange fnExactCliOkWrong)

/-- 'laws.FnExactCliNew': WHATEVER THE INPUT: true; the input reads as it did. -/
def fnExactCliNewSpec : ChangeSpec := { name := "fnExactCliNew", fn := fun _ => fun
  | [d1, d2] => { results := [.lit (.bool true)], args := [d1, d2] }
  | _ => none }
def fnExactCliNewRow : OpenClaim := { program := "ytckcjchkegknhaadoor", sum := "f90b8e0842d015d54dd3dbb09e1ed08f3b7d539e9fbc1ce8900a6b61e1d91c6c", func := "loop.example/satchel/laws.FnExactCliNew", spec := "fnExactCliNew", inPlace := ["internal/bytealg.CountString", "internal/bytealg.IndexByteString", "internal/bytealg.IndexString"], named := ["unicode/utf8.first", "unicode/utf8.acceptRanges", "internal/bytealg.MaxLen"], apart := false, laid := [("unicode/utf8.acceptRanges", laid_unicode_utf8_acceptRanges), ("unicode/utf8.first", laid_unicode_utf8_first)] }
def FnExactCliNewSaid : Prop := fnExactCliNewRow.holds Tryd.pinned (OpenSpec.ofChange fnExactCliNewSpec)

/-- ITS FALSE NEIGHBOUR: 'it returns false'. Refute it at one input. -/
def fnExactCliNewWrong : ChangeSpec := { name := "fnExactCliNew", fn := fun _ => fun
  | [d1, d2] => { results := [.lit (.bool false)], args := [d1, d2] }
  | _ => none }
def FnExactCliNewWrongFalsely : Prop := fnExactCliNewRow.holds Tryd.pinned (OpenSpec.ofChange fnExactCliNewWrong)

/-- 'laws.FnExactCliOuts': WHATEVER THE INPUT: true; the input reads as it did. -/
def fnExactCliOutsSpec : ChangeSpec := { name := "fnExactCliOuts", fn := fun _ => fun
  | [d] => { results := [.lit (.bool true)], args := [d] }
  | _ => none }
def fnExactCliOutsRow : OpenClaim := { program := "ytckcjchkegknhaadoor", sum := "f90b8e0842d015d54dd3dbb09e1ed08f3b7d539e9fbc1ce8900a6b61e1d91c6c", func := "loop.example/satchel/laws.FnExactCliOuts", spec := "fnExactCliOuts", inPlace := ["internal/bytealg.CountString", "internal/bytealg.IndexByteString", "internal/bytealg.IndexString"], named := ["unicode/utf8.first", "unicode/utf8.acceptRanges", "internal/bytealg.MaxLen"], apart := false, laid := [("unicode/utf8.acceptRanges", laid_unicode_utf8_acceptRanges), ("unicode/utf8.first", laid_unicode_utf8_first)] }
def FnExactCliOutsSaid : Prop := fnExactCliOutsRow.holds Tryd.pinned (OpenSpec.ofChange fnExactCliOutsSpec)

/-- ITS FALSE NEIGHBOUR: 'it returns false'. Refute it at one input. -/
def fnExactCliOutsWrong : ChangeSpec := { name := "fnExactCliOuts", fn := fun _ => fun
  | [d] => { results := [.lit (.bool false)], args := [d] }
  | _ => none }
def FnExactCliOutsWrongFalsely : Prop := fnExactCliOutsRow.holds Tryd.pinned (OpenSpec.ofChange fnExactCliOutsWrong)

/- THE SECOND FORM. 'bulk': how many values and letters a reading holds, each counted each time it is reached (what is shared counts as often as it is met; a slice's spare places count too). A statement '..UptoSaid' is the law's where the arguments, and the package variables that the reading takes, are together of bulk at most 1048576: NARROWER than '..Said'. Prove '..Said' where nothing that the law and all that it calls make is longer than what came in: it says more and counts as full. Else prove '..UptoSaid'. A law counts once. -/
mutual
def uptoBulk {H : Type} : DataW H → Nat
  | .lit (.string bytes) => bytes.length + 1
  | .lit _ => 1
  | .nil => 1
  | .ptr d => uptoBulk d + 1
  | .slice elems spare => uptoBulkAll elems + uptoBulkAll spare + 1
  | .agg parts => uptoBulkAll parts + 1
  | .iface _ d => uptoBulk d + 1
  | .map entries => uptoBulkEntries entries + 1
  | .held _ => 1
def uptoBulkAll {H : Type} : List (DataW H) → Nat
  | [] => 0
  | d :: r => uptoBulk d + uptoBulkAll r
def uptoBulkEntries {H : Type} : List (Lit × DataW H) → Nat
  | [] => 0
  | x :: r => uptoBulkEntry x + uptoBulkEntries r
def uptoBulkEntry {H : Type} : Lit × DataW H → Nat
  | (.string bytes, d) => bytes.length + uptoBulk d + 1
  | (_, d) => uptoBulk d + 1
 end
def uptoSmall : (H : Type) → List (DataW H) → Bool := fun _ ds => decide (uptoBulkAll ds ≤ 1048576)
def OpenSpec.upto (s : _root_.Go.ChangeSpec) : _root_.Go.OpenSpec := { _root_.Go.OpenSpec.ofChange s with cond := some uptoSmall }

/-- 'laws.FnHops', WHERE WHAT IT READS IS OF BULK AT MOST 1048576: true; the input reads as it did. -/
def fnHopsUptoRow : OpenClaim := { program := "ytckcjchkegknhaadoor", sum := "f90b8e0842d015d54dd3dbb09e1ed08f3b7d539e9fbc1ce8900a6b61e1d91c6c", func := "loop.example/satchel/laws.FnHops", spec := "fnHops", inPlace := ["internal/bytealg.CountString", "internal/bytealg.IndexByteString", "internal/bytealg.IndexString"], named := ["unicode/utf8.first", "unicode/utf8.acceptRanges", "internal/bytealg.MaxLen"], apart := false, laid := [("unicode/utf8.acceptRanges", laid_unicode_utf8_acceptRanges), ("unicode/utf8.first", laid_unicode_utf8_first)], narrowed := true }
def FnHopsUptoSaid : Prop := fnHopsUptoRow.holds Tryd.pinned (OpenSpec.upto fnHopsSpec)

/-- 'laws.FnMailPut', WHERE WHAT IT READS IS OF BULK AT MOST 1048576: true; the input reads as it did. -/
def fnMailPutUptoRow : OpenClaim := { program := "ytckcjchkegknhaadoor", sum := "f90b8e0842d015d54dd3dbb09e1ed08f3b7d539e9fbc1ce8900a6b61e1d91c6c", func := "loop.example/satchel/laws.FnMailPut", spec := "fnMailPut", inPlace := ["internal/bytealg.CountString", "internal/bytealg.IndexByteString", "internal/bytealg.IndexString", "internal/abi.NoEscape"], unfollowed := true, recurses := true, named := ["unicode/utf8.first", "unicode/utf8.acceptRanges", "internal/bytealg.MaxLen"], apart := false, laid := [("unicode/utf8.acceptRanges", laid_unicode_utf8_acceptRanges), ("unicode/utf8.first", laid_unicode_utf8_first)], narrowed := true }
def FnMailPutUptoSaid : Prop := fnMailPutUptoRow.holds Tryd.pinned (OpenSpec.upto fnMailPutSpec)

/-- 'laws.FnMailGet', WHERE WHAT IT READS IS OF BULK AT MOST 1048576: true; the input reads as it did. -/
def fnMailGetUptoRow : OpenClaim := { program := "ytckcjchkegknhaadoor", sum := "f90b8e0842d015d54dd3dbb09e1ed08f3b7d539e9fbc1ce8900a6b61e1d91c6c", func := "loop.example/satchel/laws.FnMailGet", spec := "fnMailGet", inPlace := ["internal/bytealg.IndexByteString", "internal/bytealg.IndexString", "internal/bytealg.CountString", "internal/abi.NoEscape"], unfollowed := true, recurses := true, named := ["internal/bytealg.MaxLen", "unicode/utf8.first", "unicode/utf8.acceptRanges"], apart := false, laid := [("unicode/utf8.acceptRanges", laid_unicode_utf8_acceptRanges), ("unicode/utf8.first", laid_unicode_utf8_first)], narrowed := true }
def FnMailGetUptoSaid : Prop := fnMailGetUptoRow.holds Tryd.pinned (OpenSpec.upto fnMailGetSpec)

/-- 'laws.FnWay', WHERE WHAT IT READS IS OF BULK AT MOST 1048576: true; the input reads as it did. -/
def fnWayUptoRow : OpenClaim := { program := "ytckcjchkegknhaadoor", sum := "f90b8e0842d015d54dd3dbb09e1ed08f3b7d539e9fbc1ce8900a6b61e1d91c6c", func := "loop.example/satchel/laws.FnWay", spec := "fnWay", inPlace := ["internal/bytealg.CountString", "internal/bytealg.IndexByteString", "internal/bytealg.IndexString"], named := ["unicode/utf8.first", "unicode/utf8.acceptRanges", "internal/bytealg.MaxLen"], apart := false, laid := [("unicode/utf8.acceptRanges", laid_unicode_utf8_acceptRanges), ("unicode/utf8.first", laid_unicode_utf8_first)], narrowed := true }
def FnWayUptoSaid : Prop := fnWayUptoRow.holds Tryd.pinned (OpenSpec.upto fnWaySpec)

/-- 'laws.FnTakes', WHERE WHAT IT READS IS OF BULK AT MOST 1048576: true; the input reads as it did. -/
def fnTakesUptoRow : OpenClaim := { program := "ytckcjchkegknhaadoor", sum := "f90b8e0842d015d54dd3dbb09e1ed08f3b7d539e9fbc1ce8900a6b61e1d91c6c", func := "loop.example/satchel/laws.FnTakes", spec := "fnTakes", inPlace := ["internal/bytealg.CountString", "internal/bytealg.IndexByteString", "internal/bytealg.IndexString"], named := ["unicode/utf8.first", "unicode/utf8.acceptRanges", "internal/bytealg.MaxLen"], apart := false, laid := [("unicode/utf8.acceptRanges", laid_unicode_utf8_acceptRanges), ("unicode/utf8.first", laid_unicode_utf8_first)], narrowed := true }
def FnTakesUptoSaid : Prop := fnTakesUptoRow.holds Tryd.pinned (OpenSpec.upto fnTakesSpec)

/-- 'laws.FnHello', WHERE WHAT IT READS IS OF BULK AT MOST 1048576: true; the input reads as it did. -/
def fnHelloUptoRow : OpenClaim := { program := "ytckcjchkegknhaadoor", sum := "f90b8e0842d015d54dd3dbb09e1ed08f3b7d539e9fbc1ce8900a6b61e1d91c6c", func := "loop.example/satchel/laws.FnHello", spec := "fnHello", inPlace := ["internal/bytealg.CountString", "internal/bytealg.IndexByteString", "internal/bytealg.IndexString"], unfollowed := true, recurses := true, named := ["unicode/utf8.first", "unicode/utf8.acceptRanges", "internal/bytealg.MaxLen"], apart := false, laid := [("unicode/utf8.acceptRanges", laid_unicode_utf8_acceptRanges), ("unicode/utf8.first", laid_unicode_utf8_first)], narrowed := true }
def FnHelloUptoSaid : Prop := fnHelloUptoRow.holds Tryd.pinned (OpenSpec.upto fnHelloSpec)

/-- 'laws.FnCliNew', WHERE WHAT IT READS IS OF BULK AT MOST 1048576: true; the input reads as it did. -/
def fnCliNewUptoRow : OpenClaim := { program := "ytckcjchkegknhaadoor", sum := "f90b8e0842d015d54dd3dbb09e1ed08f3b7d539e9fbc1ce8900a6b61e1d91c6c", func := "loop.example/satchel/laws.FnCliNew", spec := "fnCliNew", inPlace := ["internal/bytealg.CountString", "internal/bytealg.IndexByteString", "internal/bytealg.IndexString"], named := ["unicode/utf8.first", "unicode/utf8.acceptRanges", "internal/bytealg.MaxLen"], apart := false, laid := [("unicode/utf8.acceptRanges", laid_unicode_utf8_acceptRanges), ("unicode/utf8.first", laid_unicode_utf8_first)], narrowed := true }
def FnCliNewUptoSaid : Prop := fnCliNewUptoRow.holds Tryd.pinned (OpenSpec.upto fnCliNewSpec)

/-- 'laws.FnCliOuts', WHERE WHAT IT READS IS OF BULK AT MOST 1048576: true; the input reads as it did. -/
def fnCliOutsUptoRow : OpenClaim := { program := "ytckcjchkegknhaadoor", sum := "f90b8e0842d015d54dd3dbb09e1ed08f3b7d539e9fbc1ce8900a6b61e1d91c6c", func := "loop.example/satchel/laws.FnCliOuts", spec := "fnCliOuts", inPlace := ["internal/bytealg.CountString", "internal/bytealg.IndexByteString", "internal/bytealg.IndexString"], named := ["unicode/utf8.first", "unicode/utf8.acceptRanges", "internal/bytealg.MaxLen"], apart := false, laid := [("unicode/utf8.acceptRanges", laid_unicode_utf8_acceptRanges), ("unicode/utf8.first", laid_unicode_utf8_first)], narrowed := true }
def FnCliOutsUptoSaid : Prop := fnCliOutsUptoRow.holds Tryd.pinned (OpenSpec.upto fnCliOutsSpec)

/-- 'laws.FnExactMailOk', WHERE WHAT IT READS IS OF BULK AT MOST 1048576: true; the input reads as it did. -/
def fnExactMailOkUptoRow : OpenClaim := { program := "ytckcjchkegknhaadoor", sum := "f90b8e0842d015d54dd3dbb09e1ed08f3b7d539e9fbc1ce8900a6b61e1d91c6c", func := "loop.example/satchel/laws.FnExactMailOk", spec := "fnExactMailOk", inPlace := ["internal/bytealg.CountString", "internal/bytealg.IndexByteString", "internal/bytealg.IndexString"], named := ["unicode/utf8.first", "unicode/utf8.acceptRanges", "internal/bytealg.MaxLen"], apart := false, laid := [("unicode/utf8.acceptRanges", laid_unicode_utf8_acceptRanges), ("unicode/utf8.first", laid_unicode_utf8_first)], narrowed := true }
def FnExactMailOkUptoSaid : Prop := fnExactMailOkUptoRow.holds Tryd.pinned (OpenSpec.upto fnExactMailOkSpec)

/-- 'laws.FnExactMailPut', WHERE WHAT IT READS IS OF BULK AT MOST 1048576: true; the input reads as it did. -/
def fnExactMailPutUptoRow : OpenClaim := { program := "ytckcjchkegknhaadoor", sum := "f90b8e0842d015d54dd3dbb09e1ed08f3b7d539e9fbc1ce8900a6b61e1d91c6c", func := "loop.example/satchel/laws.FnExactMailPut", spec := "fnExactMailPut", inPlace := ["internal/bytealg.CountString", "internal/bytealg.IndexByteString", "internal/bytealg.IndexString", "internal/abi.NoEscape"], named := ["unicode/utf8.first", "unicode/utf8.acceptRanges", "internal/bytealg.MaxLen"], apart := false, laid := [("unicode/utf8.acceptRanges", laid_unicode_utf8_acceptRanges), ("unicode/utf8.first", laid_unicode_utf8_first)], narrowed := true }
def FnExactMailPutUptoSaid : Prop := fnExactMailPutUptoRow.holds Tryd.pinned (OpenSpec.upto fnExactMailPutSpec)

/-- 'laws.FnExactMailGet', WHERE WHAT IT READS IS OF BULK AT MOST 1048576: true; the input reads as it did. -/
def fnExactMailGetUptoRow : OpenClaim := { program := "ytckcjchkegknhaadoor", sum := "f90b8e0842d015d54dd3dbb09e1ed08f3b7d539e9fbc1ce8900a6b61e1d91c6c", func := "loop.example/satchel/laws.FnExactMailGet", spec := "fnExactMailGet", inPlace := ["internal/bytealg.IndexByteString", "internal/bytealg.IndexString", "internal/bytealg.CountString"], unfollowed := true, recurses := true, named := ["internal/bytealg.MaxLen", "unicode/utf8.first", "unicode/utf8.acceptRanges"], apart := false, laid := [("unicode/utf8.acceptRanges", laid_unicode_utf8_acceptRanges), ("unicode/utf8.first", laid_unicode_utf8_first)], narrowed := true }
def FnExactMailGetUptoSaid : Prop := fnExactMailGetUptoRow.holds Tryd.pinned (OpenSpec.upto fnExactMailGetSpec)

/-- 'laws.FnExactConfOk', WHERE WHAT IT READS IS OF BULK AT MOST 1048576: true; the input reads as it did. -/
def fnExactConfOkUptoRow : OpenClaim := { program := "ytckcjchkegknhaadoor", sum := "f90b8e0842d015d54dd3dbb09e1ed08f3b7d539e9fbc1ce8900a6b61e1d91c6c", func := "loop.example/satchel/laws.FnExactConfOk", spec := "fnExactConfOk", inPlace := ["internal/bytealg.CountString", "internal/bytealg.IndexByteString", "internal/bytealg.IndexString"], named := ["unicode/utf8.first", "unicode/utf8.acceptRanges", "internal/bytealg.MaxLen"], apart := false, laid := [("unicode/utf8.acceptRanges", laid_unicode_utf8_acceptRanges), ("unicode/utf8.first", laid_unicode_utf8_first)], narrowed := true }
def FnExactConfOkUptoSaid : Prop := fnExactConfOkUptoRow.holds Tryd.pinned (OpenSpec.upto fnExactConfOkSpec)

/-- 'laws.FnExactWayOf', WHERE WHAT IT READS IS OF BULK AT MOST 1048576: true; the input reads as it did. -/
def fnExactWayOfUptoRow : OpenClaim := { program := "ytckcjchkegknhaadoor", sum := "f90b8e0842d015d54dd3dbb09e1ed08f3b7d539e9fbc1ce8900a6b61e1d91c6c", func := "loop.example/satchel/laws.FnExactWayOf", spec := "fnExactWayOf", inPlace := ["internal/bytealg.CountString", "internal/bytealg.IndexByteString", "internal/bytealg.IndexString"], named := ["unicode/utf8.first", "unicode/utf8.acceptRanges", "internal/bytealg.MaxLen"], apart := false, laid := [("unicode/utf8.acceptRanges", laid_unicode_utf8_acceptRanges), ("unicode/utf8.first", laid_unicode_utf8_first)], narrowed := true }
def FnExactWayOfUptoSaid : Prop := fnExactWayOfUptoRow.holds Tryd.pinned (OpenSpec.upto fnExactWayOfSpec)

/-- 'laws.FnExactConfTakes', WHERE WHAT IT READS IS OF BULK AT MOST 1048576: true; the input reads as it did. -/
def fnExactConfTakesUptoRow : OpenClaim := { program := "ytckcjchkegknhaadoor", sum := "f90b8e0842d015d54dd3dbb09e1ed08f3b7d539e9fbc1ce8900a6b61e1d91c6c", func := "loop.example/satchel/laws.FnExactConfTakes", spec := "fnExactConfTakes", inPlace := ["internal/bytealg.CountString", "internal/bytealg.IndexByteString", "internal/bytealg.IndexString"], named := ["unicode/utf8.first", "unicode/utf8.acceptRanges", "internal/bytealg.MaxLen"], apart := false, laid := [("unicode/utf8.acceptRanges", laid_unicode_utf8_acceptRanges), ("unicode/utf8.first", laid_unicode_utf8_first)], narrowed := true }
def FnExactConfTakesUptoSaid : Prop := fnExactConfTakesUptoRow.holds Tryd.pinned (OpenSpec.upto fnExactConfTakesSpec)

/-- 'laws.FnExactSessHello', WHERE WHAT IT READS IS OF BULK AT MOST 1048576: true; the input reads as it did. -/
def fnExactSessHelloUptoRow : OpenClaim := { program := "ytckcjchkegknhaadoor", sum := "f90b8e0842d015d54dd3dbb09e1ed08f3b7d539e9fbc1ce8900a6b61e1d91c6c", func := "loop.example/satchel/laws.FnExactSessHello", spec := "fnExactSessHello", inPlace := ["internal/bytealg.CountString", "internal/bytealg.IndexByteString", "internal/bytealg.IndexString"], named := ["unicode/utf8.first", "unicode/utf8.acceptRanges", "internal/bytealg.MaxLen"], apart := false, laid := [("unicode/utf8.acceptRanges", laid_unicode_utf8_acceptRanges), ("unicode/utf8.first", laid_unicode_utf8_first)], narrowed := true }
def FnExactSessHelloUptoSaid : Prop := fnExactSessHelloUptoRow.holds Tryd.pinned (OpenSpec.upto fnExactSessHelloSpec)

/-- 'laws.FnExactCliOk', WHERE WHAT IT READS IS OF BULK AT MOST 1048576: true; the input reads as it did. -/
def fnExactCliOkUptoRow : OpenClaim := { program := "ytckcjchkegknhaadoor", sum := "f90b8e0842d015d54dd3dbb09e1ed08f3b7d539e9fbc1ce8900a6b61e1d91c6c", func := "loop.example/satchel/laws.FnExactCliOk", spec := "fnExactCliOk", inPlace := ["internal/bytealg.CountString", "internal/bytealg.IndexByteString", "internal/bytealg.IndexString"], named := ["unicode/utf8.first", "unicode/utf8.acceptRanges", "internal/bytealg.MaxLen"], apart := false, laid := [("unicode/utf8.acceptRanges", laid_unicode_utf8_acceptRanges), ("unicode/utf8.first", laid_unicode_utf8_first)], narrowed := true }
def FnExactCliOkUptoSaid : Prop := fnExactCliOkUptoRow.holds Tryd.pinned (OpenSpec.upto fnExactCliOkSpec)

/-- 'laws.FnExactCliNew', WHERE WHAT IT READS IS OF BULK AT MOST 1048576: true; the input reads as it did. -/
def fnExactCliNewUptoRow : OpenClaim := { program := "ytckcjchkegknhaadoor", sum := "f90b8e0842d015d54dd3dbb09e1ed08f3b7d539e9fbc1ce8900a6b61e1d91c6c", func := "loop.example/satchel/laws.FnExactCliNew", spec := "fnExactCliNew", inPlace := ["internal/bytealg.CountString", "internal/bytealg.IndexByteString", "internal/bytealg.IndexString"], named := ["unicode/utf8.first", "unicode/utf8.acceptRanges", "internal/bytealg.MaxLen"], apart := false, laid := [("unicode/utf8.acceptRanges", laid_unicode_utf8_acceptRanges), ("unicode/utf8.first", laid_unicode_utf8_first)], narrowed := true }
def FnExactCliNewUptoSaid : Prop := fnExactCliNewUptoRow.holds Tryd.pinned (OpenSpec.upto fnExactCliNewSpec)

/-- 'laws.FnExactCliOuts', WHERE WHAT IT READS IS OF BULK AT MOST 1048576: true; the input reads as it did. -/
def fnExactCliOutsUptoRow : OpenClaim := { program := "ytckcjchkegknhaadoor", sum := "f90b8e0842d015d54dd3dbb09e1ed08f3b7d539e9fbc1ce8900a6b61e1d91c6c", func := "loop.example/satchel/laws.FnExactCliOuts", spec := "fnExactCliOuts", inPlace := ["internal/bytealg.CountString", "internal/bytealg.IndexByteString", "internal/bytealg.IndexString"], named := ["unicode/utf8.first", "unicode/utf8.acceptRanges", "internal/bytealg.MaxLen"], apart := false, laid := [("unicode/utf8.acceptRanges", laid_unicode_utf8_acceptRanges), ("unicode/utf8.first", laid_unicode_utf8_first)], narrowed := true }
def FnExactCliOutsUptoSaid : Prop := fnExactCliOutsUptoRow.holds Tryd.pinned (OpenSpec.upto fnExactCliOutsSpec)

end Rows
end Go.Proofs.YtckcjchkegknhaaDoor
