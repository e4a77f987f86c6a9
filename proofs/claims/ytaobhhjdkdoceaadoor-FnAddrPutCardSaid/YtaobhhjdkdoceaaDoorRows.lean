/-
  NARROWER THAN 'FOR EVERY INPUT', by the rows' own cells (each row's printed sentence says how): FnAddrGet: laid · FnHops: laid · FnDomain: laid · FnAddrPut: laid · FnMailPut: laid · FnMailGet: laid · FnExactDomainOk: laid · FnExactAddrOk: laid · FnExactAddrPut: laid · FnExactAddrGet: laid · FnExactDomainIn: laid · FnExactMailOk: laid · FnExactHopsOf: laid · FnExactHopPut: laid · FnExactMailPut: laid · FnExactMailGet: laid.
  DERIVED. THE GIVEN ROWS OF THIS SEAT. 16 by the template 'for every input the law returns true; each argument reads behind the call as it read before'; 0 by the template 'total and deterministic' (their statements: YtaobhhjdkdoceaaDoorTotals.lean).
  GIVEN WITH THE SEED: the statements are not yours to turn. If you find one false, say at which input.
  Laid BY PROGRAM, IN A SANDBOX (cutbox-rows.mjs): the forced cells as the released guide's own fill.sh prints them over the translation db73e4962b14be25… (all of the seat's roots in one cut). By AI agents, Wed Nov 11 2026. No macro, syntax, notation, axiom, sorry.
-/
import Derived.Test.YtaobhhjdkdoceaaDoorChecked
import GoSem.PinnedTables
import GoSem.Claim
import GoSem.ClaimJoined
import GoSem.ClaimMapViews
import Derived.JoinedTies
import Derived.KernelRfl
namespace Go.Proofs.YtaobhhjdkdoceaaDoor
/- THE CELL 'sum', in the pinned program and in every row, IS THE sha256 OF THE DUMP (.gsa) THAT YtaobhhjdkdoceaaDoorProg.lean LOADS. Nothing in Lean hashes anything: it is a label: what it is worth is what the hold of that sum in a sandbox is worth. -/
noncomputable def Tryd.pinned : Pinned := { name := "ytaobhhjdkdoceaadoor", sum := "db73e4962b14be2538c05f4c9c3a3a12cfe38e1486beb7e2230652fcb5d829eb", checked := Tryd.checked }
namespace Rows
def none {H : Type} : Left H := { results := [], args := [] }

/- WHAT THE LISTED PACKAGE-LEVEL VARIABLES READ AS WHEN THE CALL BEGINS. Each datum BY PROGRAM (the guide's laid-datum.mjs) off the statement by which the dump's own 'gosem.cut.vars' lays the variable. In a bare row this is a premise. The card (YtaobhhjdkdoceaaDoorCards.lean) ties it to the program's text. -/
def laid_unicode_utf8_acceptRanges {H : Type} : DataW H := .agg [.agg [.lit (.int .u8 128), .lit (.int .u8 191)], .agg [.lit (.int .u8 160), .lit (.int .u8 191)], .agg [.lit (.int .u8 128), .lit (.int .u8 159)], .agg [.lit (.int .u8 144), .lit (.int .u8 191)], .agg [.lit (.int .u8 128), .lit (.int .u8 143)], .agg [.lit (.int .u8 0), .lit (.int .u8 0)], .agg [.lit (.int .u8 0), .lit (.int .u8 0)], .agg [.lit (.int .u8 0), .lit (.int .u8 0)], .agg [.lit (.int .u8 0), .lit (.int .u8 0)], .agg [.lit (.int .u8 0), .lit (.int .u8 0)], .agg [.lit (.int .u8 0), .lit (.int .u8 0)], .agg [.lit (.int .u8 0), .lit (.int .u8 0)], .agg [.lit (.int .u8 0), .lit (.int .u8 0)], .agg [.lit (.int .u8 0), .lit (.int .u8 0)], .agg [.lit (.int .u8 0), .lit (.int .u8 0)], .agg [.lit (.int .u8 0), .lit (.int .u8 0)]]
/-- One of Go's own tables, pinned by name: the form's constant. -/
def laid_unicode_utf8_first : DataW Unit := Go.Pinned.utf8First

/-- 'laws.FnAddrGet': WHATEVER THE INPUT: true; the input reads as it did. -/
def fnAddrGetSpec : ChangeSpec := { name := "fnAddrGet", fn := fun _ => fun
  | [d] => { results := [.lit (.bool true)], args := [d] }
  | _ => none }
def fnAddrGetRow : OpenClaim := { program := "ytaobhhjdkdoceaadoor", sum := "db73e4962b14be2538c05f4c9c3a3a12cfe38e1486beb7e2230652fcb5d829eb", func := "loop.example/satchel/laws.FnAddrGet", spec := "fnAddrGet", inPlace := ["internal/bytealg.IndexByteString", "internal/bytealg.IndexString", "internal/bytealg.CountString"], named := ["internal/bytealg.MaxLen", "unicode/utf8.first", "unicode/utf8.acceptRanges"], apart := false, laid := [("unicode/utf8.acceptRanges", laid_unicode_utf8_acceptRanges), ("unicode/utf8.first", laid_unicode_utf8_first)] }
def FnAddrGetSaid : Prop := fnAddrGetRow.holds Tryd.pinned (OpenSpec.ofChange fnAddrGetSpec)

/-- ITS FALSE NEIGHBOUR: 'it returns false'. Refute it at one input. -/
def fnAddrGetWrong : ChangeSpec := { name := "fnAddrGet", fn := fun _ => fun
  | [d] => { results := [.lit (.bool false)], args := [d] }
  | _ => none }
def FnAddrGetWrongFalsely : Prop := fnAddrGetRow.holds Tryd.pinned (OpenSpec.ofChange fnAddrGetWrong)

/-- 'laws.FnHops': WHATEVER THE INPUT: true; the input reads as it did. -/
def fnHopsSpec : ChangeSpec := { name := "fnHops", fn := fun _ => fun
  | [d1, d2] => { results := [.lit (.bool true)], args := [d1, d2] }
  | _ => none }
def fnHopsRow : OpenClaim := { program := "ytaobhhjdkdoceaadoor", sum := "db73e4962b14be2538c05f4c9c3a3a12cfe38e1486beb7e2230652fcb5d829eb", func := "loop.example/satchel/laws.FnHops", spec := "fnHops", inPlace := ["internal/bytealg.CountString", "internal/bytealg.IndexByteString", "internal/bytealg.IndexString"], named := ["unicode/utf8.first", "unicode/utf8.acceptRanges", "internal/bytealg.MaxLen"], apart := false, laid := [("unicode/utf8.acceptRanges", laid_unicode_utf8_acceptRanges), ("unicode/utf8.first", laid_unicode_utf8_first)] }
def FnHopsSaid : Prop := fnHopsRow.holds Tryd.pinned (OpenSpec.ofChange fnHopsSpec)

/-- ITS FALSE NEIGHBOUR: 'it returns false'. Refute it at one input. -/
def fnHopsWrong : ChangeSpec := { name := "fnHops", fn := fun _ => fun
  | [d1, d2] => { results := [.lit (.bool false)], args := [d1, d2] }
  | _ => none }
def FnHopsWrongFalsely : Prop := fnHopsRow.holds Tryd.pinned (OpenSpec.ofChange fnHopsWrong)

/-- 'laws.FnDomain': WHATEVER THE INPUT: true; the input reads as it did. -/
def fnDomainSpec : ChangeSpec := { name := "fnDomain", fn := fun _ => fun
  | [d] => { results := [.lit (.bool true)], args := [d] }
  | _ => none }
def fnDomainRow : OpenClaim := { program := "ytaobhhjdkdoceaadoor", sum := "db73e4962b14be2538c05f4c9c3a3a12cfe38e1486beb7e2230652fcb5d829eb", func := "loop.example/satchel/laws.FnDomain", spec := "fnDomain", inPlace := ["internal/bytealg.CountString", "internal/bytealg.IndexByteString", "internal/bytealg.IndexString"], named := ["unicode/utf8.first", "unicode/utf8.acceptRanges", "internal/bytealg.MaxLen"], apart := false, laid := [("unicode/utf8.acceptRanges", laid_unicode_utf8_acceptRanges), ("unicode/utf8.first", laid_unicode_utf8_first)] }
def FnDomainSaid : Prop := fnDomainRow.holds Tryd.pinned (OpenSpec.ofChange fnDomainSpec)

/-- ITS FALSE NEIGHBOUR: 'it returns false'. Refute it at one input. -/
def fnDomainWrong : ChangeSpec := { name := "fnDomain", fn := fun _ => fun
  | [d] => { results := [.lit (.bool false)], args := [d] }
  | _ => none }
def FnDomainWrongFalsely : Prop := fnDomainRow.holds Tryd.pinned (OpenSpec.ofChange fnDomainWrong)

/-- 'laws.FnAddrPut': WHATEVER THE INPUT: true; the input reads as it did. -/
def fnAddrPutSpec : ChangeSpec := { name := "fnAddrPut", fn := fun _ => fun
  | [d] => { results := [.lit (.bool true)], args := [d] }
  | _ => none }
def fnAddrPutRow : OpenClaim := { program := "ytaobhhjdkdoceaadoor", sum := "db73e4962b14be2538c05f4c9c3a3a12cfe38e1486beb7e2230652fcb5d829eb", func := "loop.example/satchel/laws.FnAddrPut", spec := "fnAddrPut", inPlace := ["internal/bytealg.CountString", "internal/bytealg.IndexByteString", "internal/bytealg.IndexString"], named := ["unicode/utf8.first", "unicode/utf8.acceptRanges", "internal/bytealg.MaxLen"], apart := false, laid := [("unicode/utf8.acceptRanges", laid_unicode_utf8_acceptRanges), ("unicode/utf8.first", laid_unicode_utf8_first)] }
def FnAddrPutSaid : Prop := fnAddrPutRow.holds Tryd.pinned (OpenSpec.ofChange fnAddrPutSpec)

/-- ITS FALSE NEIGHBOUR: 'it returns false'. Refute it at one input. -/
def fnAddrPutWrong : ChangeSpec := { name := "fnAddrPut", fn := fun _ => fun
  | [d] => { results := [.lit (.bool false)], args := [d] }
  | _ => none }
def FnAddrPutWrongFalsely : Prop := fnAddrPutRow.holds Tryd.pinned (OpenSpec.ofChange fnAddrPutWrong)

/-- 'laws.FnMailPut': WHATEVER THE INPUT: true; the input reads as it did. -/
def fnMailPutSpec : ChangeSpec := { name := "fnMailPut", fn := fun _ => fun
  | [d] => { results := [.lit (.bool true)], args := [d] }
  | _ => none }
def fnMailPutRow : OpenClaim := { program := "ytaobhhjdkdoceaadoor", sum := "db73e4962b14be2538c05f4c9c3a3a12cfe38e1486beb7e2230652fcb5d829eb", func := "loop.example/satchel/laws.FnMailPut", spec := "fnMailPut", inPlace := ["internal/bytealg.CountString", "internal/bytealg.IndexByteString", "internal/bytealg.IndexString", "internal/abi.NoEscape"], unfollowed := true, recurses := true, named := ["unicode/utf8.first", "unicode/utf8.acceptRanges", "internal/bytealg.MaxLen"], apart := false, laid := [("unicode/utf8.acceptRanges", laid_unicode_utf8_acceptRanges), ("unicode/utf8.first", laid_unicode_utf8_first)] }
def FnMailPutSaid : Prop := fnMailPutRow.holds Tryd.pinned (OpenSpec.ofChange fnMailPutSpec)

/-- ITS FALSE NEIGHBOUR: 'it returns false'. Refute it at one input. -/
def fnMailPutWrong : ChangeSpec := { name := "fnMailPut", fn := fun _ => fun
  | [d] => { results := [.lit (.bool false)], args := [d] }
  | _ => none }
def FnMailPutWrongFalsely : Prop := fnMailPutRow.holds Tryd.pinned (OpenSpec.ofChange fnMailPutWrong)

/-- 'laws.FnMailGet': WHATEVER THE INPUT: true; the input reads as it did. -/
def fnMailGetSpec : ChangeSpec := { name := "fnMailGet", fn := fun _ => fun
  | [d] => { results := [.lit (.bool true)], args := [d] }
  | _ => none }
def fnMailGetRow : OpenClaim := { program := "ytaobhhjdkdoceaadoor", sum := "db73e4962b14be2538c05f4c9c3a3a12cfe38e1486beb7e2230652fcb5d829eb", func := "loop.example/satchel/laws.FnMailGet", spec := "fnMailGet", inPlace := ["internal/bytealg.IndexByteString", "internal/bytealg.IndexString", "internal/bytealg.CountString", "internal/abi.NoEscape"], unfollowed := true, recurses := true, named := ["internal/bytealg.MaxLen", "unicode/utf8.first", "unicode/utf8.acceptRanges"], apart := false, laid := [("unicode/utf8.acceptRanges", laid_unicode_utf8_acceptRanges), ("unicode/utf8.first", laid_unicode_utf8_first)] }
def FnMailGetSaid : Prop := fnMailGetRow.holds Tryd.pinned (OpenSpec.ofChange fnMailGetSpec)

/-- ITS FALSE NEIGHBOUR: 'it returns false'. Refute it at one input. -/
def fnMailGetWrong : ChangeSpec := { name := "fnMailGet", fn := fun _ => fun
  | [d] => { results := [.lit (.bool false)], args := [d] }
  | _ => none }
def FnMailGetWrongFalsely : Prop := fnMailGetRow.holds Tryd.pinned (OpenSpec.ofChange fnMailGetWrong)

/-- 'laws.FnExactDomainOk': WHATEVER THE INPUT: true; the input reads as it did. -/
def fnExactDomainOkSpec : ChangeSpec := { name := "fnExactDomainOk", fn := fun _ => fun
  | [d] => { results := [.lit (.bool true)], args := [d] }
  | _ => none }
def fnExactDomainOkRow : OpenClaim := { program := "ytaobhhjdkdoceaadoor", sum := "db73e4962b14be2538c05f4c9c3a3a12cfe38e1486beb7e2230652fcb5d829eb", func := "loop.example/satchel/laws.FnExactDomainOk", spec := "fnExactDomainOk", inPlace := ["internal/bytealg.CountString", "internal/bytealg.IndexByteString", "internal/bytealg.IndexString"], named := ["unicode/utf8.first", "unicode/utf8.acceptRanges", "internal/bytealg.MaxLen"], apart := false, laid := [("unicode/utf8.acceptRanges", laid_unicode_utf8_acceptRanges), ("unicode/utf8.first", laid_unicode_utf8_first)] }
def FnExactDomainOkSaid : Prop := fnExactDomainOkRow.holds Tryd.pinned (OpenSpec.ofChange fnExactDomainOkSpec)

/-- ITS FALSE NEIGHBOUR: 'it returns false'. Refute it at one input. -/
def fnExactDomainOkWrong : ChangeSpec := { name := "fnExactDomainOk", fn := fun _ => fun
  | [d] => { results := [.lit (.bool false)], args := [d] }
  | _ => none }
def FnExactDomainOkWrongFalsely : Prop := fnExactDomainOkRow.holds Tryd.pinned (OpenSpec.ofChange fnExactDomainOkWrong)

/-- 'laws.FnExactAddrOk': WHATEVER THE INPUT: true; the input reads as it did. -/
def fnExactAddrOkSpec : ChangeSpec := { name := "fnExactAddrOk", fn := fun _ => fun
  | [d] => { results := [.lit (.bool true)], args := [d] }
  | _ => none }
def fnExactAddrOkRow : OpenClaim := { program := "ytaobhhjdkdoceaadoor", sum := "db73e4962b14be2538c05f4c9c3a3a12cfe38e1486beb7e2230652fcb5d829eb", func := "loop.example/satchel/laws.FnExactAddrOk", spec := "fnExactAddrOk", inPlace := ["internal/bytealg.CountString", "internal/bytealg.IndexByteString", "internal/bytealg.IndexString"], named := ["unicode/utf8.first", "unicode/utf8.acceptRanges", "internal/bytealg.MaxLen"], apart := false, laid := [("unicode/utf8.acceptRanges", laid_unicode_utf8_acceptRanges), ("unicode/utf8.first", laid_unicode_utf8_first)] }
def FnExactAddrOkSaid : Prop := fnExactAddrOkRow.holds Tryd.pinned (OpenSpec.ofChange fnExactAddrOkSpec)

/-- ITS FALSE NEIGHBOUR: 'it returns false'. Refute it at one input. -/
def fnExactAddrOkWrong : ChangeSpec := { name := "fnExactAddrOk", fn := fun _ => fun
  | [d] => { results := [.lit (.bool false)], args := [d] }
  | _ => none }
def FnExactAddrOkWrongFalsely : Prop := fnExactAddrOkRow.holds Tryd.pinned (OpenSpec.ofChange fnExactAddrOkWrong)

/-- 'laws.FnExactAddrPut': WHATEVER THE INPUT: true; the input reads as it did. -/
def fnExactAddrPutSpec : ChangeSpec := { name := "fnExactAddrPut", fn := fun _ => fun
  | [d] => { results := [.lit (.bool true)], args := [d] }
  | _ => none }
def fnExactAddrPutRow : OpenClaim := { program := "ytaobhhjdkdoceaadoor", sum := "db73e4962b14be2538c05f4c9c3a3a12cfe38e1486beb7e2230652fcb5d829eb", func := "loop.example/satchel/laws.FnExactAddrPut", spec := "fnExactAddrPut", inPlace := ["internal/bytealg.CountString", "internal/bytealg.IndexByteString", "internal/bytealg.IndexString"], named := ["unicode/utf8.first", "unicode/utf8.acceptRanges", "internal/bytealg.MaxLen"], apart := false, laid := [("unicode/utf8.acceptRanges", laid_unicode_utf8_acceptRanges), ("unicode/utf8.first", laid_unicode_utf8_first)] }
def FnExactAddrPutSaid : Prop := fnExactAddrPutRow.holds Tryd.pinned (OpenSpec.ofChange fnExactAddrPutSpec)

/-- ITS FALSE NEIGHBOUR: 'it returns false'. Refute it at one input. -/
def fnExactAddrPutWrong : ChangeSpec := { name := "fnExactAddrPut", fn := fun _ => fun
  | [d] => { results := [.lit (.bool false)], args := [d] }
  | _ => none }
def FnExactAddrPutWrongFalsely : Prop := fnExactAddrPutRow.holds Tryd.pinned (OpenSpec.ofChange fnExactAddrPutWrong)

/-- 'laws.FnExactAddrGet': WHATEVER THE INPUT: true; the input reads as it did. -/
def fnExactAddrGetSpec : ChangeSpec := { name := "fnExactAddrGet", fn := fun _ => fun
  | [d] => { results := [.lit (.bool true)], args := [d] }
  | _ => none }
def fnExactAddrGetRow : OpenClaim := { program := "ytaobhhjdkdoceaadoor", sum := "db73e4962b14be2538c05f4c9c3a3a12cfe38e1486beb7e2230652fcb5d829eb", func := "loop.example/satchel/laws.FnExactAddrGet", spec := "fnExactAddrGet", inPlace := ["internal/bytealg.IndexByteString", "internal/bytealg.IndexString", "internal/bytealg.CountString"], named := ["internal/bytealg.MaxLen", "unicode/utf8.first", "unicode/utf8.acceptRanges"], apart := false, laid := [("unicode/utf8.acceptRanges", laid_unicode_utf8_acceptRanges), ("unicode/utf8.first", laid_unicode_utf8_first)] }
def FnExactAddrGetSaid : Prop := fnExactAddrGetRow.holds Tryd.pinned (OpenSpec.ofChange fnExactAddrGetSpec)

/-- ITS FALSE NEIGHBOUR: 'it returns false'. Refute it at one input. -/
def fnExactAddrGetWrong : ChangeSpec := { name := "fnExactAddrGet", fn := fun _ => fun
  | [d] => { results := [.lit (.bool false)], args := [d] }
  | _ => none }
def FnExactAddrGetWrongFalsely : Prop := fnExactAddrGetRow.holds Tryd.pinned (OpenSpec.ofChange fnExactAddrGetWrong)

/-- 'laws.FnExactDomainIn': WHATEVER THE INPUT: true; the input reads as it did. -/
def fnExactDomainInSpec : ChangeSpec := { name := "fnExactDomainIn", fn := fun _ => fun
  | [d1, d2] => { results := [.lit (.bool true)], args := [d1, d2] }
  | _ => none }
def fnExactDomainInRow : OpenClaim := { program := "ytaobhhjdkdoceaadoor", sum := "db73e4962b14be2538c05f4c9c3a3a12cfe38e1486beb7e2230652fcb5d829eb", func := "loop.example/satchel/laws.FnExactDomainIn", spec := "fnExactDomainIn", inPlace := ["internal/bytealg.CountString", "internal/bytealg.IndexByteString", "internal/bytealg.IndexString"], named := ["unicode/utf8.first", "unicode/utf8.acceptRanges", "internal/bytealg.MaxLen"], apart := false, laid := [("unicode/utf8.acceptRanges", laid_unicode_utf8_acceptRanges), ("unicode/utf8.first", laid_unicode_utf8_first)] }
def FnExactDomainInSaid : Prop := fnExactDomainInRow.holds Tryd.pinned (OpenSpec.ofChange fnExactDomainInSpec)

/-- ITS FALSE NEIGHBOUR: 'it returns false'. Refute it at one input. -/
def fnExactDomainInWrong : ChangeSpec := { name := "fnExactDomainIn", fn := fun _ => fun
  | [d1, d2] => { results := [.lit (.bool false)], args := [d1, d2] }
  | _ => none }
def FnExactDomainInWrongFalsely : Prop := fnExactDomainInRow.holds Tryd.pinned (OpenSpec.ofChange fnExactDomainInWrong)

/-- 'laws.FnExactMailOk': WHATEVER THE INPUT: true; the input reads as it did. -/
def fnExactMailOkSpec : ChangeSpec := { name := "fnExactMailOk", fn := fun _ => fun
  | [d] => { results := [.lit (.bool true)], args := [d] }
  | _ => none }
def fnExactMailOkRow : OpenClaim := { program := "ytaobhhjdkdoceaadoor", sum := "db73e4962b14be2538c05f4c9c3a3a12cfe38e1486beb7e2230652fcb5d829eb", func := "loop.example/satchel/laws.FnExactMailOk", spec := "fnExactMailOk", inPlace := ["internal/bytealg.CountString", "internal/bytealg.IndexByteString", "internal/bytealg.IndexString"], named := ["unicode/utf8.first", "unicode/utf8.acceptRanges", "internal/bytealg.MaxLen"], apart := false, laid := [("unicode/utf8.acceptRanges", laid_unicode_utf8_acceptRanges), ("unicode/utf8.first", laid_unicode_utf8_first)] }
def FnExactMailOkSaid : Prop := fnExactMailOkRow.holds Tryd.pinned (OpenSpec.ofChange fnExactMailOkSpec)

/-- ITS FALSE NEIGHBOUR: 'it returns false'. Refute it at one input. -/
def fnExactMailOkWrong : ChangeSpec := { name := "fnExactMailOk", fn := fun _ => fun
  | [d] => { results := [.lit (.bool false)], args := [d] }
  | _ => none }
def FnExactMailOkWrongFalsely : Prop := fnExactMailOkRow.holds Tryd.pinned (OpenSpec.ofChange fnExactMailOkWrong)

/-- 'laws.FnExactHopsOf': WHATEVER THE INPUT: true; the input reads as it did. -/
def fnExactHopsOfSpec : ChangeSpec := { name := "fnExactHopsOf", fn := fun _ => fun
  | [d] => { results := [.lit (.bool true)], args := [d] }
  | _ => none }
def fnExactHopsOfRow : OpenClaim := { program := "ytaobhhjdkdoceaadoor", sum := "db73e4962b14be2538c05f4c9c3a3a12cfe38e1486beb7e2230652fcb5d829eb", func := "loop.example/satchel/laws.FnExactHopsOf", spec := "fnExactHopsOf", inPlace := ["internal/bytealg.CountString", "internal/bytealg.IndexByteString", "internal/bytealg.IndexString"], named := ["unicode/utf8.first", "unicode/utf8.acceptRanges", "internal/bytealg.MaxLen"], apart := false, laid := [("unicode/utf8.acceptRanges", laid_unicode_utf8_acceptRanges), ("unicode/utf8.first", laid_unicode_utf8_first)] }
def FnExactHopsOfSaid : Prop := fnExactHopsOfRow.holds Tryd.pinned (OpenSpec.ofChange fnExactHopsOfSpec)

/-- ITS FALSE NEIGHBOUR: 'it returns false'. Refute it at one input. -/
def fnExactHopsOfWrong : ChangeSpec := { name := "fnExactHopsOf", fn := fun _ => fun
  | [d] => { results := [.lit (.bool false)], args := [d] }
  | _ => none }
def FnExactHopsOfWrongFalsely : Prop := fnExactHopsOfRow.holds Tryd.pinned (OpenSpec.ofChange fnExactHopsOfWrong)

/-- 'laws.FnExactHopPut': WHATEVER THE INPUT: true; the input reads as it did. -/
def fnExactHopPutSpec : ChangeSpec := { name := "fnExactHopPut", fn := fun _ => fun
  | [d1, d2] => { results := [.lit (.bool true)], args := [d1, d2] }
  | _ => none }
def fnExactHopPutRow : OpenClaim := { program := "ytaobhhjdkdoceaadoor", sum := "db73e4962b14be2538c05f4c9c3a3a12cfe38e1486beb7e2230652fcb5d829eb", func := "loop.example/satchel/laws.FnExactHopPut", spec := "fnExactHopPut", inPlace := ["internal/bytealg.CountString", "internal/bytealg.IndexByteString", "internal/bytealg.IndexString"], named := ["unicode/utf8.first", "unicode/utf8.acceptRanges", "internal/bytealg.MaxLen"], apart := false, laid := [("unicode/utf8.acceptRanges", laid_unicode_utf8_acceptRanges), ("unicode/utf8.first", laid_unicode_utf8_first)] }
def FnExactHopPutSaid : Prop := fnExactHopPutRow.holds Tryd.pinned (OpenSpec.ofChange fnExactHopPutSpec)

/-- ITS FALSE NEIGHBOUR: 'it returns false'. Refute it at one input. -/
def fnExactHopPutWrong : ChangeSpec := { name := "fnExactHopPut", fn := fun _ => fun
  | [d1, d2] => { results := [.lit (.bool false)], args := [d1, d2] }
  | _ => none }
def FnExactHopPutWrongFalsely : Prop := fnExactHopPutRow.holds Tryd.pinned (OpenSpec.ofChange fnExactHopPutWrong)

/-- 'laws.FnExactMailPut': WHATEVER THE INPUT: true; the input reads as it did. -/
def fnExactMailPutSpec : ChangeSpec := { name := "fnExactMailPut", fn := fun _ => fun
  | [d] => { results := [.lit (.bool true)], args := [d] }
  | _ => none }
def fnExactMailPutRow : OpenClaim := { program := "ytaobhhjdkdoceaadoor", sum := "db73e4962b14be2538c05f4c9c3a3a12cfe38e1486beb7e2230652fcb5d829eb", func := "loop.example/satchel/laws.FnExactMailPut", spec := "fnExactMailPut", inPlace := ["internal/bytealg.CountString", "internal/bytealg.IndexByteString", "internal/bytealg.IndexString", "internal/abi.NoEscape"], named := ["unicode/utf8.first", "unicode/utf8.acceptRanges", "internal/bytealg.MaxLen"], apart := false, laid := [("unicode/utf8.acceptRanges", laid_unicode_utf8_acceptRanges), ("unicode/utf8.first", laid_unicode_utf8_first)] }
def FnExactMailPutSaid : Prop := fnExactMailPutRow.holds Tryd.pinned (OpenSpec.ofChange fnExactMailPutSpec)

/-- ITS FALSE NEIGHBOUR: 'it returns false'. Refute it at one input. -/
def fnExactMailPutWrong : ChangeSpec := { name := "fnExactMailPut", fn := fun _ => fun
  | [d] => { results := [.lit (.bool false)], args := [d] }
  | _ => none }
def FnExactMailPutWrongFalsely : Prop := fnExactMailPutRow.holds Tryd.pinned (OpenSpec.ofChange fnExactMailPutWrong)

/-- 'laws.FnExactMailGet': WHATEVER THE INPUT: true; the input reads as it did. -/
def fnExactMailGetSpec : ChangeSpec := { name := "fnExactMailGet", fn := fun _ => fun
  | [d] => { results := [.lit (.bool true)], args := [d] }
  | _ => none }
def fnExactMailGetRow : OpenClaim := { program := "ytaobhhjdkdoceaadoor", sum := "db73e4962b14be2538c05f4c9c3a3a12cfe38e1486beb7e2230652fcb5d829eb", func := "loop.example/satchel/laws.FnExactMailGet", spec := "fnExactMailGet", inPlace := ["internal/bytealg.IndexByteString", "internal/bytealg.IndexString", "internal/bytealg.CountString"], unfollowed := true, recurses := true, named := ["internal/bytealg.MaxLen", "unicode/utf8.first", "unicode/utf8.acceptRanges"], apart := false, laid := [("unicode/utf8.acceptRanges", laid_unicode_utf8_acceptRanges), ("unicode/utf8.first", laid_unicode_utf8_first)] }
def FnExactMailGetSaid : Prop := fnExactMailGetRow.holds Tryd.pinned (OpenSpec.ofChange fnExactMailGetSpec)

/-- ITS FALSE NEIGHBOUR: 'it returns false'. Refute it at one input. -/
def fnExactMailGetWrong : ChangeSpec := { name := "fnExactMailGet", fn := fun _ => fun
  | [d] => { results := [.lit (.bool false)], args := [d] }
  | _ => none }
def FnExactMailGetWrongFalsely : Prop := fnExactMailGetRow.holds Tryd.pinned (OpenSpec.ofChange fnExactMailGetWrong)

/- THE SECOND FORM. 'bulk': how many values and letters a reading holds, each counted each time it is reached (what is shared counts as often as it is met; a slice's spare places count too). A statement '..UptoSaid' is the law's where the arguments, and the package variables that the reading takes, are together of bulk at most 1048576: NARROWER than '..Said'. Prove '..Said' where nothing that the law and all that it calls make is longer than what came in: it says more and counts as full. Else prove '..UptoSaid'. A law counts once. -/
mutual
def uptoBulk {H : Type} : DataW H → Nat
  | .lit (.string bytes) => bytes.length + 1
  | .lit _ => 1
  | .nil => 1
  | .ptr d => uptoBulk d + 1
  | .slice elems spare => uptoBulkAll elems + uptoBulkAll spare + 1
  | .agg parts => uptoBulkAll parts + 1
  | .iface _ d => uptoBulk d + 1
  | .map entries => uptoBulkEntries entries + 1
  | .held _ => 1
def uptoBulkAll {H : Type} : List (DataW H) → Nat
  | [] => 0
  | d :: r => uptoBulk d + uptoBulkAll r
def uptoBulkEntries {H : Type} : List (Lit × DataW H) → Nat
  | [] => 0
  | x :: r => uptoBulkEntry x + uptoBulkEntries r
def uptoBulkEntry {H : Type} : Lit × DataW H → Nat
  | (.string bytes, d) => bytes.length + uptoBulk d + 1
  | (_, d) => uptoBulk d + 1
 end
def uptoSmall : (H : Type) → List (DataW H) → Bool := fun _ ds => decide (uptoBulkAll ds ≤ 1048576)
def OpenSpec.upto (s : _root_.Go.ChangeSpec) : _root_.Go.OpenSpec := { _root_.Go.OpenSpec.ofChange s with cond := some uptoSmall }

/-- 'laws.FnAddrGet', WHERE WHAT IT READS IS OF BULK AT MOST 1048576: true; the input reads as it did. -/
def fnAddrGetUptoRow : OpenClaim := { program := "ytaobhhjdkdoceaadoor", sum := "db73e4962b14be2538c05f4c9c3a3a12cfe38e1486beb7e2230652fcb5d829eb", func := "loop.example/satchel/laws.FnAddrGet", spec := "fnAddrGet", inPlace := ["internal/bytealg.IndexByteString", "internal/bytealg.IndexString", "internal/bytealg.CountString"], named := ["internal/bytealg.MaxLen", "unicode/utf8.first", "unicode/utf8.acceptRanges"], apart := false, laid := [("unicode/utf8.acceptRanges", laid_unicode_utf8_acceptRanges), ("unicode/utf8.first", laid_unicode_utf8_first)], narrowed := true }
def FnAddrGetUptoSaid : Prop := fnAddrGetUptoRow.holds Tryd.pinned (OpenSpec.upto fnAddrGetSpec)

/-- 'laws.FnHops', WHERE WHAT IT READS IS OF BULK AT MOST 1048576: true; the input reads as it did. -/
def fnHopsUptoRow : OpenClaim := { program := "ytaobhhjdkdoceaadoor", sum := "db73e4962b14be2538c05f4c9c3a3a12cfe38e1486beb7e2230652fcb5d829eb", func := "loop.example/satchel/laws.FnHops", spec := "fnHops", inPlace := ["internal/bytealg.CountString", "internal/bytealg.IndexByteString", "internal/bytealg.IndexString"], named := ["unicode/utf8.first", "unicode/utf8.acceptRanges", "internal/bytealg.MaxLen"], apart := false, laid := [("unicode/utf8.acceptRanges", laid_unicode_utf8_acceptRanges), ("unicode/utf8.first", laid_unicode_utf8_first)], narrowed := true }
def FnHopsUptoSaid : Prop := fnHopsUptoRow.holds Tryd.pinned (OpenSpec.upto fnHopsSpec)

/-- 'laws.FnDomain', WHERE WHAT IT READS IS OF BULK AT MOST 1048576: true; the input reads as it did. -/
def fnDomainUptoRow : OpenClaim := { program := "ytaobhhjdkdoceaadoor", sum := "db73e4962b14be2538c05f4c9c3a3a12cfe38e1486beb7e2230652fcb5d829eb", func := "loop.example/satchel/laws.FnDomain", spec := "fnDomain", inPlace := ["internal/bytealg.CountString", "internal/bytealg.IndexByteString", "internal/bytealg.IndexString"], named := ["unicode/utf8.first", "unicode/utf8.acceptRanges", "internal/bytealg.MaxLen"], apart := false, laid := [("unicode/utf8.acceptRanges", laid_unicode_utf8_acceptRanges), ("unicode/utf8.first", laid_unicode_utf8_first)], narrowed := true }
def FnDomainUptoSaid : Prop := fnDomainUptoRow.holds Tryd.pinned (OpenSpec.upto fnDomainSpec)

/-- 'laws.FnAddrPut', WHERE WHAT IT READS IS OF BULK AT MOST 1048576: true; the input reads as it did. -/
def fnAddrPutUptoRow : OpenClaim := { program := "ytaobhhjdkdoceaadoor", sum := "db73e4962b14be2538c05f4c9c3a3a12cfe38e1486beb7e2230652fcb5d829eb", func := "loop.example/satchel/laws.FnAddrPut", spec := "fnAddrPut", inPlace := ["internal/bytealg.CountString", "internal/bytealg.IndexByteString", "internal/bytealg.IndexString"], named := ["unicode/utf8.first", "unicode/utf8.acceptRanges", "internal/bytealg.MaxLen"], apart := false, laid := [("unicode/utf8.acceptRanges", laid_unicode_utf8_acceptRanges), ("unicode/utf8.first", laid_unicode_utf8_first)], narrowed := true }
def FnAddrPutUptoSaid : Prop := fnAddrPutUptoRow.holds Tryd.pinned (OpenSpec.upto fnAddrPutSpec)

/-- 'laws.FnMailPut', WHERE WHAT IT READS IS OF BULK AT MOST 1048576: true; the input reads as it did. -/
def fnMailPutUptoRow : OpenClaim := { program := "ytaobhhjdkdoceaadoor", sum := "db73e4962b14be2538c05f4c9c3a3a12cfe38e1486beb7e2230652fcb5d829eb", func := "loop.example/satchel/laws.FnMailPut", spec := "fnMailPut", inPlace := ["internal/bytealg.CountString", "internal/bytealg.IndexByteString", "internal/bytealg.IndexString", "internal/abi.NoEscape"], unfollowed := true, recurses := true, named := ["unicode/utf8.first", "unicode/utf8.acceptRanges", "internal/bytealg.MaxLen"], apart := false, laid := [("unicode/utf8.acceptRanges", laid_unicode_utf8_acceptRanges), ("unicode/utf8.first", laid_unicode_utf8_first)], narrowed := true }
def FnMailPutUptoSaid : Prop := fnMailPutUptoRow.holds Tryd.pinned (OpenSpec.upto fnMailPutSpec)

/-- 'laws.FnMailGet', WHERE WHAT IT READS IS OF BULK AT MOST 1048576: true; the input reads as it did. -/
def fnMailGetUptoRow : OpenClaim := { program := "ytaobhhjdkdoceaadoor", sum := "db73e4962b14be2538c05f4c9c3a3a12cfe38e1486beb7e2230652fcb5d829eb", func := "loop.example/satchel/laws.FnMailGet", spec := "fnMailGet", inPlace := ["internal/bytealg.IndexByteString", "internal/bytealg.IndexString", "internal/bytealg.CountString", "internal/abi.NoEscape"], unfollowed := true, recurses := true, named := ["internal/bytealg.MaxLen", "unicode/utf8.first", "unicode/utf8.acceptRanges"], apart := false, laid := [("unicode/utf8.acceptRanges", laid_unicode_utf8_acceptRanges), ("unicode/utf8.first", laid_unicode_utf8_first)], narrowed := true }
def FnMailGetUptoSaid : Prop := fnMailGetUptoRow.holds Tryd.pinned (OpenSpec.upto fnMailGetSpec)

/-- 'laws.FnExactDomainOk', WHERE WHAT IT READS IS OF BULK AT MOST 1048576: true; the input reads as it did. -/
def fnExactDomainOkUptoRow : OpenClaim := { program := "ytaobhhjdkdoceaadoor", sum := "db73e4962b14be2538c05f4c9c3a3a12cfe38e1486beb7e2230652fcb5d829eb", func := "loop.example/satchel/laws.FnExactDomainOk", spec := "fnExactDomainOk", inPlace := ["internal/bytealg.CountString", "internal/bytealg.IndexByteString", "internal/bytealg.IndexString"], named := ["unicode/utf8.first", "unicode/utf8.acceptRanges", "internal/bytealg.MaxLen"], apart := false, laid := [("unicode/utf8.acceptRanges", laid_unicode_utf8_acceptRanges), ("unicode/utf8.first", laid_unicode_utf8_first)], narrowed := true }
def FnExactDomainOkUptoSaid : Prop := fnExactDomainOkUptoRow.holds Tryd.pinned (OpenSpec.upto fnExactDomainOkSpec)

/-- 'laws.FnExactAddrOk', WHERE WHAT IT READS IS OF BULK AT MOST 1048576: true; the input reads as it did. -/
def fnExactAddrOkUptoRow : OpenClaim := { program := "ytaobhhjdkdoceaadoor", sum := "db73e4962b14be2538c05f4c9c3a3a12cfe38e1486beb7e2230652fcb5d829eb", func := "loop.example/satchel/laws.FnExactAddrOk", spec := "fnExactAddrOk", inPlace := ["internal/bytealg.CountString", "internal/bytealg.IndexByteString", "internal/bytealg.IndexString"], named := ["unicode/utf8.first", "unicode/utf8.acceptRanges", "internal/bytealg.MaxLen"], apart := false, laid := [("unicode/utf8.acceptRanges", laid_unicode_utf8_acceptRanges), ("unicode/utf8.first", laid_unicode_utf8_first)], narrowed := true }
def FnExactAddrOkUptoSaid : Prop := fnExactAddrOkUptoRow.holds Tryd.pinned (OpenSpec.upto fnExactAddrOkSpec)

/-- 'laws.FnExactAddrPut', WHERE WHAT IT READS IS OF BULK AT MOST 1048576: true; the input reads as it did. -/
def fnExactAddrPutUptoRow : OpenClaim := { program := "ytaobhhjdkdoceaadoor", sum := "db73e4962b14be2538c05f4c9c3a3a12cfe38e1486beb7e2230652fcb5d829eb", func := "loop.example/satchel/laws.FnExactAddrPut", spec := "fnExactAddrPut", inPlace := ["internal/bytealg.CountString", "internal/bytealg.IndexByteString", "internal/bytealg.IndexString"], named := ["unicode/utf8.first", "unicode/utf8.acceptRanges", "internal/bytealg.MaxLen"], apart := false, laid := [("unicode/utf8.acceptRanges", laid_unicode_utf8_acceptRanges), ("unicode/utf8.first", laid_unicode_utf8_first)], narrowed := true }
def FnExactAddrPutUptoSaid : Prop := fnExactAddrPutUptoRow.holds Tryd.pinned (OpenSpec.upto fnExactAddrPutSpec)

/-- 'laws.FnExactAddrGet', WHERE WHAT IT READS IS OF BULK AT MOST 1048576: true; the input reads as it did. -/
def fnExactAddrGetUptoRow : OpenClaim := { program := "ytaobhhjdkdoceaadoor", sum := "db73e4962b14be2538c05f4c9c3a3a12cfe38e1486beb7e2230652fcb5d829eb", func := "loop.example/satchel/laws.FnExactAddrGet", spec := "fnExactAddrGet", inPlace := ["internal/bytealg.IndexByteString", "internal/bytealg.IndexString", "internal/bytealg.CountString"], named := ["internal/bytealg.MaxLen", "unicode/utf8.first", "unicode/utf8.acceptRanges"], apart := false, laid := [("unicode/utf8.acceptRanges", laid_unicode_utf8_acceptRanges), ("unicode/utf8.first", laid_unicode_utf8_first)], narrowed := true }
def FnExactAddrGetUptoSaid : Prop := fnExactAddrGetUptoRow.holds Tryd.pinned (OpenSpec.upto fnExactAddrGetSpec)

/-- 'laws.FnExactDomainIn', WHERE WHAT IT READS IS OF BULK AT MOST 1048576: true; the input reads as it did. -/
def fnExactDomainInUptoRow : OpenClaim := { program := "ytaobhhjdkdoceaadoor", sum := "db73e4962b14be2538c05f4c9c3a3a12cfe38e1486beb7e2230652fcb5d829eb", func := "loop.example/satchel/laws.FnExactDomainIn", spec := "fnExactDomainIn", inPlace := ["internal/bytealg.CountString", "internal/bytealg.IndexByteString", "internal/bytealg.IndexString"], named := ["unicode/utf8.first", "unicode/utf8.acceptRanges", "internal/bytealg.MaxLen"], apart := false, laid := [("unicode/utf8.acceptRanges", laid_unicode_utf8_acceptRanges), ("unicode/utf8.first", laid_unicode_utf8_first)], narrowed := true }
def FnExactDomainInUptoSaid : Prop := fnExactDomainInUptoRow.holds Tryd.pinned (OpenSpec.upto fnExactDomainInSpec)

/-- 'laws.FnExactMailOk', WHERE WHAT IT READS IS OF BULK AT MOST 1048576: true; the input reads as it did. -/
def fnExactMailOkUptoRow : OpenClaim := { program := "ytaobhhjdkdoceaadoor", sum := "db73e4962b14be2538c05f4c9c3a3a12cfe38e1486beb7e2230652fcb5d829eb", func := "loop.example/satchel/laws.FnExactMailOk", spec := "fnExactMailOk", inPlace := ["internal/bytealg.CountString", "internal/bytealg.IndexByteString", "internal/bytealg.IndexString"], named := ["unicode/utf8.first", "unicode/utf8.acceptRanges", "internal/bytealg.MaxLen"], apart := false, laid := [("unicode/utf8.acceptRanges", laid_unicode_utf8_acceptRanges), ("unicode/utf8.first", laid_unicode_utf8_first)], narrowed := true }
def FnExactMailOkUptoSaid : Prop := fnExactMailOkUptoRow.holds Tryd.pinned (OpenSpec.upto fnExactMailOkSpec)

/-- 'laws.FnExactHopsOf', WHERE WHAT IT READS IS OF BULK AT MOST 1048576: true; the input reads as it did. -/
def fnExactHopsOfUptoRow : OpenClaim := { program := "ytaobhhjdkdoceaadoor", sum := "db73e4962b14be2538c05f4c9c3a3a12cfe38e1486beb7e2230652fcb5d829eb", func := "loop.example/satchel/laws.FnExactHopsOf", spec := "fnExactHopsOf", inPlace := ["internal/bytealg.CountString", "internal/bytealg.IndexByteString", "internal/bytealg.IndexString"], named := ["unicode/utf8.first", "unicode/utf8.acceptRanges", "internal/bytealg.MaxLen"], apart := false, laid := [("unicode/utf8.acceptRanges", laid_unicode_utf8_acceptRanges), ("unicode/utf8.first", laid_unicode_utf8_first)], narrowed := true }
def FnExactHopsOfUptoSaid : Prop := fnExactHopsOfUptoRow.holds Tryd.pinned (OpenSpec.upto fnExactHopsOfSpec)

/-- 'laws.FnExactHopPut', WHERE WHAT IT READS IS OF BULK AT MOST 1048576: true; the input reads as it did. -/
def fnExactHopPutUptoRow : OpenClaim := { program := "ytaobhhjdkdoceaadoor", sum := "db73e4962b14be2538c05f4c9c3a3a12cfe38e1486beb7e2230652fcb5d829eb", func := "loop.example/satchel/laws.FnExactHopPut", spec := "fnExactHopPut", inPlace := ["internal/bytealg.CountString", "internal/bytealg.IndexByteString", "internal/bytealg.IndexString"], named := ["unicode/utf8.first", "unicode/utf8.acceptRanges", "internal/bytealg.MaxLen"], apart := false, laid := [("unicode/utf8.acceptRanges", laid_unicode_utf8_acceptRanges), ("unicode/utf8.first", laid_unicode_utf8_first)], narrowed := true }
def FnExactHopPutUptoSaid : Prop := fnExactHopPutUptoRow.holds Tryd.pinned (OpenSpec.upto fnExactHopPutSpec)

/-- 'laws.FnExactMailPut', WHERE WHAT IT READS IS OF BULK AT MOST 1048576: true; the input reads as it did. -/
def fnExactMailPutUptoRow : OpenClaim := { program := "ytaobhhjdkdoceaadoor", sum := "db73e4962b14be2538c05f4c9c3a3a12cfe38e1486beb7e2230652fcb5d829eb", func := "loop.example/satchel/laws.FnExactMailPut", spec := "fnExactMailPut", inPlace := ["internal/bytealg.CountString", "internal/bytealg.IndexByteString", "internal/bytealg.IndexString", "internal/abi.NoEscape"], named := ["unicode/utf8.first", "unicode/utf8.acceptRanges", "internal/bytealg.MaxLen"], apart := false, laid := [("unicode/utf8.acceptRanges", laid_unicode_utf8_acceptRanges), ("unicode/utf8.first", laid_unicode_utf8_first)], narrowed := true }
def FnExactMailPutUptoSaid : Prop := fnExactMailPutUptoRow.holds Tryd.pinned (OpenSpec.upto fnExactMailPutSpec)

/-- 'laws.FnExactMailGet', WHERE WHAT IT READS IS OF BULK AT MOST 1048576: true; the input reads as it did. -/
def fnExactMailGetUptoRow : OpenClaim := { program := "ytaobhhjdkdoceaadoor", sum := "db73e4962b14be2538c05f4c9c3a3a12cfe38e1486beb7e2230652fcb5d829eb", func := "loop.example/satchel/laws.FnExactMailGet", spec := "fnExactMailGet", inPlace := ["internal/bytealg.IndexByteString", "internal/bytealg.IndexString", "internal/bytealg.CountString"], unfollowed := true, recurses := true, named := ["internal/bytealg.MaxLen", "unicode/utf8.first", "unicode/utf8.acceptRanges"], apart := false, laid := [("unicode/utf8.acceptRanges", laid_unicode_utf8_acceptRanges), ("unicode/utf8.first", laid_unicode_utf8_first)], narrowed := true }
def FnExactMailGetUptoSaid : Prop := fnExactMailGetUptoRow.holds Tryd.pinned (OpenSpec.upto fnExactMailGetSpec)

end Rows
end Go.Proofs.YtaobhhjdkdoceaaDoor
