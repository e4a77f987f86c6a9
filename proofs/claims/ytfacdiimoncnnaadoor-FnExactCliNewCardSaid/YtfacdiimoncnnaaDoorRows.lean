/-
  NARROWER THAN 'FOR EVERY INPUT', by the rows' own cells (each row's printed sentence says how): FnExactHostNew: laid · FnHostNew: laid · FnExactCliNew: laid · FnCliNew: laid · FnCliOuts: laid · FnExactMailGet: laid · FnMailGet: laid · FnMailPut: laid · FnWay: laid.
  DERIVED. THE GIVEN ROWS OF THIS SEAT. 9 by the template 'for every input the law returns true; each argument reads behind the call as it read before'; 0 by the template 'total and deterministic' (their statements: YtfacdiimoncnnaaDoorTotals.lean).
  GIVEN WITH THE SEED: the statements are not yours to turn. If you find one false, say at which input.
  Laid BY PROGRAM, IN A SANDBOX (cutbox-rows.mjs): the forced cells as the released guide's own fill.sh prints them over the translation 3c9a4026aad9d669… (all of the seat's roots in one cut). By AI agents, Wed Nov 11 2026. No macro, syntax, notation, axiom, sorry.
-/
import Derived.Test.YtfacdiimoncnnaaDoorChecked
import GoSem.PinnedTables
import GoSem.Claim
import GoSem.ClaimJoined
import GoSem.ClaimMapViews
import Derived.JoinedTies
import Derived.KernelRfl
namespace Go.Proofs.YtfacdiimoncnnaaDoor
/- THE CELL 'sum', in the pinned program and in every row, IS THE sha256 OF THE DUMP (.gsa) THAT YtfacdiimoncnnaaDoorProg.lean LOADS. Nothing in Lean hashes anything: it is a label: what it is worth is what the hold of that sum in a sandbox is worth. -/
noncomputable def Tryd.pinned : Pinned := { name := "ytfacdiimoncnnaadoor", sum := "3c9a4026aad9d6697af04d0f5fec73661b117d26894020410297846c0a105634", checked := Tryd.checked }
namespace Rows
def none {H : Type} : Left H := { results := [], args := [] }

/- WHAT THE LISTED PACKAGE-LEVEL VARIABLES READ AS WHEN THE CALL BEGINS. Each datum BY PROGRAM (the guide's laid-datum.mjs) off the statement by which the dump's own 'gosem.cut.vars' lays the variable. In a bare row this is a premise. The card (YtfacdiimoncnnaaDoorCards.lean) ties it to the program's text. -/
def laid_unicode_utf8_acceptRanges {H : Type} : DataW H := .agg [.agg [.lit (.int .u8 128), .lit (.int .u8 191)], .agg [.lit (.int .u8 160), .lit (.int .u8 191)], .agg [.lit (.int .u8 128), .lit (.int .u8 159)], .agg [.lit (.int .u8 144), .lit (.int .u8 191)], .agg [.lit (.int .u8 128), .lit (.int .u8 143)], .agg [.lit (.int .u8 0), .lit (.int .u8 0)], .agg [.lit (.int .u8 0), .lit (.int .u8 0)], .agg [.lit (.int .u8 0), .lit (.int .u8 0)], .agg [.lit (.int .u8 0), .lit (.int .u8 0)], .agg [.lit (.int .u8 0), .lit (.int .u8 0)], .agg [.lit (.int .u8 0), .lit (.int .u8 0)], .agg [.lit (.int .u8 0), .lit (.int .u8 0)], .agg [.lit (.int .u8 0), .lit (.int .u8 0)], .agg [.lit (.int .u8 0), .lit (.int .u8 0)], .agg [.lit (.int .u8 0), .lit (.int .u8 0)], .agg [.lit (.int .u8 0), .lit (.int .u8 0)]]
/-- One of Go's own tables, pinned by name: the form's constant. -/
def laid_unicode_utf8_first : DataW Unit := Go.Pinned.utf8First

/-- 'laws.FnExactHostNew': WHATEVER THE INPUT: true; the input reads as it did. -/
def fnExactHostNewSpec : ChangeSpec := { name := "fnExactHostNew", fn := fun _ => fun
  | [d] => { results := [.lit (.bool true)], args := [d] }
  | _ => none }
def fnExactHostNewRow : OpenClaim := { program := "ytfacdiimoncnnaadoor", sum := "3c9a4026aad9d6697af04d0f5fec73661b117d26894020410297846c0a105634", func := "loop.example/satchel/laws.FnExactHostNew", spec := "fnExactHostNew", inPlace := ["internal/bytealg.CountString", "internal/bytealg.IndexByteString", "internal/bytealg.IndexString"], named := ["unicode/utf8.first", "unicode/utf8.acceptRanges", "internal/bytealg.MaxLen"], apart := false, laid := [("unicode/utf8.acceptRanges", laid_unicode_utf8_acceptRanges), ("unicode/utf8.first", laid_unicode_utf8_first)] }
def FnExactHostNewSaid : Prop := fnExactHostNewRow.holds Tryd.pinned (OpenSpec.ofChange fnExactHostNewSpec)

/-- ITS FALSE NEIGHBOUR: 'it returns false'. Refute it at one input. -/
def fnExactHostNewWrong : ChangeSpec := { name := "fnExactHostNew", fn := fun _ => fun
  | [d] => { results := [.lit (.bool false)], args := [d] }
  | _ => none }
def FnExactHostNewWrongFalsely : Prop := fnExactHostNewRow.holds Tryd.pinned (OpenSpec.ofChange fnExactHostNewWrong)

/-- 'laws.FnHostNew': WHATEVER THE INPUT: true; the input reads as it did. -/
def fnHostNewSpec : ChangeSpec := { name := "fnHostNew", fn := fun _ => fun
  | [d] => { results := [.lit (.bool true)], args := [d] }
  | _ => none }
def fnHostNewRow : OpenClaim := { program := "ytfacdiimoncnnaadoor", sum := "3c9a4026aad9d6697af04d0f5fec73661b117d26894020410297846c0a105634", func := "loop.example/satchel/laws.FnHostNew", spec := "fnHostNew", inPlace := ["internal/bytealg.CountString", "internal/bytealg.IndexByteString", "internal/bytealg.IndexString", "internal/bytealg.abigen_runtime_cmpstring"], unfollowed := true, recurses := true, named := ["unicode/utf8.first", "unicode/utf8.acceptRanges", "internal/bytealg.MaxLen"], apart := false, laid := [("unicode/utf8.acceptRanges", laid_unicode_utf8_acceptRanges), ("unicode/utf8.first", laid_unicode_utf8_first)] }
def FnHostNewSaid : Prop := fnHostNewRow.holds Tryd.pinned (OpenSpec.ofChange fnHostNewSpec)

/-- ITS FALSE NEIGHBOUR: 'it returns false'. Refute it at one input. -/
def fnHostNewWrong : ChangeSpec := { name := "fnHostNew", fn := fun _ => fun
  | [d] => { results := [.lit (.bool false)], args := [d] }
  | _ => none }
def FnHostNewWrongFalsely : Prop := fnHostNewRow.holds Tryd.pinned (OpenSpec.ofChange fnHostNewWrong)

/-- 'laws.FnExactCliNew': WHATEVER THE INPUT: true; the input reads as it did. -/
def fnExactCliNewSpec : ChangeSpec := { name := "fnExactCliNew", fn := fun _ => fun
  | [d1, d2] => { results := [.lit (.bool true)], args := [d1, d2] }
  | _ => none }
def fnExactCliNewRow : OpenClaim := { program := "ytfacdiimoncnnaadoor", sum := "3c9a4026aad9d6697af04d0f5fec73661b117d26894020410297846c0a105634", func := "loop.example/satchel/laws.FnExactCliNew", spec := "fnExactCliNew", inPlace := ["internal/bytealg.CountString", "internal/bytealg.IndexByteString", "internal/bytealg.IndexString"], named := ["unicode/utf8.first", "unicode/utf8.acceptRanges", "internal/bytealg.MaxLen"], apart := false, laid := [("unicode/utf8.acceptRanges", laid_unicode_utf8_acceptRanges), ("unicode/utf8.first", laid_unicode_utf8_first)] }
def FnExactCliNewSaid : Prop := fnExactCliNewRow.holds Tryd.pinned (OpenSpec.ofChange fnExactCliNewSpec)

/-- ITS FALSE NEIGHBOUR: 'it returns false'. Refute it at one input. -/
def fnExactCliNewWrong : ChangeSpec := { name := "fnExactCliNew", fn := fun _ => fun
  | [d1, d2] => { results := [.lit (.bool false)], args := [d1, d2] }
  | _ => none }
def FnExactCliNewWrongFalsely : Prop := fnExactCliNewRow.holds Tryd.pinned (OpenSpec.ofChange fnExactCliNewWrong)

/-- 'laws.FnCliNew': WHATEVER THE INPUT: true; the input reads as it did. -/
def fnCliNewSpec : ChangeSpec := { name := "fnCliNew", fn := fun _ => fun
  | [d] => { results := [.lit (.bool true)], args := [d] }
  | _ => none }
def fnCliNewRow : OpenClaim := { program := "ytfacdiimoncnnaadoor", sum := "3c9a4026aad9d6697af04d0f5fec73661b117d26894020410297846c0a105634", func := "loop.example/satchel/laws.FnCliNew", spec := "fnCliNew", inPlace := ["internal/bytealg.CountString", "internal/bytealg.IndexByteString", "internal/bytealg.IndexString"], named := ["unicode/utf8.first", "unicode/utf8.acceptRanges", "internal/bytealg.MaxLen"], apart := false, laid := [("unicode/utf8.acceptRanges", laid_unicode_utf8_acceptRanges), ("unicode/utf8.first", laid_unicode_utf8_first)] }
def FnCliNewSaid : Prop := fnCliNewRow.holds Tryd.pinned (OpenSpec.ofChange fnCliNewSpec)

/-- ITS FALSE NEIGHBOUR: 'it returns false'. Refute it at one input. -/
def fnCliNewWrong : ChangeSpec := { name := "fnCliNew", fn := fun _ => fun
  | [d] => { results := [.lit (.bool false)], args := [d] }
  | _ => none }
def FnCliNewWrongFalsely : Prop := fnCliNewRow.holds Tryd.pinned (OpenSpec.ofChange fnCliNewWrong)

/-- 'laws.FnCliOuts': WHATEVER THE INPUT: true; the input reads as it did. -/
def fnCliOutsSpec : ChangeSpec := { name := "fnCliOuts", fn := fun _ => fun
  | [d] => { results := [.lit (.bool true)], args := [d] }
  | _ => none }
def fnCliOutsRow : OpenClaim := { program := "ytfacdiimoncnnaadoor", sum := "3c9a4026aad9d6697af04d0f5fec73661b117d26894020410297846c0a105634", func := "loop.example/satchel/laws.FnCliOuts", spec := "fnCliOuts", inPlace := ["internal/bytealg.CountString", "internal/bytealg.IndexByteString", "internal/bytealg.IndexString"], named := ["unicode/utf8.first", "unicode/utf8.acceptRanges", "internal/bytealg.MaxLen"], apart := false, laid := [("unicode/utf8.acceptRanges", laid_unicode_utf8_acceptRanges), ("unicode/utf8.first", laid_unicode_utf8_first)] }
def FnCliOutsSaid : Prop := fnCliOutsRow.holds Tryd.pinned (OpenSpec.ofChange fnCliOutsSpec)

/-- ITS FALSE NEIGHBOUR: 'it returns false'. Refute it at one input. -/
def fnCliOutsWrong : ChangeSpec := { name := "fnCliOuts", fn := fun _ => fun
  | [d] => { results := [.lit (.bool false)], args := [d] }
  | _ => none }
def FnCliOutsWrongFalsely : Prop := fnCliOutsRow.holds Tryd.pinned (OpenSpec.ofChange fnCliOutsWrong)

/-- 'laws.FnExactMailGet': WHATEVER THE INPUT: true; the input reads as it did. -/
def fnExactMailGetSpec : ChangeSpec := { name := "fnExactMailGet", fn := fun _ => fun
  | [d] => { results := [.lit (.bool true)], args := [d] }
  | _ => none }
def fnExactMailGetRow : OpenClaim := { program := "ytfacdiimoncnnaadoor", sum := "3c9a4026aad9d6697af04d0f5fec73661b117d26894020410297846c0a105634", func := "loop.example/satchel/laws.FnExactMailGet", spec := "fnExactMailGet", inPlace := ["internal/bytealg.IndexByteString", "internal/bytealg.IndexString", "internal/bytealg.CountString"], unfollowed := true, recurses := true, named := ["internal/bytealg.MaxLen", "unicode/utf8.first", "unicode/utf8.acceptRanges"], apart := false, laid := [("unicode/utf8.acceptRanges", laid_unicode_utf8_acceptRanges), ("unicode/utf8.first", laid_unicode_utf8_first)] }
def FnExactMailGetSaid : Prop := fnExactMailGetRow.holds Tryd.pinned (OpenSpec.ofChange fnExactMailGetSpec)

/-- ITS FALSE NEIGHBOUR: 'it returns false'. Refute it at one input. -/
def fnExactMailGetWrong : ChangeSpec := { name := "fnExactMailGet", fn := fun _ => fun
  | [d] => { results := [.lit (.bool false)], args := [d] }
  | _ => none }
def FnExactMailGetWrongFalsely : Prop := fnExactMailGetRow.holds Tryd.pinned (OpenSpec.ofChange fnExactMailGetWrong)

/-- 'laws.FnMailGet': WHATEVER THE INPUT: true; the input reads as it did. -/
def fnMailGetSpec : ChangeSpec := { name := "fnMailGet", fn := fun _ => fun
  | [d] => { results := [.lit (.bool true)], args := [d] }
  | _ => none }
def fnMailGetRow : OpenClaim := { program := "ytfacdiimoncnnaadoor", sum := "3c9a4026aad9d6697af04d0f5fec73661b117d26894020410297846c0a105634", func := "loop.example/satchel/laws.FnMailGet", spec := "fnMailGet", inPlace := ["internal/bytealg.IndexByteString", "internal/bytealg.IndexString", "internal/bytealg.CountString", "internal/abi.NoEscape"], unfollowed := true, recurses := true, named := ["internal/bytealg.MaxLen", "unicode/utf8.first", "unicode/utf8.acceptRanges"], apart := false, laid := [("unicode/utf8.acceptRanges", laid_unicode_utf8_acceptRanges), ("unicode/utf8.first", laid_unicode_utf8_first)] }
def FnMailGetSaid : Prop := fnMailGetRow.holds Tryd.pinned (OpenSpec.ofChange fnMailGetSpec)

/-- ITS FALSE NEIGHBOUR: 'it returns false'. Refute it at one input. -/
def fnMailGetWrong : ChangeSpec := { name := "fnMailGet", fn := fun _ => fun
  | [d] => { results := [.lit (.bool false)], args := [d] }
  | _ => none }
def FnMailGetWrongFalsely : Prop := fnMailGetRow.holds Tryd.pinned (OpenSpec.ofChange fnMailGetWrong)

/-- 'laws.FnMailPut': WHATEVER THE INPUT: true; the input reads as it did. -/
def fnMailPutSpec : ChangeSpec := { name := "fnMailPut", fn := fun _ => fun
  | [d] => { results := [.lit (.bool true)], args := [d] }
  | _ => none }
def fnMailPutRow : OpenClaim := { program := "ytfacdiimoncnnaadoor", sum := "3c9a4026aad9d6697af04d0f5fec73661b117d26894020410297846c0a105634", func := "loop.example/satchel/laws.FnMailPut", spec := "fnMailPut", inPlace := ["internal/bytealg.CountString", "internal/bytealg.IndexByteString", "internal/bytealg.IndexString", "internal/abi.NoEscape"], unfollowed := true, recurses := true, named := ["unicode/utf8.first", "unicode/utf8.acceptRanges", "internal/bytealg.MaxLen"], apart := false, laid := [("unicode/utf8.acceptRanges", laid_unicode_utf8_acceptRanges), ("unicode/utf8.first", laid_unicode_utf8_first)] }
def FnMailPutSaid : Prop := fnMailPutRow.holds Tryd.pinned (OpenSpec.ofChange fnMailPutSpec)

/-- ITS FALSE NEIGHBOUR: 'it returns false'. Refute it at one input. -/
def fnMailPutWrong : ChangeSpec := { name := "fnMailPut", fn := fun _ => fun
  | [d] => { results := [.lit (.bool false)], args := [d] }
  | _ => none }
def FnMailPutWrongFalsely : Prop := fnMailPutRow.holds Tryd.pinned (OpenSpec.ofChange fnMailPutWrong)

/-- 'laws.FnWay': WHATEVER THE INPUT: true; the input reads as it did. -/
def fnWaySpec : ChangeSpec := { name := "fnWay", fn := fun _ => fun
  | [d] => { results := [.lit (.bool true)], args := [d] }
  | _ => none }
def fnWayRow : OpenClaim := { program := "ytfacdiimoncnnaadoor", sum := "3c9a4026aad9d6697af04d0f5fec73661b117d26894020410297846c0a105634", func := "loop.example/satchel/laws.FnWay", spec := "fnWay", inPlace := ["internal/bytealg.CountString", "internal/bytealg.IndexByteString", "internal/bytealg.IndexString"], named := ["unicode/utf8.first", "unicode/utf8.acceptRanges", "internal/bytealg.MaxLen"], apart := false, laid := [("unicode/utf8.acceptRanges", laid_unicode_utf8_acceptRanges), ("unicode/utf8.first", laid_unicode_utf8_first)] }
def FnWaySaid : Prop := fnWayRow.holds Tryd.pinned (OpenSpec.ofChange fnWaySpec)

/-- ITS FALSE NEIGHBOUR: 'it returns false'. Refute it at one input. -/
def fnWayWrong : ChangeSpec := { name := "fnWay", fn := fun _ => fun
  | [d] => { results := [.lit (.bool false)], args := [d] }
  | _ => none }
def FnWayWrongFalsely : Prop := fnWayRow.holds Tryd.pinned (OpenSpec.ofChange fnWayWrong)

/- THE SECOND FORM. 'bulk': how many values and letters a reading holds, each counted each time it is reached (what is shared counts as often as it is met; a slice's spare places count too). A statement '..UptoSaid' is the law's where the arguments, and the package variables that the reading takes, are together of bulk at most 1048576: NARROWER than '..Said'. Prove '..Said' where nothing that the law and all that it calls make is longer than what came in: it says more and counts as full. Else prove '..UptoSaid'. A law counts once. -/
mutual
def uptoBulk {H : Type} : DataW H → Nat
  | .lit (.string bytes) => bytes.length + 1
  | .lit _ => 1
  | .nil => 1
  | .ptr d => uptoBulk d + 1
  | .slice elems spare => uptoBulkAll elems + uptoBulkAll spare + 1
  | .agg parts => uptoBulkAll parts + 1
  | .iface _ d => uptoBulk d + 1
  | .map entries => uptoBulkEntries entries + 1
  | .held _ => 1
def uptoBulkAll {H : Type} : List (DataW H) → Nat
  | [] => 0
  | d :: r => uptoBulk d + uptoBulkAll r
def uptoBulkEntries {H : Type} : List (Lit × DataW H) → Nat
  | [] => 0
  | x :: r => uptoBulkEntry x + uptoBulkEntries r
def uptoBulkEntry {H : Type} : Lit × DataW H → Nat
  | (.string bytes, d) => bytes.length + uptoBulk d + 1
  | (_, d) => uptoBulk d + 1
 end
def uptoSmall : (H : Type) → List (DataW H) → Bool := fun _ ds => decide (uptoBulkAll ds ≤ 1048576)
def OpenSpec.upto (s : _root_.Go.ChangeSpec) : _root_.Go.OpenSpec := { _root_.Go.OpenSpec.ofChange s with cond := some uptoSmall }

/-- 'laws.FnExactHostNew', WHERE WHAT IT READS IS OF BULK AT MOST 1048576: true; the input reads as it did. -/
def fnExactHostNewUptoRow : OpenClaim := { program := "ytfacdiimoncnnaadoor", sum := "3c9a4026aad9d6697af04d0f5fec73661b117d26894020410297846c0a105634", func := "loop.example/satchel/laws.FnExactHostNew", spec := "fnExactHostNew", inPlace := ["internal/bytealg.CountString", "internal/bytealg.IndexByteString", "internal/bytealg.IndexString"], named := ["unicode/utf8.first", "unicode/utf8.acceptRanges", "internal/bytealg.MaxLen"], apart := false, laid := [("unicode/utf8.acceptRanges", laid_unicode_utf8_acceptRanges), ("unicode/utf8.first", laid_unicode_utf8_first)], narrowed := true }
def FnExactHostNewUptoSaid : Prop := fnExactHostNewUptoRow.holds Tryd.pinned (OpenSpec.upto fnExactHostNewSpec)

/-- 'laws.FnHostNew', WHERE WHAT IT READS IS OF BULK AT MOST 1048576: true; the input reads as it did. -/
def fnHostNewUptoRow : OpenClaim := { program := "ytfacdiimoncnnaadoor", sum := "3c9a4026aad9d6697af04d0f5fec73661b117d26894020410297846c0a105634", func := "loop.example/satchel/laws.FnHostNew", spec := "fnHostNew", inPlace := ["internal/bytealg.CountString", "internal/bytealg.IndexByteString", "internal/bytealg.IndexString", "internal/bytealg.abigen_runtime_cmpstring"], unfollowed := true, recurses := true, named := ["unicode/utf8.first", "unicode/utf8.acceptRanges", "internal/bytealg.MaxLen"], apart := false, laid := [("unicode/utf8.acceptRanges", laid_unicode_utf8_acceptRanges), ("unicode/utf8.first", laid_unicode_utf8_first)], narrowed := true }
def FnHostNewUptoSaid : Prop := fnHostNewUptoRow.holds Tryd.pinned (OpenSpec.upto fnHostNewSpec)

/-- 'laws.FnExactCliNew', WHERE WHAT IT READS IS OF BULK AT MOST 1048576: true; the input reads as it did. -/
def fnExactCliNewUptoRow : OpenClaim := { program := "ytfacdiimoncnnaadoor", sum := "3c9a4026aad9d6697af04d0f5fec73661b117d26894020410297846c0a105634", func := "loop.example/satchel/laws.FnExactCliNew", spec := "fnExactCliNew", inPlace := ["internal/bytealg.CountString", "internal/bytealg.IndexByteString", "internal/bytealg.IndexString"], named := ["unicode/utf8.first", "unicode/utf8.acceptRanges", "internal/bytealg.MaxLen"], apart := false, laid := [("unicode/utf8.acceptRanges", laid_unicode_utf8_acceptRanges), ("unicode/utf8.first", laid_unicode_utf8_first)], narrowed := true }
def FnExactCliNewUptoSaid : Prop := fnExactCliNewUptoRow.holds Tryd.pinned (OpenSpec.upto fnExactCliNewSpec)

/-- 'laws.FnCliNew', WHERE WHAT IT READS IS OF BULK AT MOST 1048576: true; the input reads as it did. -/
def fnCliNewUptoRow : OpenClaim := { program := "ytfacdiimoncnnaadoor", sum := "3c9a4026aad9d6697af04d0f5fec73661b117d26894020410297846c0a105634", func := "loop.example/satchel/laws.FnCliNew", spec := "fnCliNew", inPlace := ["internal/bytealg.CountString", "internal/bytealg.IndexByteString", "internal/bytealg.IndexString"], named := ["unicode/utf8.first", "unicode/utf8.acceptRanges", "internal/bytealg.MaxLen"], apart := false, laid := [("unicode/utf8.acceptRanges", laid_unicode_utf8_acceptRanges), ("unicode/utf8.first", laid_unicode_utf8_first)], narrowed := true }
def FnCliNewUptoSaid : Prop := fnCliNewUptoRow.holds Tryd.pinned (OpenSpec.upto fnCliNewSpec)

/-- 'laws.FnCliOuts', WHERE WHAT IT READS IS OF BULK AT MOST 1048576: true; the input reads as it did. -/
def fnCliOutsUptoRow : OpenClaim := { program := "ytfacdiimoncnnaadoor", sum := "3c9a4026aad9d6697af04d0f5fec73661b117d26894020410297846c0a105634", func := "loop.example/satchel/laws.FnCliOuts", spec := "fnCliOuts", inPlace := ["internal/bytealg.CountString", "internal/bytealg.IndexByteString", "internal/bytealg.IndexString"], named := ["unicode/utf8.first", "unicode/utf8.acceptRanges", "internal/bytealg.MaxLen"], apart := false, laid := [("unicode/utf8.acceptRanges", laid_unicode_utf8_acceptRanges), ("unicode/utf8.first", laid_unicode_utf8_first)], narrowed := true }
def FnCliOutsUptoSaid : Prop := fnCliOutsUptoRow.holds Tryd.pinned (OpenSpec.upto fnCliOutsSpec)

/-- 'laws.FnExactMailGet', WHERE WHAT IT READS IS OF BULK AT MOST 1048576: true; the input reads as it did. -/
def fnExactMailGetUptoRow : OpenClaim := { program := "ytfacdiimoncnnaadoor", sum := "3c9a4026aad9d6697af04d0f5fec73661b117d26894020410297846c0a105634", func := "loop.example/satchel/laws.FnExactMailGet", spec := "fnExactMailGet", inPlace := ["internal/bytealg.IndexByteString", "internal/bytealg.IndexString", "internal/bytealg.CountString"], unfollowed := true, recurses := true, named := ["internal/bytealg.MaxLen", "unicode/utf8.first", "unicode/utf8.acceptRanges"], apart := false, laid := [("unicode/utf8.acceptRanges", laid_unicode_utf8_acceptRanges), ("unicode/utf8.first", laid_unicode_utf8_first)], narrowed := true }
def FnExactMailGetUptoSaid : Prop := fnExactMailGetUptoRow.holds Tryd.pinned (OpenSpec.upto fnExactMailGetSpec)

/-- 'laws.FnMailGet', WHERE WHAT IT READS IS OF BULK AT MOST 1048576: true; the input reads as it did. -/
def fnMailGetUptoRow : OpenClaim := { program := "ytfacdiimoncnnaadoor", sum := "3c9a4026aad9d6697af04d0f5fec73661b117d26894020410297846c0a105634", func := "loop.example/satchel/laws.FnMailGet", spec := "fnMailGet", inPlace := ["internal/bytealg.IndexByteString", "internal/bytealg.IndexString", "internal/bytealg.CountString", "internal/abi.NoEscape"], unfollowed := true, recurses := true, named := ["internal/bytealg.MaxLen", "unicode/utf8.first", "unicode/utf8.acceptRanges"], apart := false, laid := [("unicode/utf8.acceptRanges", laid_unicode_utf8_acceptRanges), ("unicode/utf8.first", laid_unicode_utf8_first)], narrowed := true }
def FnMailGetUptoSaid : Prop := fnMailGetUptoRow.holds Tryd.pinned (OpenSpec.upto fnMailGetSpec)

/-- 'laws.FnMailPut', WHERE WHAT IT READS IS OF BULK AT MOST 1048576: true; the input reads as it did. -/
def fnMailPutUptoRow : OpenClaim := { program := "ytfacdiimoncnnaadoor", sum := "3c9a4026aad9d6697af04d0f5fec73661b117d26894020410297846c0a105634", func := "loop.example/satchel/laws.FnMailPut", spec := "fnMailPut", inPlace := ["internal/bytealg.CountString", "internal/bytealg.IndexByteString", "internal/bytealg.IndexString", "internal/abi.NoEscape"], unfollowed := true, recurses := true, named := ["unicode/utf8.first", "unicode/utf8.acceptRanges", "internal/bytealg.MaxLen"], apart := false, laid := [("unicode/utf8.acceptRanges", laid_unicode_utf8_acceptRanges), ("unicode/utf8.first", laid_unicode_utf8_first)], narrowed := true }
def FnMailPutUptoSaid : Prop := fnMailPutUptoRow.holds Tryd.pinned (OpenSpec.upto fnMailPutSpec)

/-- 'laws.FnWay', WHERE WHAT IT READS IS OF BULK AT MOST 1048576: true; the input reads as it did. -/
def fnWayUptoRow : OpenClaim := { program := "ytfacdiimoncnnaadoor", sum := "3c9a4026aad9d6697af04d0f5fec73661b117d26894020410297846c0a105634", func := "loop.example/satchel/laws.FnWay", spec := "fnWay", inPlace := ["internal/bytealg.CountString", "internal/bytealg.IndexByteString", "internal/bytealg.IndexString"], named := ["unicode/utf8.first", "unicode/utf8.acceptRanges", "internal/bytealg.MaxLen"], apart := false, laid := [("unicode/utf8.acceptRanges", laid_unicode_utf8_acceptRanges), ("unicode/utf8.first", laid_unicode_utf8_first)], narrowed := true }
def FnWayUptoSaid : Prop := fnWayUptoRow.holds Tryd.pinned (OpenSpec.upto fnWaySpec)

end Rows
end Go.Proofs.YtfacdiimoncnnaaDoor
