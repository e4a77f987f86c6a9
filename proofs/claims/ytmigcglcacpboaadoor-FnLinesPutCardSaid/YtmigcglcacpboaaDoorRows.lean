/-
  NARROWER THAN 'FOR EVERY INPUT', by the rows' own cells (each row's printed sentence says how): FnCodePut: laid · FnCodeGet: laid · FnLinesPut: laid · FnLinesGet: laid · FnExactCodePut: laid · FnExactCodeGet: laid · FnExactLinesPut: laid · FnExactLinesGet: laid.
  DERIVED. THE GIVEN ROWS OF THIS SEAT. 8 by the template 'for every input the law returns true; each argument reads behind the call as it read before'; 0 by the template 'total and deterministic' (their statements: YtmigcglcacpboaaDoorTotals.lean).
  GIVEN WITH THE SEED: the statements are not yours to turn. If you find one false, say at which input.
  Laid BY PROGRAM, IN A SANDBOX (cutbox-rows.mjs): the forced cells as the released guide's own fill.sh prints them over the translation e89bb59e43a1ac2c… (all of the seat's roots in one cut). By AI agents, Wed Nov 11 2026. No macro, syntax, notation, axiom, sorry.
-/
import Derived.Test.YtmigcglcacpboaaDoorChecked
import GoSem.PinnedTables
import GoSem.Claim
import GoSem.ClaimJoined
import GoSem.ClaimMapViews
import Derived.JoinedTies
import Derived.KernelRfl
namespace Go.Proofs.YtmigcglcacpboaaDoor
/- THE CELL 'sum', in the pinned program and in every row, IS THE sha256 OF THE DUMP (.gsa) THAT YtmigcglcacpboaaDoorProg.lean LOADS. Nothing in Lean hashes anything: it is a label: what it is worth is what the hold of that sum in a sandbox is worth. -/
noncomputable def Tryd.pinned : Pinned := { name := "ytmigcglcacpboaadoor", sum := "e89bb59e43a1ac2cbbffa7490095e7e6e0fe456356ed4750b4c7fd17a60acfee", checked := Tryd.checked }
namespace Rows
def none {H : Type} : Left H := { results := [], args := [] }

/- WHAT THE LISTED PACKAGE-LEVEL VARIABLES READ AS WHEN THE CALL BEGINS. Each datum BY PROGRAM (the guide's laid-datum.mjs) off the statement by which the dump's own 'gosem.cut.vars' lays the variable. In a bare row this is a premise. The card (YtmigcglcacpboaaDoorCards.lean) ties it to the program's text. -/
def laid_unicode_utf8_acceptRanges {H : Type} : DataW H := .agg [.agg [.lit (.int .u8 128), .lit (.int .u8 191)], .agg [.lit (.int .u8 160), .lit (.int .u8 191)], .agg [.lit (.int .u8 128), .lit (.int .u8 159)], .agg [.lit (.int .u8 144), .lit (.int .u8 191)], .agg [.lit (.int .u8 128), .lit (.int .u8 143)], .agg [.lit (.int .u8 0), .lit (.int .u8 0)], .agg [.lit (.int .u8 0), .lit (.int .u8 0)], .agg [.lit (.int .u8 0), .lit (.int .u8 0)], .agg [.lit (.int .u8 0), .lit (.int .u8 0)], .agg [.lit (.int .u8 0), .lit (.int .u8 0)], .agg [.lit (.int .u8 0), .lit (.int .u8 0)], .agg [.lit (.int .u8 0), .lit (.int .u8 0)], .agg [.lit (.int .u8 0), .lit (.int .u8 0)], .agg [.lit (.int .u8 0), .lit (.int .u8 0)], .agg [.lit (.int .u8 0), .lit (.int .u8 0)], .agg [.lit (.int .u8 0), .lit (.int .u8 0)]]
def laid_loop_example_satchel_impl_figures {H : Type} : DataW H := .agg [.lit (.int .u8 65), .lit (.int .u8 66), .lit (.int .u8 67), .lit (.int .u8 68), .lit (.int .u8 69), .lit (.int .u8 70), .lit (.int .u8 71), .lit (.int .u8 72), .lit (.int .u8 73), .lit (.int .u8 74), .lit (.int .u8 75), .lit (.int .u8 76), .lit (.int .u8 77), .lit (.int .u8 78), .lit (.int .u8 79), .lit (.int .u8 80), .lit (.int .u8 81), .lit (.int .u8 82), .lit (.int .u8 83), .lit (.int .u8 84), .lit (.int .u8 85), .lit (.int .u8 86), .lit (.int .u8 87), .lit (.int .u8 88), .lit (.int .u8 89), .lit (.int .u8 90), .lit (.int .u8 97), .lit (.int .u8 98), .lit (.int .u8 99), .lit (.int .u8 100), .lit (.int .u8 101), .lit (.int .u8 102), .lit (.int .u8 103), .lit (.int .u8 104), .lit (.int .u8 105), .lit (.int .u8 106), .lit (.int .u8 107), .lit (.int .u8 108), .lit (.int .u8 109), .lit (.int .u8 110), .lit (.int .u8 111), .lit (.int .u8 112), .lit (.int .u8 113), .lit (.int .u8 114), .lit (.int .u8 115), .lit (.int .u8 116), .lit (.int .u8 117), .lit (.int .u8 118), .lit (.int .u8 119), .lit (.int .u8 120), .lit (.int .u8 121), .lit (.int .u8 122), .lit (.int .u8 48), .lit (.int .u8 49), .lit (.int .u8 50), .lit (.int .u8 51), .lit (.int .u8 52), .lit (.int .u8 53), .lit (.int .u8 54), .lit (.int .u8 55), .lit (.int .u8 56), .lit (.int .u8 57), .lit (.int .u8 43), .lit (.int .u8 47)]
/-- One of Go's own tables, pinned by name: the form's constant. -/
def laid_unicode_utf8_first : DataW Unit := Go.Pinned.utf8First

/-- 'laws.FnCodePut': WHATEVER THE INPUT: true; the input reads as it did. -/
def fnCodePutSpec : ChangeSpec := { name := "fnCodePut", vars := ["loop.example/satchel/impl.figures"], fn := fun _ => fun
  | [d, g1] => { results := [.lit (.bool true)], args := [d], vars := [g1] }
  | _ => none }
def fnCodePutRow : OpenClaim := { program := "ytmigcglcacpboaadoor", sum := "e89bb59e43a1ac2cbbffa7490095e7e6e0fe456356ed4750b4c7fd17a60acfee", func := "loop.example/satchel/laws.FnCodePut", spec := "fnCodePut", inPlace := ["internal/abi.NoEscape", "internal/bytealg.MakeNoZero", "internal/bytealg.IndexByteString", "internal/bytealg.IndexString"], unfollowed := true, recurses := true, named := ["loop.example/satchel/impl.figures", "unicode/utf8.first", "unicode/utf8.acceptRanges", "internal/bytealg.MaxLen"], apart := false, laid := [("unicode/utf8.acceptRanges", laid_unicode_utf8_acceptRanges), ("loop.example/satchel/impl.figures", laid_loop_example_satchel_impl_figures), ("unicode/utf8.first", laid_unicode_utf8_first)] }
def FnCodePutSaid : Prop := fnCodePutRow.holds Tryd.pinned (OpenSpec.ofChange fnCodePutSpec)

/-- ITS FALSE NEIGHBOUR: 'it returns false'. Refute it at one input. -/
def fnCodePutWrong : ChangeSpec := { name := "fnCodePut", vars := ["loop.example/satchel/impl.figures"], fn := fun _ => fun
  | [d, g1] => { results := [.lit (.bool false)], args := [d], vars := [g1] }
  | _ => none }
def FnCodePutWrongFalsely : Prop := fnCodePutRow.holds Tryd.pinned (OpenSpec.ofChange fnCodePutWrong)

/-- 'laws.FnCodeGet': WHATEVER THE INPUT: true; the input reads as it did. -/
def fnCodeGetSpec : ChangeSpec := { name := "fnCodeGet", vars := ["loop.example/satchel/impl.figures"], fn := fun _ => fun
  | [d, g1] => { results := [.lit (.bool true)], args := [d], vars := [g1] }
  | _ => none }
def fnCodeGetRow : OpenClaim := { program := "ytmigcglcacpboaadoor", sum := "e89bb59e43a1ac2cbbffa7490095e7e6e0fe456356ed4750b4c7fd17a60acfee", func := "loop.example/satchel/laws.FnCodeGet", spec := "fnCodeGet", inPlace := ["internal/bytealg.IndexByteString", "internal/bytealg.IndexString", "internal/abi.NoEscape", "internal/bytealg.MakeNoZero"], unfollowed := true, recurses := true, named := ["loop.example/satchel/impl.figures", "unicode/utf8.first", "unicode/utf8.acceptRanges", "internal/bytealg.MaxLen"], apart := false, laid := [("unicode/utf8.acceptRanges", laid_unicode_utf8_acceptRanges), ("loop.example/satchel/impl.figures", laid_loop_example_satchel_impl_figures), ("unicode/utf8.first", laid_unicode_utf8_first)] }
def FnCodeGetSaid : Prop := fnCodeGetRow.holds Tryd.pinned (OpenSpec.ofChange fnCodeGetSpec)

/-- ITS FALSE NEIGHBOUR: 'it returns false'. Refute it at one input. -/
def fnCodeGetWrong : ChangeSpec := { name := "fnCodeGet", vars := ["loop.example/satchel/impl.figures"], fn := fun _ => fun
  | [d, g1] => { results := [.lit (.bool false)], args := [d], vars := [g1] }
  | _ => none }
def FnCodeGetWrongFalsely : Prop := fnCodeGetRow.holds Tryd.pinned (OpenSpec.ofChange fnCodeGetWrong)

/-- 'laws.FnLinesPut': WHATEVER THE INPUT: true; the input reads as it did. -/
def fnLinesPutSpec : ChangeSpec := { name := "fnLinesPut", vars := ["loop.example/satchel/impl.figures"], fn := fun _ => fun
  | [d, g1] => { results := [.lit (.bool true)], args := [d], vars := [g1] }
  | _ => none }
def fnLinesPutRow : OpenClaim := { program := "ytmigcglcacpboaadoor", sum := "e89bb59e43a1ac2cbbffa7490095e7e6e0fe456356ed4750b4c7fd17a60acfee", func := "loop.example/satchel/laws.FnLinesPut", spec := "fnLinesPut", inPlace := ["internal/abi.NoEscape", "internal/bytealg.MakeNoZero", "internal/bytealg.IndexByteString", "internal/bytealg.IndexString", "internal/bytealg.CountString"], unfollowed := true, recurses := true, named := ["loop.example/satchel/impl.figures", "unicode/utf8.first", "unicode/utf8.acceptRanges", "internal/bytealg.MaxLen"], apart := false, laid := [("unicode/utf8.acceptRanges", laid_unicode_utf8_acceptRanges), ("loop.example/satchel/impl.figures", laid_loop_example_satchel_impl_figures), ("unicode/utf8.first", laid_unicode_utf8_first)] }
def FnLinesPutSaid : Prop := fnLinesPutRow.holds Tryd.pinned (OpenSpec.ofChange fnLinesPutSpec)

/-- ITS FALSE NEIGHBOUR: 'it returns false'. Refute it at one input. -/
def fnLinesPutWrong : ChangeSpec := { name := "fnLinesPut", vars := ["loop.example/satchel/impl.figures"], fn := fun _ => fun
  | [d, g1] => { results := [.lit (.bool false)], args := [d], vars := [g1] }
  | _ => none }
def FnLinesPutWrongFalsely : Prop := fnLinesPutRow.holds Tryd.pinned (OpenSpec.ofChange fnLinesPutWrong)

/-- 'laws.FnLinesGet': WHATEVER THE INPUT: true; the input reads as it did. -/
def fnLinesGetSpec : ChangeSpec := { name := "fnLinesGet", vars := ["loop.example/satchel/impl.figures"], fn := fun _ => fun
  | [d, g1] => { results := [.lit (.bool true)], args := [d], vars := [g1] }
  | _ => none }
def fnLinesGetRow : OpenClaim := { program := "ytmigcglcacpboaadoor", sum := "e89bb59e43a1ac2cbbffa7490095e7e6e0fe456356ed4750b4c7fd17a60acfee", func := "loop.example/satchel/laws.FnLinesGet", spec := "fnLinesGet", inPlace := ["internal/abi.NoEscape", "internal/bytealg.MakeNoZero", "internal/bytealg.IndexByteString", "internal/bytealg.IndexString"], unfollowed := true, recurses := true, named := ["loop.example/satchel/impl.figures", "unicode/utf8.first", "unicode/utf8.acceptRanges", "internal/bytealg.MaxLen"], apart := false, laid := [("unicode/utf8.acceptRanges", laid_unicode_utf8_acceptRanges), ("loop.example/satchel/impl.figures", laid_loop_example_satchel_impl_figures), ("unicode/utf8.first", laid_unicode_utf8_first)] }
def FnLinesGetSaid : Prop := fnLinesGetRow.holds Tryd.pinned (OpenSpec.ofChange fnLinesGetSpec)

/-- ITS FALSE NEIGHBOUR: 'it returns false'. Refute it at one input. -/
def fnLinesGetWrong : ChangeSpec := { name := "fnLinesGet", vars := ["loop.example/satchel/impl.figures"], fn := fun _ => fun
  | [d, g1] => { results := [.lit (.bool false)], args := [d], vars := [g1] }
  | _ => none }
def FnLinesGetWrongFalsely : Prop := fnLinesGetRow.holds Tryd.pinned (OpenSpec.ofChange fnLinesGetWrong)

/-- 'laws.FnExactCodePut': WHATEVER THE INPUT: true; the input reads as it did. -/
def fnExactCodePutSpec : ChangeSpec := { name := "fnExactCodePut", vars := ["loop.example/satchel/impl.figures"], fn := fun _ => fun
  | [d, g1] => { results := [.lit (.bool true)], args := [d], vars := [g1] }
  | _ => none }
def fnExactCodePutRow : OpenClaim := { program := "ytmigcglcacpboaadoor", sum := "e89bb59e43a1ac2cbbffa7490095e7e6e0fe456356ed4750b4c7fd17a60acfee", func := "loop.example/satchel/laws.FnExactCodePut", spec := "fnExactCodePut", inPlace := ["internal/abi.NoEscape", "internal/bytealg.MakeNoZero"], unfollowed := true, recurses := true, named := ["loop.example/satchel/impl.figures"], apart := false, laid := [("loop.example/satchel/impl.figures", laid_loop_example_satchel_impl_figures)] }
def FnExactCodePutSaid : Prop := fnExactCodePutRow.holds Tryd.pinned (OpenSpec.ofChange fnExactCodePutSpec)

/-- ITS FALSE NEIGHBOUR: 'it returns false'. Refute it at one input. -/
def fnExactCodePutWrong : ChangeSpec := { name := "fnExactCodePut", vars := ["loop.example/satchel/impl.figures"], fn := fun _ => fun
  | [d, g1] => { results := [.lit (.bool false)], args := [d], vars := [g1] }
  | _ => none }
def FnExactCodePutWrongFalsely : Prop := fnExactCodePutRow.holds Tryd.pinned (OpenSpec.ofChange fnExactCodePutWrong)

/-- 'laws.FnExactCodeGet': WHATEVER THE INPUT: true; the input reads as it did. -/
def fnExactCodeGetSpec : ChangeSpec := { name := "fnExactCodeGet", vars := ["loop.example/satchel/impl.figures"], fn := fun _ => fun
  | [d, g1] => { results := [.lit (.bool true)], args := [d], vars := [g1] }
  | _ => none }
def fnExactCodeGetRow : OpenClaim := { program := "ytmigcglcacpboaadoor", sum := "e89bb59e43a1ac2cbbffa7490095e7e6e0fe456356ed4750b4c7fd17a60acfee", func := "loop.example/satchel/laws.FnExactCodeGet", spec := "fnExactCodeGet", inPlace := ["internal/bytealg.IndexByteString", "internal/bytealg.IndexString", "internal/abi.NoEscape", "internal/bytealg.MakeNoZero"], unfollowed := true, recurses := true, named := ["loop.example/satchel/impl.figures", "unicode/utf8.first", "unicode/utf8.acceptRanges", "internal/bytealg.MaxLen"], apart := false, laid := [("unicode/utf8.acceptRanges", laid_unicode_utf8_acceptRanges), ("loop.example/satchel/impl.figures", laid_loop_example_satchel_impl_figures), ("unicode/utf8.first", laid_unicode_utf8_first)] }
def FnExactCodeGetSaid : Prop := fnExactCodeGetRow.holds Tryd.pinned (OpenSpec.ofChange fnExactCodeGetSpec)

/-- ITS FALSE NEIGHBOUR: 'it returns false'. Refute it at one input. -/
def fnExactCodeGetWrong : ChangeSpec := { name := "fnExactCodeGet", vars := ["loop.example/satchel/impl.figures"], fn := fun _ => fun
  | [d, g1] => { results := [.lit (.bool false)], args := [d], vars := [g1] }
  | _ => none }
def FnExactCodeGetWrongFalsely : Prop := fnExactCodeGetRow.holds Tryd.pinned (OpenSpec.ofChange fnExactCodeGetWrong)

/-- 'laws.FnExactLinesPut': WHATEVER THE INPUT: true; the input reads as it did. -/
def fnExactLinesPutSpec : ChangeSpec := { name := "fnExactLinesPut", vars := ["loop.example/satchel/impl.figures"], fn := fun _ => fun
  | [d, g1] => { results := [.lit (.bool true)], args := [d], vars := [g1] }
  | _ => none }
def fnExactLinesPutRow : OpenClaim := { program := "ytmigcglcacpboaadoor", sum := "e89bb59e43a1ac2cbbffa7490095e7e6e0fe456356ed4750b4c7fd17a60acfee", func := "loop.example/satchel/laws.FnExactLinesPut", spec := "fnExactLinesPut", inPlace := ["internal/abi.NoEscape", "internal/bytealg.MakeNoZero"], unfollowed := true, recurses := true, named := ["loop.example/satchel/impl.figures"], apart := false, laid := [("loop.example/satchel/impl.figures", laid_loop_example_satchel_impl_figures)] }
def FnExactLinesPutSaid : Prop := fnExactLinesPutRow.holds Tryd.pinned (OpenSpec.ofChange fnExactLinesPutSpec)

/-- ITS FALSE NEIGHBOUR: 'it returns false'. Refute it at one input. -/
def fnExactLinesPutWrong : ChangeSpec := { name := "fnExactLinesPut", vars := ["loop.example/satchel/impl.figures"], fn := fun _ => fun
  | [d, g1] => { results := [.lit (.bool false)], args := [d], vars := [g1] }
  | _ => none }
def FnExactLinesPutWrongFalsely : Prop := fnExactLinesPutRow.holds Tryd.pinned (OpenSpec.ofChange fnExactLinesPutWrong)

/-- 'laws.FnExactLinesGet': WHATEVER THE INPUT: true; the input reads as it did. -/
def fnExactLinesGetSpec : ChangeSpec := { name := "fnExactLinesGet", vars := ["loop.example/satchel/impl.figures"], fn := fun _ => fun
  | [d, g1] => { results := [.lit (.bool true)], args := [d], vars := [g1] }
  | _ => none }
def fnExactLinesGetRow : OpenClaim := { program := "ytmigcglcacpboaadoor", sum := "e89bb59e43a1ac2cbbffa7490095e7e6e0fe456356ed4750b4c7fd17a60acfee", func := "loop.example/satchel/laws.FnExactLinesGet", spec := "fnExactLinesGet", inPlace := ["internal/abi.NoEscape", "internal/bytealg.MakeNoZero", "internal/bytealg.IndexByteString", "internal/bytealg.IndexString"], unfollowed := true, recurses := true, named := ["loop.example/satchel/impl.figures", "unicode/utf8.first", "unicode/utf8.acceptRanges", "internal/bytealg.MaxLen"], apart := false, laid := [("unicode/utf8.acceptRanges", laid_unicode_utf8_acceptRanges), ("loop.example/satchel/impl.figures", laid_loop_example_satchel_impl_figures), ("unicode/utf8.first", laid_unicode_utf8_first)] }
def FnExactLinesGetSaid : Prop := fnExactLinesGetRow.holds Tryd.pinned (OpenSpec.ofChange fnExactLinesGetSpec)

/-- ITS FALSE NEIGHBOUR: 'it returns false'. Refute it at one input. -/
def fnExactLinesGetWrong : ChangeSpec := { name := "fnExactLinesGet", vars := ["loop.example/satchel/impl.figures"], fn := fun _ => fun
  | [d, g1] => { results := [.lit (.bool false)], args := [d], vars := [g1] }
  | _ => none }
def FnExactLinesGetWrongFalsely : Prop := fnExactLinesGetRow.holds Tryd.pinned (OpenSpec.ofChange fnExactLinesGetWrong)

/- THE SECOND FORM. 'bulk': how many values and letters a reading holds, each counted each time it is reached (what is shared counts as often as it is met; a slice's spare places count too). A statement '..UptoSaid' is the law's where the arguments, and the package variables that the reading takes, are together of bulk at most 1048576: NARROWER than '..Said'. Prove '..Said' where nothing that the law and all that it calls make is longer than what came in: it says more and counts as full. Else prove '..UptoSaid'. A law counts once. -/
mutual
def uptoBulk {H : Type} : DataW H → Nat
  | .lit (.string bytes) => bytes.length + 1
  | .lit _ => 1
  | .nil => 1
  | .ptr d => uptoBulk d + 1
  | .slice elems spare => uptoBulkAll elems + uptoBulkAll spare + 1
  | .agg parts => uptoBulkAll parts + 1
  | .iface _ d => uptoBulk d + 1
  | .map entries => uptoBulkEntries entries + 1
  | .held _ => 1
def uptoBulkAll {H : Type} : List (DataW H) → Nat
  | [] => 0
  | d :: r => uptoBulk d + uptoBulkAll r
def uptoBulkEntries {H : Type} : List (Lit × DataW H) → Nat
  | [] => 0
  | x :: r => uptoBulkEntry x + uptoBulkEntries r
def uptoBulkEntry {H : Type} : Lit × DataW H → Nat
  | (.string bytes, d) => bytes.length + uptoBulk d + 1
  | (_, d) => uptoBulk d + 1
 end
def uptoSmall : (H : Type) → List (DataW H) → Bool := fun _ ds => decide (uptoBulkAll ds ≤ 1048576)
def OpenSpec.upto (s : _root_.Go.ChangeSpec) : _root_.Go.OpenSpec := { _root_.Go.OpenSpec.ofChange s with cond := some uptoSmall }

/-- 'laws.FnCodePut', WHERE WHAT IT READS IS OF BULK AT MOST 1048576: true; the input reads as it did. -/
def fnCodePutUptoRow : OpenClaim := { program := "ytmigcglcacpboaadoor", sum := "e89bb59e43a1ac2cbbffa7490095e7e6e0fe456356ed4750b4c7fd17a60acfee", func := "loop.example/satchel/laws.FnCodePut", spec := "fnCodePut", inPlace := ["internal/abi.NoEscape", "internal/bytealg.MakeNoZero", "internal/bytealg.IndexByteString", "internal/bytealg.IndexString"], unfollowed := true, recurses := true, named := ["loop.example/satchel/impl.figures", "unicode/utf8.first", "unicode/utf8.acceptRanges", "internal/bytealg.MaxLen"], apart := false, laid := [("unicode/utf8.acceptRanges", laid_unicode_utf8_acceptRanges), ("loop.example/satchel/impl.figures", laid_loop_example_satchel_impl_figures), ("unicode/utf8.first", laid_unicode_utf8_first)], narrowed := true }
def FnCodePutUptoSaid : Prop := fnCodePutUptoRow.holds Tryd.pinned (OpenSpec.upto fnCodePutSpec)

/-- 'laws.FnCodeGet', WHERE WHAT IT READS IS OF BULK AT MOST 1048576: true; the input reads as it did. -/
def fnCodeGetUptoRow : OpenClaim := { program := "ytmigcglcacpboaadoor", sum := "e89bb59e43a1ac2cbbffa7490095e7e6e0fe456356ed4750b4c7fd17a60acfee", func := "loop.example/satchel/laws.FnCodeGet", spec := "fnCodeGet", inPlace := ["internal/bytealg.IndexByteString", "internal/bytealg.IndexString", "internal/abi.NoEscape", "internal/bytealg.MakeNoZero"], unfollowed := true, recurses := true, named := ["loop.example/satchel/impl.figures", "unicode/utf8.first", "unicode/utf8.acceptRanges", "internal/bytealg.MaxLen"], apart := false, laid := [("unicode/utf8.acceptRanges", laid_unicode_utf8_acceptRanges), ("loop.example/satchel/impl.figures", laid_loop_example_satchel_impl_figures), ("unicode/utf8.first", laid_unicode_utf8_first)], narrowed := true }
def FnCodeGetUptoSaid : Prop := fnCodeGetUptoRow.holds Tryd.pinned (OpenSpec.upto fnCodeGetSpec)

/-- 'laws.FnLinesPut', WHERE WHAT IT READS IS OF BULK AT MOST 1048576: true; the input reads as it did. -/
def fnLinesPutUptoRow : OpenClaim := { program := "ytmigcglcacpboaadoor", sum := "e89bb59e43a1ac2cbbffa7490095e7e6e0fe456356ed4750b4c7fd17a60acfee", func := "loop.example/satchel/laws.FnLinesPut", spec := "fnLinesPut", inPlace := ["internal/abi.NoEscape", "internal/bytealg.MakeNoZero", "internal/bytealg.IndexByteString", "internal/bytealg.IndexString", "internal/bytealg.CountString"], unfollowed := true, recurses := true, named := ["loop.example/satchel/impl.figures", "unicode/utf8.first", "unicode/utf8.acceptRanges", "internal/bytealg.MaxLen"], apart := false, laid := [("unicode/utf8.acceptRanges", laid_unicode_utf8_acceptRanges), ("loop.example/satchel/impl.figures", laid_loop_example_satchel_impl_figures), ("unicode/utf8.first", laid_unicode_utf8_first)], narrowed := true }
def FnLinesPutUptoSaid : Prop := fnLinesPutUptoRow.holds Tryd.pinned (OpenSpec.upto fnLinesPutSpec)

/-- 'laws.FnLinesGet', WHERE WHAT IT READS IS OF BULK AT MOST 1048576: true; the input reads as it did. -/
def fnLinesGetUptoRow : OpenClaim := { program := "ytmigcglcacpboaadoor", sum := "e89bb59e43a1ac2cbbffa7490095e7e6e0fe456356ed4750b4c7fd17a60acfee", func := "loop.example/satchel/laws.FnLinesGet", spec := "fnLinesGet", inPlace := ["internal/abi.NoEscape", "internal/bytealg.MakeNoZero", "internal/bytealg.IndexByteString", "internal/bytealg.IndexString"], unfollowed := true, recurses := true, named := ["loop.example/satchel/impl.figures", "unicode/utf8.first", "unicode/utf8.acceptRanges", "internal/bytealg.MaxLen"], apart := false, laid := [("unicode/utf8.acceptRanges", laid_unicode_utf8_acceptRanges), ("loop.example/satchel/impl.figures", laid_loop_example_satchel_impl_figures), ("unicode/utf8.first", laid_unicode_utf8_first)], narrowed := true }
def FnLinesGetUptoSaid : Prop := fnLinesGetUptoRow.holds Tryd.pinned (OpenSpec.upto fnLinesGetSpec)

/-- 'laws.FnExactCodePut', WHERE WHAT IT READS IS OF BULK AT MOST 1048576: true; the input reads as it did. -/
def fnExactCodePutUptoRow : OpenClaim := { program := "ytmigcglcacpboaadoor", sum := "e89bb59e43a1ac2cbbffa7490095e7e6e0fe456356ed4750b4c7fd17a60acfee", func := "loop.example/satchel/laws.FnExactCodePut", spec := "fnExactCodePut", inPlace := ["internal/abi.NoEscape", "internal/bytealg.MakeNoZero"], unfollowed := true, recurses := true, named := ["loop.example/satchel/impl.figures"], apart := false, laid := [("loop.example/satchel/impl.figures", laid_loop_example_satchel_impl_figures)], narrowed := true }
def FnExactCodePutUptoSaid : Prop := fnExactCodePutUptoRow.holds Tryd.pinned (OpenSpec.upto fnExactCodePutSpec)

/-- 'laws.FnExactCodeGet', WHERE WHAT IT READS IS OF BULK AT MOST 1048576: true; the input reads as it did. -/
def fnExactCodeGetUptoRow : OpenClaim := { program := "ytmigcglcacpboaadoor", sum := "e89bb59e43a1ac2cbbffa7490095e7e6e0fe456356ed4750b4c7fd17a60acfee", func := "loop.example/satchel/laws.FnExactCodeGet", spec := "fnExactCodeGet", inPlace := ["internal/bytealg.IndexByteString", "internal/bytealg.IndexString", "internal/abi.NoEscape", "internal/bytealg.MakeNoZero"], unfollowed := true, recurses := true, named := ["loop.example/satchel/impl.figures", "unicode/utf8.first", "unicode/utf8.acceptRanges", "internal/bytealg.MaxLen"], apart := false, laid := [("unicode/utf8.acceptRanges", laid_unicode_utf8_acceptRanges), ("loop.example/satchel/impl.figures", laid_loop_example_satchel_impl_figures), ("unicode/utf8.first", laid_unicode_utf8_first)], narrowed := true }
def FnExactCodeGetUptoSaid : Prop := fnExactCodeGetUptoRow.holds Tryd.pinned (OpenSpec.upto fnExactCodeGetSpec)

/-- 'laws.FnExactLinesPut', WHERE WHAT IT READS IS OF BULK AT MOST 1048576: true; the input reads as it did. -/
def fnExactLinesPutUptoRow : OpenClaim := { program := "ytmigcglcacpboaadoor", sum := "e89bb59e43a1ac2cbbffa7490095e7e6e0fe456356ed4750b4c7fd17a60acfee", func := "loop.example/satchel/laws.FnExactLinesPut", spec := "fnExactLinesPut", inPlace := ["internal/abi.NoEscape", "internal/bytealg.MakeNoZero"], unfollowed := true, recurses := true, named := ["loop.example/satchel/impl.figures"], apart := false, laid := [("loop.example/satchel/impl.figures", laid_loop_example_satchel_impl_figures)], narrowed := true }
def FnExactLinesPutUptoSaid : Prop := fnExactLinesPutUptoRow.holds Tryd.pinned (OpenSpec.upto fnExactLinesPutSpec)

/-- 'laws.FnExactLinesGet', WHERE WHAT IT READS IS OF BULK AT MOST 1048576: true; the input reads as it did. -/
def fnExactLinesGetUptoRow : OpenClaim := { program := "ytmigcglcacpboaadoor", sum := "e89bb59e43a1ac2cbbffa7490095e7e6e0fe456356ed4750b4c7fd17a60acfee", func := "loop.example/satchel/laws.FnExactLinesGet", spec := "fnExactLinesGet", inPlace := ["internal/abi.NoEscape", "internal/bytealg.MakeNoZero", "internal/bytealg.IndexByteString", "internal/bytealg.IndexString"], unfollowed := true, recurses := true, named := ["loop.example/satchel/impl.figures", "unicode/utf8.first", "unicode/utf8.acceptRanges", "internal/bytealg.MaxLen"], apart := false, laid := [("unicode/utf8.acceptRanges", laid_unicode_utf8_acceptRanges), ("loop.example/satchel/impl.figures", laid_loop_example_satchel_impl_figures), ("unicode/utf8.first", laid_unicode_utf8_first)], narrowed := true }
def FnExactLinesGetUptoSaid : Prop := fnExactLinesGetUptoRow.holds Tryd.pinned (OpenSpec.upto fnExactLinesGetSpec)

end Rows
end Go.Proofs.YtmigcglcacpboaaDoor
