/-
  No cell of these rows narrows 'for every input' (looked for: loops, veiled, ifaces, maps, wideKeys, modest, calm, conditions, laid).
  DERIVED. THE GIVEN ROWS OF THIS SEAT. 6 by the template 'for every input the law returns true; each argument reads behind the call as it read before'; 0 by the template 'total and deterministic' (their statements: YtaobhhjdkdoceaaTotals.lean).
  GIVEN WITH THE SEED: the statements are not yours to turn. If you find one false, say at which input.
  Laid BY PROGRAM, IN A SANDBOX (cutbox-rows.mjs): the forced cells as the released guide's own fill.sh prints them over the translation c7333e0db3520a9b… (all of the seat's roots in one cut). By AI agents, Wed Nov 11 2026. No macro, syntax, notation, axiom, sorry.
-/
import Derived.Test.YtaobhhjdkdoceaaChecked
import GoSem.Claim
import GoSem.ClaimJoined
import GoSem.ClaimMapViews
import Derived.JoinedTies
import Derived.KernelRfl
namespace Go.Proofs.Ytaobhhjdkdoceaa
/- THE CELL 'sum', in the pinned program and in every row, IS THE sha256 OF THE DUMP (.gsa) THAT YtaobhhjdkdoceaaProg.lean LOADS. Nothing in Lean hashes anything: it is a label: what it is worth is what the hold of that sum in a sandbox is worth. -/
noncomputable def Try.pinned : Pinned := { name := "ytaobhhjdkdoceaa", sum := "c7333e0db3520a9b38b514a2b96ecdf4fbba195583cdd7c795ff323c7ce54e81", checked := Try.checked }
namespace Rows
def none {H : Type} : Left H := { results := [], args := [] }

/-- 'laws.FnDotPut': WHATEVER THE INPUT: true; the input reads as it did. -/
def fnDotPutSpec : ChangeSpec := { name := "fnDotPut", fn := fun _ => fun
  | [d] => { results := [.lit (.bool true)], args := [d] }
  | _ => none }
def fnDotPutRow : OpenClaim := { program := "ytaobhhjdkdoceaa", sum := "c7333e0db3520a9b38b514a2b96ecdf4fbba195583cdd7c795ff323c7ce54e81", func := "loop.example/satchel/laws.FnDotPut", spec := "fnDotPut", inPlace := ["internal/abi.NoEscape", "internal/bytealg.IndexByteString", "internal/bytealg.IndexString"], unfollowed := true, recurses := true, named := ["internal/bytealg.MaxLen"], apart := false }
def FnDotPutSaid : Prop := fnDotPutRow.holds Try.pinned (OpenSpec.ofChange fnDotPutSpec)

/-- ITS FALSE NEIGHBOUR: 'it returns false'. Refute it at one input. -/
def fnDotPutWrong : ChangeSpec := { name := "fnDotPut", fn := fun _ => fun
  | [d] => { results := [.lit (.bool false)], args := [d] }
  | _ => none }
def FnDotPutWrongFalsely : Prop := fnDotPutRow.holds Try.pinned (OpenSpec.ofChange fnDotPutWrong)

/-- 'laws.FnDotGet': WHATEVER THE INPUT: true; the input reads as it did. -/
def fnDotGetSpec : ChangeSpec := { name := "fnDotGet", fn := fun _ => fun
  | [d] => { results := [.lit (.bool true)], args := [d] }
  | _ => none }
def fnDotGetRow : OpenClaim := { program := "ytaobhhjdkdoceaa", sum := "c7333e0db3520a9b38b514a2b96ecdf4fbba195583cdd7c795ff323c7ce54e81", func := "loop.example/satchel/laws.FnDotGet", spec := "fnDotGet", inPlace := ["internal/bytealg.IndexByteString", "internal/bytealg.IndexString", "internal/abi.NoEscape"], unfollowed := true, recurses := true, named := ["internal/bytealg.MaxLen"], apart := false }
def FnDotGetSaid : Prop := fnDotGetRow.holds Try.pinned (OpenSpec.ofChange fnDotGetSpec)

/-- ITS FALSE NEIGHBOUR: 'it returns false'. Refute it at one input. -/
def fnDotGetWrong : ChangeSpec := { name := "fnDotGet", fn := fun _ => fun
  | [d] => { results := [.lit (.bool false)], args := [d] }
  | _ => none }
def FnDotGetWrongFalsely : Prop := fnDotGetRow.holds Try.pinned (OpenSpec.ofChange fnDotGetWrong)

/-- 'laws.FnLines': WHATEVER THE INPUT: true; the input reads as it did. -/
def fnLinesSpec : ChangeSpec := { name := "fnLines", fn := fun _ => fun
  | [d1, d2] => { results := [.lit (.bool true)], args := [d1, d2] }
  | _ => none }
def fnLinesRow : OpenClaim := { program := "ytaobhhjdkdoceaa", sum := "c7333e0db3520a9b38b514a2b96ecdf4fbba195583cdd7c795ff323c7ce54e81", func := "loop.example/satchel/laws.FnLines", spec := "fnLines", inPlace := ["internal/bytealg.IndexByteString", "internal/bytealg.IndexString"], unfollowed := true, recurses := true, named := ["internal/bytealg.MaxLen"], apart := false }
def FnLinesSaid : Prop := fnLinesRow.holds Try.pinned (OpenSpec.ofChange fnLinesSpec)

/-- ITS FALSE NEIGHBOUR: 'it returns false'. Refute it at one input. -/
def fnLinesWrong : ChangeSpec := { name := "fnLines", fn := fun _ => fun
  | [d1, d2] => { results := [.lit (.bool false)], args := [d1, d2] }
  | _ => none }
def FnLinesWrongFalsely : Prop := fnLinesRow.holds Try.pinned (OpenSpec.ofChange fnLinesWrong)

/-- 'laws.FnExactDotPut': WHATEVER THE INPUT: true; the input reads as it did. -/
def fnExactDotPutSpec : ChangeSpec := { name := "fnExactDotPut", fn := fun _ => fun
  | [d] => { results := [.lit (.bool true)], args := [d] }
  | _ => none }
def fnExactDotPutRow : OpenClaim := { program := "ytaobhhjdkdoceaa", sum := "c7333e0db3520a9b38b514a2b96ecdf4fbba195583cdd7c795ff323c7ce54e81", func := "loop.example/satchel/laws.FnExactDotPut", spec := "fnExactDotPut", inPlace := ["internal/abi.NoEscape"], apart := false }
def FnExactDotPutSaid : Prop := fnExactDotPutRow.holds Try.pinned (OpenSpec.ofChange fnExactDotPutSpec)

/-- ITS FALSE NEIGHBOUR: 'it returns false'. Refute it at one input. -/
def fnExactDotPutWrong : ChangeSpec := { name := "fnExactDotPut", fn := fun _ => fun
  | [d] => { results := [.lit (.bool false)], args := [d] }
  | _ => none }
def FnExactDotPutWrongFalsely : Prop := fnExactDotPutRow.holds Try.pinned (OpenSpec.ofChange fnExactDotPutWrong)

/-- 'laws.FnExactLinesOf': WHATEVER THE INPUT: true; the input reads as it did. -/
def fnExactLinesOfSpec : ChangeSpec := { name := "fnExactLinesOf", fn := fun _ => fun
  | [d] => { results := [.lit (.bool true)], args := [d] }
  | _ => none }
def fnExactLinesOfRow : OpenClaim := { program := "ytaobhhjdkdoceaa", sum := "c7333e0db3520a9b38b514a2b96ecdf4fbba195583cdd7c795ff323c7ce54e81", func := "loop.example/satchel/laws.FnExactLinesOf", spec := "fnExactLinesOf", inPlace := ["internal/bytealg.IndexByteString", "internal/bytealg.IndexString"], unfollowed := true, recurses := true, named := ["internal/bytealg.MaxLen"], apart := false }
def FnExactLinesOfSaid : Prop := fnExactLinesOfRow.holds Try.pinned (OpenSpec.ofChange fnExactLinesOfSpec)

/-- ITS FALSE NEIGHBOUR: 'it returns false'. Refute it at one input. -/
def fnExactLinesOfWrong : ChangeSpec := { name := "fnExactLinesOf", fn := fun _ => fun
  | [d] => { results := [.lit (.bool false)], args := [d] }
  | _ => none }
def FnExactLinesOfWrongFalsely : Prop := fnExactLinesOfRow.holds Try.pinned (OpenSpec.ofChange fnExactLinesOfWrong)

/-- 'laws.FnExactDotGet': WHATEVER THE INPUT: true; the input reads as it did. -/
def fnExactDotGetSpec : ChangeSpec := { name := "fnExactDotGet", fn := fun _ => fun
  | [d] => { results := [.lit (.bool true)], args := [d] }
  | _ => none }
def fnExactDotGetRow : OpenClaim := { program := "ytaobhhjdkdoceaa", sum := "c7333e0db3520a9b38b514a2b96ecdf4fbba195583cdd7c795ff323c7ce54e81", func := "loop.example/satchel/laws.FnExactDotGet", spec := "fnExactDotGet", inPlace := ["internal/bytealg.IndexByteString", "internal/bytealg.IndexString"], unfollowed := true, recurses := true, named := ["internal/bytealg.MaxLen"], apart := false }
def FnExactDotGetSaid : Prop := fnExactDotGetRow.holds Try.pinned (OpenSpec.ofChange fnExactDotGetSpec)

/-- ITS FALSE NEIGHBOUR: 'it returns false'. Refute it at one input. -/
def fnExactDotGetWrong : ChangeSpec := { name := "fnExactDotGet", fn := fun _ => fun
  | [d] => { results := [.lit (.bool false)], args := [d] }
  | _ => none }
def FnExactDotGetWrongFalsely : Prop := fnExactDotGetRow.holds Try.pinned (OpenSpec.ofChange fnExactDotGetWrong)

/- THE SECOND FORM. 'bulk': how many values and letters a reading holds, each counted each time it is reached (what is shared counts as often as it is met; a slice's spare places count too). A statement '..UptoSaid' is the law's where the arguments, and the package variables that the reading takes, are together of bulk at most 1048576: NARROWER than '..Said'. Prove '..Said' where nothing that the law and all that it calls make is longer than what came in: it says more and counts as full. Else prove '..UptoSaid'. A law counts once. -/
mutual
def uptoBulk {H : Type} : DataW H → Nat
  | .lit (.string bytes) => bytes.length + 1
  | .lit _ => 1
  | .nil => 1
  | .ptr d => uptoBulk d + 1
  | .slice elems spare => uptoBulkAll elems + uptoBulkAll spare + 1
  | .agg parts => uptoBulkAll parts + 1
  | .iface _ d => uptoBulk d + 1
  | .map entries => uptoBulkEntries entries + 1
  | .held _ => 1
def uptoBulkAll {H : Type} : List (DataW H) → Nat
  | [] => 0
  | d :: r => uptoBulk d + uptoBulkAll r
def uptoBulkEntries {H : Type} : List (Lit × DataW H) → Nat
  | [] => 0
  | x :: r => uptoBulkEntry x + uptoBulkEntries r
def uptoBulkEntry {H : Type} : Lit × DataW H → Nat
  | (.string bytes, d) => bytes.length + uptoBulk d + 1
  | (_, d) => uptoBulk d + 1
 end
def uptoSmall : (H : Type) → List (DataW H) → Bool := fun _ ds => decide (uptoBulkAll ds ≤ 1048576)
def OpenSpec.upto (s : _root_.Go.ChangeSpec) : _root_.Go.OpenSpec := { _root_.Go.OpenSpec.ofChange s with cond := some uptoSmall }

/-- 'laws.FnDotPut', WHERE WHAT IT READS IS OF BULK AT MOST 1048576: true; the input reads as it did. -/
def fnDotPutUptoRow : OpenClaim := { program := "ytaobhhjdkdoceaa", sum := "c7333e0db3520a9b38b514a2b96ecdf4fbba195583cdd7c795ff323c7ce54e81", func := "loop.example/satchel/laws.FnDotPut", spec := "fnDotPut", inPlace := ["internal/abi.NoEscape", "internal/bytealg.IndexByteString", "internal/bytealg.IndexString"], unfollowed := true, recurses := true, named := ["internal/bytealg.MaxLen"], apart := false, narrowed := true }
def FnDotPutUptoSaid : Prop := fnDotPutUptoRow.holds Try.pinned (OpenSpec.upto fnDotPutSpec)

/-- 'laws.FnDotGet', WHERE WHAT IT READS IS OF BULK AT MOST 1048576: true; the input reads as it did. -/
def fnDotGetUptoRow : OpenClaim := { program := "ytaobhhjdkdoceaa", sum := "c7333e0db3520a9b38b514a2b96ecdf4fbba195583cdd7c795ff323c7ce54e81", func := "loop.example/satchel/laws.FnDotGet", spec := "fnDotGet", inPlace := ["internal/bytealg.IndexByteString", "internal/bytealg.IndexString", "internal/abi.NoEscape"], unfollowed := true, recurses := true, named := ["internal/bytealg.MaxLen"], apart := false, narrowed := true }
def FnDotGetUptoSaid : Prop := fnDotGetUptoRow.holds Try.pinned (OpenSpec.upto fnDotGetSpec)

/-- 'laws.FnLines', WHERE WHAT IT READS IS OF BULK AT MOST 1048576: true; the input reads as it did. -/
def fnLinesUptoRow : OpenClaim := { program := "ytaobhhjdkdoceaa", sum := "c7333e0db3520a9b38b514a2b96ecdf4fbba195583cdd7c795ff323c7ce54e81", func := "loop.example/satchel/laws.FnLines", spec := "fnLines", inPlace := ["internal/bytealg.IndexByteString", "internal/bytealg.IndexString"], unfollowed := true, recurses := true, named := ["internal/bytealg.MaxLen"], apart := false, narrowed := true }
def FnLinesUptoSaid : Prop := fnLinesUptoRow.holds Try.pinned (OpenSpec.upto fnLinesSpec)

/-- 'laws.FnExactDotPut', WHERE WHAT IT READS IS OF BULK AT MOST 1048576: true; the input reads as it did. -/
def fnExactDotPutUptoRow : OpenClaim := { program := "ytaobhhjdkdoceaa", sum := "c7333e0db3520a9b38b514a2b96ecdf4fbba195583cdd7c795ff323c7ce54e81", func := "loop.example/satchel/laws.FnExactDotPut", spec := "fnExactDotPut", inPlace := ["internal/abi.NoEscape"], apart := false, narrowed := true }
def FnExactDotPutUptoSaid : Prop := fnExactDotPutUptoRow.holds Try.pinned (OpenSpec.upto fnExactDotPutSpec)

/-- 'laws.FnExactLinesOf', WHERE WHAT IT READS IS OF BULK AT MOST 1048576: true; the input reads as it did. -/
def fnExactLinesOfUptoRow : OpenClaim := { program := "ytaobhhjdkdoceaa", sum := "c7333e0db3520a9b38b514a2b96ecdf4fbba195583cdd7c795ff323c7ce54e81", func := "loop.example/satchel/laws.FnExactLinesOf", spec := "fnExactLinesOf", inPlace := ["internal/bytealg.IndexByteString", "internal/bytealg.IndexString"], unfollowed := true, recurses := true, named := ["internal/bytealg.MaxLen"], apart := false, narrowed := true }
def FnExactLinesOfUptoSaid : Prop := fnExactLinesOfUptoRow.holds Try.pinned (OpenSpec.upto fnExactLinesOfSpec)

/-- 'laws.FnExactDotGet', WHERE WHAT IT READS IS OF BULK AT MOST 1048576: true; the input reads as it did. -/
def fnExactDotGetUptoRow : OpenClaim := { program := "ytaobhhjdkdoceaa", sum := "c7333e0db3520a9b38b514a2b96ecdf4fbba195583cdd7c795ff323c7ce54e81", func := "loop.example/satchel/laws.FnExactDotGet", spec := "fnExactDotGet", inPlace := ["internal/bytealg.IndexByteString", "internal/bytealg.IndexString"], unfollowed := true, recurses := true, named := ["internal/bytealg.MaxLen"], apart := false, narrowed := true }
def FnExactDotGetUptoSaid : Prop := fnExactDotGetUptoRow.holds Try.pinned (OpenSpec.upto fnExactDotGetSpec)

end Rows
end Go.Proofs.Ytaobhhjdkdoceaa
