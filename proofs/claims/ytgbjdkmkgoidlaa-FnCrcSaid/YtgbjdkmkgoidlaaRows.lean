/-
  No cell of these rows narrows 'for every input' (looked for: loops, veiled, ifaces, maps, wideKeys, modest, calm, conditions, laid).
  DERIVED. THE GIVEN ROWS OF THIS SEAT. 4 by the template 'for every input the law returns true; each argument reads behind the call as it read before'; 0 by the template 'total and deterministic' (their statements: YtgbjdkmkgoidlaaTotals.lean).
  GIVEN WITH THE SEED: the statements are not yours to turn. If you find one false, say at which input.
  Laid BY PROGRAM, IN A SANDBOX (cutbox-rows.mjs): the forced cells as the released guide's own fill.sh prints them over the translation 393f8ecfe36c9bbe… (all of the seat's roots in one cut). By AI agents, Wed Nov 11 2026. No macro, syntax, notation, axiom, sorry.
-/
import Derived.Test.YtgbjdkmkgoidlaaChecked
import GoSem.Claim
import GoSem.ClaimJoined
import GoSem.ClaimMapViews
import Derived.JoinedTies
import Derived.KernelRfl
namespace Go.Proofs.Ytgbjdkmkgoidlaa
/- THE CELL 'sum', in the pinned program and in every row, IS THE sha256 OF THE DUMP (.gsa) THAT YtgbjdkmkgoidlaaProg.lean LOADS. Nothing in Lean hashes anything: it is a label: what it is worth is what the hold of that sum in a sandbox is worth. -/
noncomputable def Try.pinned : Pinned := { name := "ytgbjdkmkgoidlaa", sum := "393f8ecfe36c9bbe015c1cd8be28a8387c7d4a424fe259ee90464716cd4e6225", checked := Try.checked }
namespace Rows
def none {H : Type} : Left H := { results := [], args := [] }

/-- 'laws.FnSpoolPause': WHATEVER THE INPUT: true; the input reads as it did. -/
def fnSpoolPauseSpec : ChangeSpec := { name := "fnSpoolPause", fn := fun _ => fun
  | [d] => { results := [.lit (.bool true)], args := [d] }
  | _ => none }
def fnSpoolPauseRow : OpenClaim := { program := "ytgbjdkmkgoidlaa", sum := "393f8ecfe36c9bbe015c1cd8be28a8387c7d4a424fe259ee90464716cd4e6225", func := "loop.example/satchel/laws.FnSpoolPause", spec := "fnSpoolPause", apart := false }
def FnSpoolPauseSaid : Prop := fnSpoolPauseRow.holds Try.pinned (OpenSpec.ofChange fnSpoolPauseSpec)

/-- ITS FALSE NEIGHBOUR: 'it returns false'. Refute it at one input. -/
def fnSpoolPauseWrong : ChangeSpec := { name := "fnSpoolPause", fn := fun _ => fun
  | [d] => { results := [.lit (.bool false)], args := [d] }
  | _ => none }
def FnSpoolPauseWrongFalsely : Prop := fnSpoolPauseRow.holds Try.pinned (OpenSpec.ofChange fnSpoolPauseWrong)

/-- 'laws.FnCrc': WHATEVER THE INPUT: true; the input reads as it did. -/
def fnCrcSpec : ChangeSpec := { name := "fnCrc", fn := fun _ => fun
  | [d1, d2] => { results := [.lit (.bool true)], args := [d1, d2] }
  | _ => none }
def fnCrcRow : OpenClaim := { program := "ytgbjdkmkgoidlaa", sum := "393f8ecfe36c9bbe015c1cd8be28a8387c7d4a424fe259ee90464716cd4e6225", func := "loop.example/satchel/laws.FnCrc", spec := "fnCrc", apart := false }
def FnCrcSaid : Prop := fnCrcRow.holds Try.pinned (OpenSpec.ofChange fnCrcSpec)

/-- ITS FALSE NEIGHBOUR: 'it returns false'. Refute it at one input. -/
def fnCrcWrong : ChangeSpec := { name := "fnCrc", fn := fun _ => fun
  | [d1, d2] => { results := [.lit (.bool false)], args := [d1, d2] }
  | _ => none }
def FnCrcWrongFalsely : Prop := fnCrcRow.holds Try.pinned (OpenSpec.ofChange fnCrcWrong)

/-- 'laws.FnExactSpoolPause': WHATEVER THE INPUT: true; the input reads as it did. -/
def fnExactSpoolPauseSpec : ChangeSpec := { name := "fnExactSpoolPause", fn := fun _ => fun
  | [d] => { results := [.lit (.bool true)], args := [d] }
  | _ => none }
def fnExactSpoolPauseRow : OpenClaim := { program := "ytgbjdkmkgoidlaa", sum := "393f8ecfe36c9bbe015c1cd8be28a8387c7d4a424fe259ee90464716cd4e6225", func := "loop.example/satchel/laws.FnExactSpoolPause", spec := "fnExactSpoolPause", apart := false }
def FnExactSpoolPauseSaid : Prop := fnExactSpoolPauseRow.holds Try.pinned (OpenSpec.ofChange fnExactSpoolPauseSpec)

/-- ITS FALSE NEIGHBOUR: 'it returns false'. Refute it at one input. -/
def fnExactSpoolPauseWrong : ChangeSpec := { name := "fnExactSpoolPause", fn := fun _ => fun
  | [d] => { results := [.lit (.bool false)], args := [d] }
  | _ => none }
def FnExactSpoolPauseWrongFalsely : Prop := fnExactSpoolPauseRow.holds Try.pinned (OpenSpec.ofChange fnExactSpoolPauseWrong)

/-- 'laws.FnExactCrc': WHATEVER THE INPUT: true; the input reads as it did. -/
def fnExactCrcSpec : ChangeSpec := { name := "fnExactCrc", fn := fun _ => fun
  | [d] => { results := [.lit (.bool true)], args := [d] }
  | _ => none }
def fnExactCrcRow : OpenClaim := { program := "ytgbjdkmkgoidlaa", sum := "393f8ecfe36c9bbe015c1cd8be28a8387c7d4a424fe259ee90464716cd4e6225", func := "loop.example/satchel/laws.FnExactCrc", spec := "fnExactCrc", apart := false }
def FnExactCrcSaid : Prop := fnExactCrcRow.holds Try.pinned (OpenSpec.ofChange fnExactCrcSpec)

/-- ITS FALSE NEIGHBOUR: 'it returns false'. Refute it at one input. -/
def fnExactCrcWrong : ChangeSpec := { name := "fnExactCrc", fn := fun _ => fun
  | [d] => { results := [.lit (.bool false)], args := [d] }
  | _ => none }
def FnExactCrcWrongFalsely : Prop := fnExactCrcRow.holds Try.pinned (OpenSpec.ofChange fnExactCrcWrong)

/- THE SECOND FORM. 'bulk': how many values and letters a reading holds, each counted each time it is reached (what is shared counts as often as it is met; a slice's spare places count too). A statement '..UptoSaid' is the law's where the arguments, and the package variables that the reading takes, are together of bulk at most 1048576: NARROWER than '..Said'. Prove '..Said' where nothing that the law and all that it calls make is longer than what came in: it says more and counts as full. Else prove '..UptoSaid'. A law counts once. -/
mutual
def uptoBulk {H : Type} : DataW H → Nat
  | .lit (.string bytes) => bytes.length + 1
  | .lit _ => 1
  | .nil => 1
  | .ptr d => uptoBulk d + 1
  | .slice elems spare => uptoBulkAll elems + uptoBulkAll spare + 1
  | .agg parts => uptoBulkAll parts + 1
  | .iface _ d => uptoBulk d + 1
  | .map entries => uptoBulkEntries entries + 1
  | .held _ => 1
def uptoBulkAll {H : Type} : List (DataW H) → Nat
  | [] => 0
  | d :: r => uptoBulk d + uptoBulkAll r
def uptoBulkEntries {H : Type} : List (Lit × DataW H) → Nat
  | [] => 0
  | x :: r => uptoBulkEntry x + uptoBulkEntries r
def uptoBulkEntry {H : Type} : Lit × DataW H → Nat
  | (.string bytes, d) => bytes.length + uptoBulk d + 1
  | (_, d) => uptoBulk d + 1
 end
def uptoSmall : (H : Type) → List (DataW H) → Bool := fun _ ds => decide (uptoBulkAll ds ≤ 1048576)
def OpenSpec.upto (s : _root_.Go.ChangeSpec) : _root_.Go.OpenSpec := { _root_.Go.OpenSpec.ofChange s with cond := some uptoSmall }

/-- 'laws.FnSpoolPause', WHERE WHAT IT READS IS OF BULK AT MOST 1048576: true; the input reads as it did. -/
def fnSpoolPauseUptoRow : OpenClaim := { program := "ytgbjdkmkgoidlaa", sum := "393f8ecfe36c9bbe015c1cd8be28a8387c7d4a424fe259ee90464716cd4e6225", func := "loop.example/satchel/laws.FnSpoolPause", spec := "fnSpoolPause", apart := false, narrowed := true }
def FnSpoolPauseUptoSaid : Prop := fnSpoolPauseUptoRow.holds Try.pinned (OpenSpec.upto fnSpoolPauseSpec)

/-- 'laws.FnCrc', WHERE WHAT IT READS IS OF BULK AT MOST 1048576: true; the input reads as it did. -/
def fnCrcUptoRow : OpenClaim := { program := "ytgbjdkmkgoidlaa", sum := "393f8ecfe36c9bbe015c1cd8be28a8387c7d4a424fe259ee90464716cd4e6225", func := "loop.example/satchel/laws.FnCrc", spec := "fnCrc", apart := false, narrowed := true }
def FnCrcUptoSaid : Prop := fnCrcUptoRow.holds Try.pinned (OpenSpec.upto fnCrcSpec)

/-- 'laws.FnExactSpoolPause', WHERE WHAT IT READS IS OF BULK AT MOST 1048576: true; the input reads as it did. -/
def fnExactSpoolPauseUptoRow : OpenClaim := { program := "ytgbjdkmkgoidlaa", sum := "393f8ecfe36c9bbe015c1cd8be28a8387c7d4a424fe259ee90464716cd4e6225", func := "loop.example/satchel/laws.FnExactSpoolPause", spec := "fnExactSpoolPause", apart := false, narrowed := true }
def FnExactSpoolPauseUptoSaid : Prop := fnExactSpoolPauseUptoRow.holds Try.pinned (OpenSpec.upto fnExactSpoolPauseSpec)

/-- 'laws.FnExactCrc', WHERE WHAT IT READS IS OF BULK AT MOST 1048576: true; the input reads as it did. -/
def fnExactCrcUptoRow : OpenClaim := { program := "ytgbjdkmkgoidlaa", sum := "393f8ecfe36c9bbe015c1cd8be28a8387c7d4a424fe259ee90464716cd4e6225", func := "loop.example/satchel/laws.FnExactCrc", spec := "fnExactCrc", apart := false, narrowed := true }
def FnExactCrcUptoSaid : Prop := fnExactCrcUptoRow.holds Try.pinned (OpenSpec.upto fnExactCrcSpec)

end Rows
end Go.Proofs.Ytgbjdkmkgoidlaa
