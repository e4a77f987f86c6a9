/-
  No cell of these rows narrows 'for every input' (looked for: loops, veiled, ifaces, maps, wideKeys, modest, calm, conditions, laid).
  DERIVED. THE GIVEN ROWS OF THIS SEAT. 4 by the template 'for every input the law returns true; each argument reads behind the call as it read before'; 0 by the template 'total and deterministic' (their statements: YtmigcglcacpboaaTotals.lean).
  GIVEN WITH THE SEED: the statements are not yours to turn. If you find one false, say at which input.
  Laid BY PROGRAM, IN A SANDBOX (cutbox-rows.mjs): the forced cells as the released guide's own fill.sh prints them over the translation c1b12dbe802ee1d0… (all of the seat's roots in one cut). By AI agents, Wed Nov 11 2026. No macro, syntax, notation, axiom, sorry.
-/
import Derived.Test.YtmigcglcacpboaaChecked
import GoSem.Claim
import GoSem.ClaimJoined
import GoSem.ClaimMapViews
import Derived.JoinedTies
import Derived.KernelRfl
namespace Go.Proofs.Ytmigcglcacpboaa
/- THE CELL 'sum', in the pinned program and in every row, IS THE sha256 OF THE DUMP (.gsa) THAT YtmigcglcacpboaaProg.lean LOADS. Nothing in Lean hashes anything: it is a label: what it is worth is what the hold of that sum in a sandbox is worth. -/
noncomputable def Try.pinned : Pinned := { name := "ytmigcglcacpboaa", sum := "c1b12dbe802ee1d02c29c7fd4f9f13d0f693832e71d5b4e3c47ca31ca4de34a5", checked := Try.checked }
namespace Rows
def none {H : Type} : Left H := { results := [], args := [] }

/-- 'laws.FnQuotePut': WHATEVER THE INPUT: true; the input reads as it did. -/
def fnQuotePutSpec : ChangeSpec := { name := "fnQuotePut", fn := fun _ => fun
  | [d1, d2] => { results := [.lit (.bool true)], args := [d1, d2] }
  | _ => none }
def fnQuotePutRow : OpenClaim := { program := "ytmigcglcacpboaa", sum := "c1b12dbe802ee1d02c29c7fd4f9f13d0f693832e71d5b4e3c47ca31ca4de34a5", func := "loop.example/satchel/laws.FnQuotePut", spec := "fnQuotePut", inPlace := ["internal/abi.NoEscape", "internal/bytealg.IndexByteString"], apart := false }
def FnQuotePutSaid : Prop := fnQuotePutRow.holds Try.pinned (OpenSpec.ofChange fnQuotePutSpec)

/-- ITS FALSE NEIGHBOUR: 'it returns false'. Refute it at one input. -/
def fnQuotePutWrong : ChangeSpec := { name := "fnQuotePut", fn := fun _ => fun
  | [d1, d2] => { results := [.lit (.bool false)], args := [d1, d2] }
  | _ => none }
def FnQuotePutWrongFalsely : Prop := fnQuotePutRow.holds Try.pinned (OpenSpec.ofChange fnQuotePutWrong)

/-- 'laws.FnQuoteGet': WHATEVER THE INPUT: true; the input reads as it did. -/
def fnQuoteGetSpec : ChangeSpec := { name := "fnQuoteGet", fn := fun _ => fun
  | [d] => { results := [.lit (.bool true)], args := [d] }
  | _ => none }
def fnQuoteGetRow : OpenClaim := { program := "ytmigcglcacpboaa", sum := "c1b12dbe802ee1d02c29c7fd4f9f13d0f693832e71d5b4e3c47ca31ca4de34a5", func := "loop.example/satchel/laws.FnQuoteGet", spec := "fnQuoteGet", inPlace := ["internal/bytealg.IndexByteString", "internal/abi.NoEscape"], apart := false }
def FnQuoteGetSaid : Prop := fnQuoteGetRow.holds Try.pinned (OpenSpec.ofChange fnQuoteGetSpec)

/-- ITS FALSE NEIGHBOUR: 'it returns false'. Refute it at one input. -/
def fnQuoteGetWrong : ChangeSpec := { name := "fnQuoteGet", fn := fun _ => fun
  | [d] => { results := [.lit (.bool false)], args := [d] }
  | _ => none }
def FnQuoteGetWrongFalsely : Prop := fnQuoteGetRow.holds Try.pinned (OpenSpec.ofChange fnQuoteGetWrong)

/-- 'laws.FnExactQuotePut': WHATEVER THE INPUT: true; the input reads as it did. -/
def fnExactQuotePutSpec : ChangeSpec := { name := "fnExactQuotePut", fn := fun _ => fun
  | [d] => { results := [.lit (.bool true)], args := [d] }
  | _ => none }
def fnExactQuotePutRow : OpenClaim := { program := "ytmigcglcacpboaa", sum := "c1b12dbe802ee1d02c29c7fd4f9f13d0f693832e71d5b4e3c47ca31ca4de34a5", func := "loop.example/satchel/laws.FnExactQuotePut", spec := "fnExactQuotePut", inPlace := ["internal/abi.NoEscape"], apart := false }
def FnExactQuotePutSaid : Prop := fnExactQuotePutRow.holds Try.pinned (OpenSpec.ofChange fnExactQuotePutSpec)

/-- ITS FALSE NEIGHBOUR: 'it returns false'. Refute it at one input. -/
def fnExactQuotePutWrong : ChangeSpec := { name := "fnExactQuotePut", fn := fun _ => fun
  | [d] => { results := [.lit (.bool false)], args := [d] }
  | _ => none }
def FnExactQuotePutWrongFalsely : Prop := fnExactQuotePutRow.holds Try.pinned (OpenSpec.ofChange fnExactQuotePutWrong)

/-- 'laws.FnExactQuoteGet': WHATEVER THE INPUT: true; the input reads as it did. -/
def fnExactQuoteGetSpec : ChangeSpec := { name := "fnExactQuoteGet", fn := fun _ => fun
  | [d] => { results := [.lit (.bool true)], args := [d] }
  | _ => none }
def fnExactQuoteGetRow : OpenClaim := { program := "ytmigcglcacpboaa", sum := "c1b12dbe802ee1d02c29c7fd4f9f13d0f693832e71d5b4e3c47ca31ca4de34a5", func := "loop.example/satchel/laws.FnExactQuoteGet", spec := "fnExactQuoteGet", inPlace := ["internal/bytealg.IndexByteString", "internal/abi.NoEscape"], apart := false }
def FnExactQuoteGetSaid : Prop := fnExactQuoteGetRow.holds Try.pinned (OpenSpec.ofChange fnExactQuoteGetSpec)

/-- ITS FALSE NEIGHBOUR: 'it returns false'. Refute it at one input. -/
def fnExactQuoteGetWrong : ChangeSpec := { name := "fnExactQuoteGet", fn := fun _ => fun
  | [d] => { results := [.lit (.bool false)], args := [d] }
  | _ => none }
def FnExactQuoteGetWrongFalsely : Prop := fnExactQuoteGetRow.holds Try.pinned (OpenSpec.ofChange fnExactQuoteGetWrong)

/- THE SECOND FORM. 'bulk': how many values and letters a reading holds, each counted each time it is reached (what is shared counts as often as it is met; a slice's spare places count too). A statement '..UptoSaid' is the law's where the arguments, and the package variables that the reading takes, are together of bulk at most 1048576: NARROWER than '..Said'. Prove '..Said' where nothing that the law and all that it calls make is longer than what came in: it says more and counts as full. Else prove '..UptoSaid'. A law counts once. -/
mutual
def uptoBulk {H : Type} : DataW H → Nat
  | .lit (.string bytes) => bytes.length + 1
  | .lit _ => 1
  | .nil => 1
  | .ptr d => uptoBulk d + 1
  | .slice elems spare => uptoBulkAll elems + uptoBulkAll spare + 1
  | .agg parts => uptoBulkAll parts + 1
  | .iface _ d => uptoBulk d + 1
  | .map entries => uptoBulkEntries entries + 1
  | .held _ => 1
def uptoBulkAll {H : Type} : List (DataW H) → Nat
  | [] => 0
  | d :: r => uptoBulk d + uptoBulkAll r
def uptoBulkEntries {H : Type} : List (Lit × DataW H) → Nat
  | [] => 0
  | x :: r => uptoBulkEntry x + uptoBulkEntries r
def uptoBulkEntry {H : Type} : Lit × DataW H → Nat
  | (.string bytes, d) => bytes.length + uptoBulk d + 1
  | (_, d) => uptoBulk d + 1
 end
def uptoSmall : (H : Type) → List (DataW H) → Bool := fun _ ds => decide (uptoBulkAll ds ≤ 1048576)
def OpenSpec.upto (s : _root_.Go.ChangeSpec) : _root_.Go.OpenSpec := { _root_.Go.OpenSpec.ofChange s with cond := some uptoSmall }

/-- 'laws.FnQuotePut', WHERE WHAT IT READS IS OF BULK AT MOST 1048576: true; the input reads as it did. -/
def fnQuotePutUptoRow : OpenClaim := { program := "ytmigcglcacpboaa", sum := "c1b12dbe802ee1d02c29c7fd4f9f13d0f693832e71d5b4e3c47ca31ca4de34a5", func := "loop.example/satchel/laws.FnQuotePut", spec := "fnQuotePut", inPlace := ["internal/abi.NoEscape", "internal/bytealg.IndexByteString"], apart := false, narrowed := true }
def FnQuotePutUptoSaid : Prop := fnQuotePutUptoRow.holds Try.pinned (OpenSpec.upto fnQuotePutSpec)

/-- 'laws.FnQuoteGet', WHERE WHAT IT READS IS OF BULK AT MOST 1048576: true; the input reads as it did. -/
def fnQuoteGetUptoRow : OpenClaim := { program := "ytmigcglcacpboaa", sum := "c1b12dbe802ee1d02c29c7fd4f9f13d0f693832e71d5b4e3c47ca31ca4de34a5", func := "loop.example/satchel/laws.FnQuoteGet", spec := "fnQuoteGet", inPlace := ["internal/bytealg.IndexByteString", "internal/abi.NoEscape"], apart := false, narrowed := true }
def FnQuoteGetUptoSaid : Prop := fnQuoteGetUptoRow.holds Try.pinned (OpenSpec.upto fnQuoteGetSpec)

/-- 'laws.FnExactQuotePut', WHERE WHAT IT READS IS OF BULK AT MOST 1048576: true; the input reads as it did. -/
def fnExactQuotePutUptoRow : OpenClaim := { program := "ytmigcglcacpboaa", sum := "c1b12dbe802ee1d02c29c7fd4f9f13d0f693832e71d5b4e3c47ca31ca4de34a5", func := "loop.example/satchel/laws.FnExactQuotePut", spec := "fnExactQuotePut", inPlace := ["internal/abi.NoEscape"], apart := false, narrowed := true }
def FnExactQuotePutUptoSaid : Prop := fnExactQuotePutUptoRow.holds Try.pinned (OpenSpec.upto fnExactQuotePutSpec)

/-- 'laws.FnExactQuoteGet', WHERE WHAT IT READS IS OF BULK AT MOST 1048576: true; the input reads as it did. -/
def fnExactQuoteGetUptoRow : OpenClaim := { program := "ytmigcglcacpboaa", sum := "c1b12dbe802ee1d02c29c7fd4f9f13d0f693832e71d5b4e3c47ca31ca4de34a5", func := "loop.example/satchel/laws.FnExactQuoteGet", spec := "fnExactQuoteGet", inPlace := ["internal/bytealg.IndexByteString", "internal/abi.NoEscape"], apart := false, narrowed := true }
def FnExactQuoteGetUptoSaid : Prop := fnExactQuoteGetUptoRow.holds Try.pinned (OpenSpec.upto fnExactQuoteGetSpec)

end Rows
end Go.Proofs.Ytmigcglcacpboaa
