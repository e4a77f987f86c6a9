/-
  NARROWER THAN 'FOR EVERY INPUT', by the rows' own cells (each row's printed sentence says how): FnSieveFor: laid · FnSieveDo: laid · FnSieveTidy: laid · FnExactSieveOk: laid · FnExactSieveFor: laid · FnExactSieveTidy: laid.
  DERIVED. THE GIVEN ROWS OF THIS SEAT. 6 by the template 'for every input the law returns true; each argument reads behind the call as it read before'; 0 by the template 'total and deterministic' (their statements: YtgniokkiejoccaaDoorTotals.lean).
  GIVEN WITH THE SEED: the statements are not yours to turn. If you find one false, say at which input.
  Laid BY PROGRAM, IN A SANDBOX (cutbox-rows.mjs): the forced cells as the released guide's own fill.sh prints them over the translation 10ad312bf36ed616… (all of the seat's roots in one cut). By AI agents, Wed Nov 11 2026. No macro, syntax, notation, axiom, sorry.
-/
import Derived.Test.YtgniokkiejoccaaDoorChecked
import GoSem.PinnedTables
import GoSem.Claim
import GoSem.ClaimJoined
import GoSem.ClaimMapViews
import Derived.JoinedTies
import Derived.KernelRfl
namespace Go.Proofs.YtgniokkiejoccaaDoor
/- THE CELL 'sum', in the pinned program and in every row, IS THE sha256 OF THE DUMP (.gsa) THAT YtgniokkiejoccaaDoorProg.lean LOADS. Nothing in Lean hashes anything: it is a label: what it is worth is what the hold of that sum in a sandbox is worth. -/
noncomputable def Tryd.pinned : Pinned := { name := "ytgniokkiejoccaadoor", sum := "10ad312bf36ed616f8613f87234ae16fb9733fd4bdd4456bc1e5d885bc641cf3", checked := Tryd.checked }
namespace Rows
def none {H : Type} : Left H := { results := [], args := [] }

/- WHAT THE LISTED PACKAGE-LEVEL VARIABLES READ AS WHEN THE CALL BEGINS. Each datum BY PROGRAM (the guide's laid-datum.mjs) off the statement by which the dump's own 'gosem.cut.vars' lays the variable. In a bare row this is a premise. The card (YtgniokkiejoccaaDoorCards.lean) ties it to the program's text. -/
def laid_unicode_utf8_acceptRanges {H : Type} : DataW H := .agg [.agg [.lit (.int .u8 128), .lit (.int .u8 191)], .agg [.lit (.int .u8 160), .lit (.int .u8 191)], .agg [.lit (.int .u8 128), .lit (.int .u8 159)], .agg [.lit (.int .u8 144), .lit (.int .u8 191)], .agg [.lit (.int .u8 128), .lit (.int .u8 143)], .agg [.lit (.int .u8 0), .lit (.int .u8 0)], .agg [.lit (.int .u8 0), .lit (.int .u8 0)], .agg [.lit (.int .u8 0), .lit (.int .u8 0)], .agg [.lit (.int .u8 0), .lit (.int .u8 0)], .agg [.lit (.int .u8 0), .lit (.int .u8 0)], .agg [.lit (.int .u8 0), .lit (.int .u8 0)], .agg [.lit (.int .u8 0), .lit (.int .u8 0)], .agg [.lit (.int .u8 0), .lit (.int .u8 0)], .agg [.lit (.int .u8 0), .lit (.int .u8 0)], .agg [.lit (.int .u8 0), .lit (.int .u8 0)], .agg [.lit (.int .u8 0), .lit (.int .u8 0)]]
/-- One of Go's own tables, pinned by name: the form's constant. -/
def laid_unicode_utf8_first : DataW Unit := Go.Pinned.utf8First

/-- 'laws.FnSieveFor': WHATEVER THE INPUT: true; the input reads as it did. -/
def fnSieveForSpec : ChangeSpec := { name := "fnSieveFor", fn := fun _ => fun
  | [d] => { results := [.lit (.bool true)], args := [d] }
  | _ => none }
def fnSieveForRow : OpenClaim := { program := "ytgniokkiejoccaadoor", sum := "10ad312bf36ed616f8613f87234ae16fb9733fd4bdd4456bc1e5d885bc641cf3", func := "loop.example/satchel/laws.FnSieveFor", spec := "fnSieveFor", inPlace := ["internal/bytealg.CountString", "internal/bytealg.IndexByteString", "internal/bytealg.IndexString"], unfollowed := true, recurses := true, named := ["unicode/utf8.first", "unicode/utf8.acceptRanges", "internal/bytealg.MaxLen"], apart := false, laid := [("unicode/utf8.acceptRanges", laid_unicode_utf8_acceptRanges), ("unicode/utf8.first", laid_unicode_utf8_first)] }
def FnSieveForSaid : Prop := fnSieveForRow.holds Tryd.pinned (OpenSpec.ofChange fnSieveForSpec)

/-- ITS FALSE NEIGHBOUR: 'it returns false'. Refute it at one input. -/
def fnSieveForWrong : ChangeSpec := { name := "fnSieveFor", fn := fun _ => fun
  | [d] => { results := [.lit (.bool false)], args := [d] }
  | _ => none }
def FnSieveForWrongFalsely : Prop := fnSieveForRow.holds Tryd.pinned (OpenSpec.ofChange fnSieveForWrong)

/-- 'laws.FnSieveDo': WHATEVER THE INPUT: true; the input reads as it did. -/
def fnSieveDoSpec : ChangeSpec := { name := "fnSieveDo", fn := fun _ => fun
  | [d] => { results := [.lit (.bool true)], args := [d] }
  | _ => none }
def fnSieveDoRow : OpenClaim := { program := "ytgniokkiejoccaadoor", sum := "10ad312bf36ed616f8613f87234ae16fb9733fd4bdd4456bc1e5d885bc641cf3", func := "loop.example/satchel/laws.FnSieveDo", spec := "fnSieveDo", inPlace := ["internal/bytealg.CountString", "internal/bytealg.IndexByteString", "internal/bytealg.IndexString"], unfollowed := true, recurses := true, named := ["unicode/utf8.first", "unicode/utf8.acceptRanges", "internal/bytealg.MaxLen"], apart := false, laid := [("unicode/utf8.acceptRanges", laid_unicode_utf8_acceptRanges), ("unicode/utf8.first", laid_unicode_utf8_first)] }
def FnSieveDoSaid : Prop := fnSieveDoRow.holds Tryd.pinned (OpenSpec.ofChange fnSieveDoSpec)

/-- ITS FALSE NEIGHBOUR: 'it returns false'. Refute it at one input. -/
def fnSieveDoWrong : ChangeSpec := { name := "fnSieveDo", fn := fun _ => fun
  | [d] => { results := [.lit (.bool false)], args := [d] }
  | _ => none }
def FnSieveDoWrongFalsely : Prop := fnSieveDoRow.holds Tryd.pinned (OpenSpec.ofChange fnSieveDoWrong)

/-- 'laws.FnSieveTidy': WHATEVER THE INPUT: true; the input reads as it did. -/
def fnSieveTidySpec : ChangeSpec := { name := "fnSieveTidy", fn := fun _ => fun
  | [d1, d2] => { results := [.lit (.bool true)], args := [d1, d2] }
  | _ => none }
def fnSieveTidyRow : OpenClaim := { program := "ytgniokkiejoccaadoor", sum := "10ad312bf36ed616f8613f87234ae16fb9733fd4bdd4456bc1e5d885bc641cf3", func := "loop.example/satchel/laws.FnSieveTidy", spec := "fnSieveTidy", inPlace := ["internal/bytealg.CountString", "internal/bytealg.IndexByteString", "internal/bytealg.IndexString"], unfollowed := true, recurses := true, named := ["unicode/utf8.first", "unicode/utf8.acceptRanges", "internal/bytealg.MaxLen"], apart := false, laid := [("unicode/utf8.acceptRanges", laid_unicode_utf8_acceptRanges), ("unicode/utf8.first", laid_unicode_utf8_first)] }
def FnSieveTidySaid : Prop := fnSieveTidyRow.holds Tryd.pinned (OpenSpec.ofChange fnSieveTidySpec)

/-- ITS FALSE NEIGHBOUR: 'it returns false'. Refute it at one input. -/
def fnSieveTidyWrong : ChangeSpec := { name := "fnSieveTidy", fn := fun _ => fun
  | [d1, d2] => { results := [.lit (.bool false)], args := [d1, d2] }
  | _ => none }
def FnSieveTidyWrongFalsely : Prop := fnSieveTidyRow.holds Tryd.pinned (OpenSpec.ofChange fnSieveTidyWrong)

/-- 'laws.FnExactSieveOk': WHATEVER THE INPUT: true; the input reads as it did. -/
def fnExactSieveOkSpec : ChangeSpec := { name := "fnExactSieveOk", fn := fun _ => fun
  | [d] => { results := [.lit (.bool true)], args := [d] }
  | _ => none }
def fnExactSieveOkRow : OpenClaim := { program := "ytgniokkiejoccaadoor", sum := "10ad312bf36ed616f8613f87234ae16fb9733fd4bdd4456bc1e5d885bc641cf3", func := "loop.example/satchel/laws.FnExactSieveOk", spec := "fnExactSieveOk", inPlace := ["internal/bytealg.CountString", "internal/bytealg.IndexByteString", "internal/bytealg.IndexString"], unfollowed := true, recurses := true, named := ["unicode/utf8.first", "unicode/utf8.acceptRanges", "internal/bytealg.MaxLen"], apart := false, laid := [("unicode/utf8.acceptRanges", laid_unicode_utf8_acceptRanges), ("unicode/utf8.first", laid_unicode_utf8_first)] }
def FnExactSieveOkSaid : Prop := fnExactSieveOkRow.holds Tryd.pinned (OpenSpec.ofChange fnExactSieveOkSpec)

/-- ITS FALSE NEIGHBOUR: 'it returns false'. Refute it at one input. -/
def fnExactSieveOkWrong : ChangeSpec := { name := "fnExactSieveOk", fn := fun _ => fun
  | [d] => { results := [.lit (.bool false)], args := [d] }
  | _ => none }
def FnExactSieveOkWrongFalsely : Prop := fnExactSieveOkRow.holds Tryd.pinned (OpenSpec.ofChange fnExactSieveOkWrong)

/-- 'laws.FnExactSieveFor': WHATEVER THE INPUT: true; the input reads as it did. -/
def fnExactSieveForSpec : ChangeSpec := { name := "fnExactSieveFor", fn := fun _ => fun
  | [d1, d2] => { results := [.lit (.bool true)], args := [d1, d2] }
  | _ => none }
def fnExactSieveForRow : OpenClaim := { program := "ytgniokkiejoccaadoor", sum := "10ad312bf36ed616f8613f87234ae16fb9733fd4bdd4456bc1e5d885bc641cf3", func := "loop.example/satchel/laws.FnExactSieveFor", spec := "fnExactSieveFor", inPlace := ["internal/bytealg.CountString", "internal/bytealg.IndexByteString", "internal/bytealg.IndexString"], unfollowed := true, recurses := true, named := ["unicode/utf8.first", "unicode/utf8.acceptRanges", "internal/bytealg.MaxLen"], apart := false, laid := [("unicode/utf8.acceptRanges", laid_unicode_utf8_acceptRanges), ("unicode/utf8.first", laid_unicode_utf8_first)] }
def FnExactSieveForSaid : Prop := fnExactSieveForRow.holds Tryd.pinned (OpenSpec.ofChange fnExactSieveForSpec)

/-- ITS FALSE NEIGHBOUR: 'it returns false'. Refute it at one input. -/
def fnExactSieveForWrong : ChangeSpec := { name := "fnExactSieveFor", fn := fun _ => fun
  | [d1, d2] => { results := [.lit (.bool false)], args := [d1, d2] }
  | _ => none }
def FnExactSieveForWrongFalsely : Prop := fnExactSieveForRow.holds Tryd.pinned (OpenSpec.ofChange fnExactSieveForWrong)

/-- 'laws.FnExactSieveTidy': WHATEVER THE INPUT: true; the input reads as it did. -/
def fnExactSieveTidySpec : ChangeSpec := { name := "fnExactSieveTidy", fn := fun _ => fun
  | [d] => { results := [.lit (.bool true)], args := [d] }
  | _ => none }
def fnExactSieveTidyRow : OpenClaim := { program := "ytgniokkiejoccaadoor", sum := "10ad312bf36ed616f8613f87234ae16fb9733fd4bdd4456bc1e5d885bc641cf3", func := "loop.example/satchel/laws.FnExactSieveTidy", spec := "fnExactSieveTidy", inPlace := ["internal/bytealg.CountString", "internal/bytealg.IndexByteString", "internal/bytealg.IndexString"], unfollowed := true, recurses := true, named := ["unicode/utf8.first", "unicode/utf8.acceptRanges", "internal/bytealg.MaxLen"], apart := false, laid := [("unicode/utf8.acceptRanges", laid_unicode_utf8_acceptRanges), ("unicode/utf8.first", laid_unicode_utf8_first)] }
def FnExactSieveTidySaid : Prop := fnExactSieveTidyRow.holds Tryd.pinned (OpenSpec.ofChange fnExactSieveTidySpec)

/-- ITS FALSE NEIGHBOUR: 'it returns false'. Refute it at one input. -/
def fnExactSieveTidyWrong : ChangeSpec := { name := "fnExactSieveTidy", fn := fun _ => fun
  | [d] => { results := [.lit (.bool false)], args := [d] }
  | _ => none }
def FnExactSieveTidyWrongFalsely : Prop := fnExactSieveTidyRow.holds Tryd.pinned (OpenSpec.ofChange fnExactSieveTidyWrong)

/- THE SECOND FORM. 'bulk': how many values and letters a reading holds, each counted each time it is reached (what is shared counts as often as it is met; a slice's spare places count too). A statement '..UptoSaid' is the law's where the arguments, and the package variables that the reading takes, are together of bulk at most 1048576: NARROWER than '..Said'. Prove '..Said' where nothing that the law and all that it calls make is longer than what came in: it says more and counts as full. Else prove '..UptoSaid'. A law counts once. -/
mutual
def uptoBulk {H : Type} : DataW H → Nat
  | .lit (.string bytes) => bytes.length + 1
  | .lit _ => 1
  | .nil => 1
  | .ptr d => uptoBulk d + 1
  | .slice elems spare => uptoBulkAll elems + uptoBulkAll spare + 1
  | .agg parts => uptoBulkAll parts + 1
  | .iface _ d => uptoBulk d + 1
  | .map entries => uptoBulkEntries entries + 1
  | .held _ => 1
def uptoBulkAll {H : Type} : List (DataW H) → Nat
  | [] => 0
  | d :: r => uptoBulk d + uptoBulkAll r
def uptoBulkEntries {H : Type} : List (Lit × DataW H) → Nat
  | [] => 0
  | x :: r => uptoBulkEntry x + uptoBulkEntries r
def uptoBulkEntry {H : Type} : Lit × DataW H → Nat
  | (.string bytes, d) => bytes.length + uptoBulk d + 1
  | (_, d) => uptoBulk d + 1
 end
def uptoSmall : (H : Type) → List (DataW H) → Bool := fun _ ds => decide (uptoBulkAll ds ≤ 1048576)
def OpenSpec.upto (s : _root_.Go.ChangeSpec) : _root_.Go.OpenSpec := { _root_.Go.OpenSpec.ofChange s with cond := some uptoSmall }

/-- 'laws.FnSieveFor', WHERE WHAT IT READS IS OF BULK AT MOST 1048576: true; the input reads as it did. -/
def fnSieveForUptoRow : OpenClaim := { program := "ytgniokkiejoccaadoor", sum := "10ad312bf36ed616f8613f87234ae16fb9733fd4bdd4456bc1e5d885bc641cf3", func := "loop.example/satchel/laws.FnSieveFor", spec := "fnSieveFor", inPlace := ["internal/bytealg.CountString", "internal/bytealg.IndexByteString", "internal/bytealg.IndexString"], unfollowed := true, recurses := true, named := ["unicode/utf8.first", "unicode/utf8.acceptRanges", "internal/bytealg.MaxLen"], apart := false, laid := [("unicode/utf8.acceptRanges", laid_unicode_utf8_acceptRanges), ("unicode/utf8.first", laid_unicode_utf8_first)], narrowed := true }
def FnSieveForUptoSaid : Prop := fnSieveForUptoRow.holds Tryd.pinned (OpenSpec.upto fnSieveForSpec)

/-- 'laws.FnSieveDo', WHERE WHAT IT READS IS OF BULK AT MOST 1048576: true; the input reads as it did. -/
def fnSieveDoUptoRow : OpenClaim := { program := "ytgniokkiejoccaadoor", sum := "10ad312bf36ed616f8613f87234ae16fb9733fd4bdd4456bc1e5d885bc641cf3", func := "loop.example/satchel/laws.FnSieveDo", spec := "fnSieveDo", inPlace := ["internal/bytealg.CountString", "internal/bytealg.IndexByteString", "internal/bytealg.IndexString"], unfollowed := true, recurses := true, named := ["unicode/utf8.first", "unicode/utf8.acceptRanges", "internal/bytealg.MaxLen"], apart := false, laid := [("unicode/utf8.acceptRanges", laid_unicode_utf8_acceptRanges), ("unicode/utf8.first", laid_unicode_utf8_first)], narrowed := true }
def FnSieveDoUptoSaid : Prop := fnSieveDoUptoRow.holds Tryd.pinned (OpenSpec.upto fnSieveDoSpec)

/-- 'laws.FnSieveTidy', WHERE WHAT IT READS IS OF BULK AT MOST 1048576: true; the input reads as it did. -/
def fnSieveTidyUptoRow : OpenClaim := { program := "ytgniokkiejoccaadoor", sum := "10ad312bf36ed616f8613f87234ae16fb9733fd4bdd4456bc1e5d885bc641cf3", func := "loop.example/satchel/laws.FnSieveTidy", spec := "fnSieveTidy", inPlace := ["internal/bytealg.CountString", "internal/bytealg.IndexByteString", "internal/bytealg.IndexString"], unfollowed := true, recurses := true, named := ["unicode/utf8.first", "unicode/utf8.acceptRanges", "internal/bytealg.MaxLen"], apart := false, laid := [("unicode/utf8.acceptRanges", laid_unicode_utf8_acceptRanges), ("unicode/utf8.first", laid_unicode_utf8_first)], narrowed := true }
def FnSieveTidyUptoSaid : Prop := fnSieveTidyUptoRow.holds Tryd.pinned (OpenSpec.upto fnSieveTidySpec)

/-- 'laws.FnExactSieveOk', WHERE WHAT IT READS IS OF BULK AT MOST 1048576: true; the input reads as it did. -/
def fnExactSieveOkUptoRow : OpenClaim := { program := "ytgniokkiejoccaadoor", sum := "10ad312bf36ed616f8613f87234ae16fb9733fd4bdd4456bc1e5d885bc641cf3", func := "loop.example/satchel/laws.FnExactSieveOk", spec := "fnExactSieveOk", inPlace := ["internal/bytealg.CountString", "internal/bytealg.IndexByteString", "internal/bytealg.IndexString"], unfollowed := true, recurses := true, named := ["unicode/utf8.first", "unicode/utf8.acceptRanges", "internal/bytealg.MaxLen"], apart := false, laid := [("unicode/utf8.acceptRanges", laid_unicode_utf8_acceptRanges), ("unicode/utf8.first", laid_unicode_utf8_first)], narrowed := true }
def FnExactSieveOkUptoSaid : Prop := fnExactSieveOkUptoRow.holds Tryd.pinned (OpenSpec.upto fnExactSieveOkSpec)

/-- 'laws.FnExactSieveFor', WHERE WHAT IT READS IS OF BULK AT MOST 1048576: true; the input reads as it did. -/
def fnExactSieveForUptoRow : OpenClaim := { program := "ytgniokkiejoccaadoor", sum := "10ad312bf36ed616f8613f87234ae16fb9733fd4bdd4456bc1e5d885bc641cf3", func := "loop.example/satchel/laws.FnExactSieveFor", spec := "fnExactSieveFor", inPlace := ["internal/bytealg.CountString", "internal/bytealg.IndexByteString", "internal/bytealg.IndexString"], unfollowed := true, recurses := true, named := ["unicode/utf8.first", "unicode/utf8.acceptRanges", "internal/bytealg.MaxLen"], apart := false, laid := [("unicode/utf8.acceptRanges", laid_unicode_utf8_acceptRanges), ("unicode/utf8.first", laid_unicode_utf8_first)], narrowed := true }
def FnExactSieveForUptoSaid : Prop := fnExactSieveForUptoRow.holds Tryd.pinned (OpenSpec.upto fnExactSieveForSpec)

/-- 'laws.FnExactSieveTidy', WHERE WHAT IT READS IS OF BULK AT MOST 1048576: true; the input reads as it did. -/
def fnExactSieveTidyUptoRow : OpenClaim := { program := "ytgniokkiejoccaadoor", sum := "10ad312bf36ed616f8613f87234ae16fb9733fd4bdd4456bc1e5d885bc641cf3", func := "loop.example/satchel/laws.FnExactSieveTidy", spec := "fnExactSieveTidy", inPlace := ["internal/bytealg.CountString", "internal/bytealg.IndexByteString", "internal/bytealg.IndexString"], unfollowed := true, recurses := true, named := ["unicode/utf8.first", "unicode/utf8.acceptRanges", "internal/bytealg.MaxLen"], apart := false, laid := [("unicode/utf8.acceptRanges", laid_unicode_utf8_acceptRanges), ("unicode/utf8.first", laid_unicode_utf8_first)], narrowed := true }
def FnExactSieveTidyUptoSaid : Prop := fnExactSieveTidyUptoRow.holds Tryd.pinned (OpenSpec.upto fnExactSieveTidySpec)

end Rows
end Go.Proofs.YtgniokkiejoccaaDoor
