/-
  No cell of these rows narrows 'for every input' (looked for: loops, veiled, ifaces, maps, wideKeys, modest, calm, conditions, laid).
  DERIVED. THE GIVEN ROWS OF THIS SEAT. 4 by the template 'for every input the law returns true; each argument reads behind the call as it read before'; 0 by the template 'total and deterministic' (their statements: YtbfemclaoabddaaTotals.lean).
  GIVEN WITH THE SEED: the statements are not yours to turn. If you find one false, say at which input.
  Laid BY PROGRAM, IN A SANDBOX (cutbox-rows.mjs): the forced cells as the released guide's own fill.sh prints them over the translation 5a9e4f2b760712e8… (all of the seat's roots in one cut). By AI agents, Wed Nov 11 2026. No macro, syntax, notation, axiom, sorry.
-/
import Derived.Test.YtbfemclaoabddaaChecked
import GoSem.Claim
import GoSem.ClaimJoined
import GoSem.ClaimMapViews
import Derived.JoinedTies
import Derived.KernelRfl
namespace Go.Proofs.Ytbfemclaoabddaa
/- THE CELL 'sum', in the pinned program and in every row, IS THE sha256 OF THE DUMP (.gsa) THAT YtbfemclaoabddaaProg.lean LOADS. Nothing in Lean hashes anything: it is a label: what it is worth is what the hold of that sum in a sandbox is worth. -/
noncomputable def Try.pinned : Pinned := { name := "ytbfemclaoabddaa", sum := "5a9e4f2b760712e82d4ee942117cdcbf8ae1761a7ffea3fff96bbc1ca841c279", checked := Try.checked }
namespace Rows
def none {H : Type} : Left H := { results := [], args := [] }

/-- 'laws.FnExactFilterRight': WHATEVER THE INPUT: true; the input reads as it did. -/
def fnExactFilterRightSpec : ChangeSpec := { name := "fnExactFilterRight", fn := fun _ => fun
  | [d] => { results := [.lit (.bool true)], args := [d] }
  | _ => none }
def fnExactFilterRightRow : OpenClaim := { program := "ytbfemclaoabddaa", sum := "5a9e4f2b760712e82d4ee942117cdcbf8ae1761a7ffea3fff96bbc1ca841c279", func := "loop.example/g00402/laws.FnExactFilterRight", spec := "fnExactFilterRight", unfollowed := true, recurses := true, apart := false }
def FnExactFilterRightSaid : Prop := fnExactFilterRightRow.holds Try.pinned (OpenSpec.ofChange fnExactFilterRightSpec)

/-- ITS FALSE NEIGHBOUR: 'it returns false'. Refute it at one input. -/
def fnExactFilterRightWrong : ChangeSpec := { name := "fnExactFilterRight", fn := fun _ => fun
  | [d] => { results := [.lit (.bool false)], args := [d] }
  | _ => none }
def FnExactFilterRightWrongFalsely : Prop := fnExactFilterRightRow.holds Try.pinned (OpenSpec.ofChange fnExactFilterRightWrong)

/-- 'laws.FnExactFilterText': WHATEVER THE INPUT: true; the input reads as it did. -/
def fnExactFilterTextSpec : ChangeSpec := { name := "fnExactFilterText", fn := fun _ => fun
  | [d] => { results := [.lit (.bool true)], args := [d] }
  | _ => none }
def fnExactFilterTextRow : OpenClaim := { program := "ytbfemclaoabddaa", sum := "5a9e4f2b760712e82d4ee942117cdcbf8ae1761a7ffea3fff96bbc1ca841c279", func := "loop.example/g00402/laws.FnExactFilterText", spec := "fnExactFilterText", unfollowed := true, recurses := true, apart := false }
def FnExactFilterTextSaid : Prop := fnExactFilterTextRow.holds Try.pinned (OpenSpec.ofChange fnExactFilterTextSpec)

/-- ITS FALSE NEIGHBOUR: 'it returns false'. Refute it at one input. -/
def fnExactFilterTextWrong : ChangeSpec := { name := "fnExactFilterText", fn := fun _ => fun
  | [d] => { results := [.lit (.bool false)], args := [d] }
  | _ => none }
def FnExactFilterTextWrongFalsely : Prop := fnExactFilterTextRow.holds Try.pinned (OpenSpec.ofChange fnExactFilterTextWrong)

/-- 'laws.FnExactFilterAttrs': WHATEVER THE INPUT: true; the input reads as it did. -/
def fnExactFilterAttrsSpec : ChangeSpec := { name := "fnExactFilterAttrs", fn := fun _ => fun
  | [d] => { results := [.lit (.bool true)], args := [d] }
  | _ => none }
def fnExactFilterAttrsRow : OpenClaim := { program := "ytbfemclaoabddaa", sum := "5a9e4f2b760712e82d4ee942117cdcbf8ae1761a7ffea3fff96bbc1ca841c279", func := "loop.example/g00402/laws.FnExactFilterAttrs", spec := "fnExactFilterAttrs", inPlace := ["internal/bytealg.abigen_runtime_cmpstring"], unfollowed := true, recurses := true, apart := false }
def FnExactFilterAttrsSaid : Prop := fnExactFilterAttrsRow.holds Try.pinned (OpenSpec.ofChange fnExactFilterAttrsSpec)

/-- ITS FALSE NEIGHBOUR: 'it returns false'. Refute it at one input. -/
def fnExactFilterAttrsWrong : ChangeSpec := { name := "fnExactFilterAttrs", fn := fun _ => fun
  | [d] => { results := [.lit (.bool false)], args := [d] }
  | _ => none }
def FnExactFilterAttrsWrongFalsely : Prop := fnExactFilterAttrsRow.holds Try.pinned (OpenSpec.ofChange fnExactFilterAttrsWrong)

/-- 'laws.FnExactNot': WHATEVER THE INPUT: true; the input reads as it did. -/
def fnExactNotSpec : ChangeSpec := { name := "fnExactNot", fn := fun _ => fun
  | [d] => { results := [.lit (.bool true)], args := [d] }
  | _ => none }
def fnExactNotRow : OpenClaim := { program := "ytbfemclaoabddaa", sum := "5a9e4f2b760712e82d4ee942117cdcbf8ae1761a7ffea3fff96bbc1ca841c279", func := "loop.example/g00402/laws.FnExactNot", spec := "fnExactNot", apart := false }
def FnExactNotSaid : Prop := fnExactNotRow.holds Try.pinned (OpenSpec.ofChange fnExactNotSpec)

/-- ITS FALSE NEIGHBOUR: 'it returns false'. Refute it at one input. -/
def fnExactNotWrong : ChangeSpec := { name := "fnExactNot", fn := fun _ => fun
  | [d] => { results := [.lit (.bool false)], args := [d] }
  | _ => none }
def FnExactNotWrongFalsely : Prop := fnExactNotRow.holds Try.pinned (OpenSpec.ofChange fnExactNotWrong)

/- THE SECOND FORM. 'bulk': how many values and letters a reading holds, each counted each time it is reached (what is shared counts as often as it is met; a slice's spare places count too). A statement '..UptoSaid' is the law's where the arguments, and the package variables that the reading takes, are together of bulk at most 1048576: NARROWER than '..Said'. Prove '..Said' where nothing that the law and all that it calls make is longer than what came in: it says more and counts as full. Else prove '..UptoSaid'. A law counts once. -/
mutual
def uptoBulk {H : Type} : DataW H → Nat
  | .lit (.string bytes) => bytes.length + 1
  | .lit _ => 1
  | .nil => 1
  | .ptr d => uptoBulk d + 1
  | .slice elems spare => uptoBulkAll elems + uptoBulkAll spare + 1
  | .agg parts => uptoBulkAll parts + 1
  | .iface _ d => uptoBulk d + 1
  | .map entries => uptoBulkEntries entries + 1
  | .held _ => 1
def uptoBulkAll {H : Type} : List (DataW H) → Nat
  | [] => 0
  | d :: r => uptoBulk d + uptoBulkAll r
def uptoBulkEntries {H : Type} : List (Lit × DataW H) → Nat
  | [] => 0
  | x :: r => uptoBulkEntry x + uptoBulkEntries r
def uptoBulkEntry {H : Type} : Lit × DataW H → Nat
  | (.string bytes, d) => bytes.length + uptoBulk d + 1
  | (_, d) => uptoBulk d + 1
 end
def uptoSmall : (H : Type) → List (DataW H) → Bool := fun _ ds => decide (uptoBulkAll ds ≤ 1048576)
def OpenSpec.upto (s : _root_.Go.ChangeSpec) : _root_.Go.OpenSpec := { _root_.Go.OpenSpec.ofChange s with cond := some uptoSmall }

/-- 'laws.FnExactFilterRight', WHERE WHAT IT READS IS OF BULK AT MOST 1048576: true; the input reads as it did. -/
def fnExactFilterRightUptoRow : OpenClaim := { program := "ytbfemclaoabddaa", sum := "5a9e4f2b760712e82d4ee942117cdcbf8ae1761a7ffea3fff96bbc1ca841c279", func := "loop.example/g00402/laws.FnExactFilterRight", spec := "fnExactFilterRight", unfollowed := true, recurses := true, apart := false, narrowed := true }
def FnExactFilterRightUptoSaid : Prop := fnExactFilterRightUptoRow.holds Try.pinned (OpenSpec.upto fnExactFilterRightSpec)

/-- 'laws.FnExactFilterText', WHERE WHAT IT READS IS OF BULK AT MOST 1048576: true; the input reads as it did. -/
def fnExactFilterTextUptoRow : OpenClaim := { program := "ytbfemclaoabddaa", sum := "5a9e4f2b760712e82d4ee942117cdcbf8ae1761a7ffea3fff96bbc1ca841c279", func := "loop.example/g00402/laws.FnExactFilterText", spec := "fnExactFilterText", unfollowed := true, recurses := true, apart := false, narrowed := true }
def FnExactFilterTextUptoSaid : Prop := fnExactFilterTextUptoRow.holds Try.pinned (OpenSpec.upto fnExactFilterTextSpec)

/-- 'laws.FnExactFilterAttrs', WHERE WHAT IT READS IS OF BULK AT MOST 1048576: true; the input reads as it did. -/
def fnExactFilterAttrsUptoRow : OpenClaim := { program := "ytbfemclaoabddaa", sum := "5a9e4f2b760712e82d4ee942117cdcbf8ae1761a7ffea3fff96bbc1ca841c279", func := "loop.example/g00402/laws.FnExactFilterAttrs", spec := "fnExactFilterAttrs", inPlace := ["internal/bytealg.abigen_runtime_cmpstring"], unfollowed := true, recurses := true, apart := false, narrowed := true }
def FnExactFilterAttrsUptoSaid : Prop := fnExactFilterAttrsUptoRow.holds Try.pinned (OpenSpec.upto fnExactFilterAttrsSpec)

/-- 'laws.FnExactNot', WHERE WHAT IT READS IS OF BULK AT MOST 1048576: true; the input reads as it did. -/
def fnExactNotUptoRow : OpenClaim := { program := "ytbfemclaoabddaa", sum := "5a9e4f2b760712e82d4ee942117cdcbf8ae1761a7ffea3fff96bbc1ca841c279", func := "loop.example/g00402/laws.FnExactNot", spec := "fnExactNot", apart := false, narrowed := true }
def FnExactNotUptoSaid : Prop := fnExactNotUptoRow.holds Try.pinned (OpenSpec.upto fnExactNotSpec)

end Rows
end Go.Proofs.Ytbfemclaoabddaa
