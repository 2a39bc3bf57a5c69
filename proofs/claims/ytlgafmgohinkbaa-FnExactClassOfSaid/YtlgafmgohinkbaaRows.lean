/-
  No cell of these rows narrows 'for every input' (looked for: loops, veiled, ifaces, maps, wideKeys, modest, calm, conditions, laid).
  DERIVED. THE GIVEN ROWS OF THIS SEAT. 8 by the template 'for every input the law returns true; each argument reads behind the call as it read before'; 0 by the template 'total and deterministic' (their statements: YtlgafmgohinkbaaTotals.lean).
  GIVEN WITH THE SEED: the statements are not yours to turn. If you find one false, say at which input.
  Laid BY PROGRAM, IN A SANDBOX (cutbox-rows.mjs): the forced cells as the released guide's own fill.sh prints them over the translation 52bf8e71297706f8… (all of the seat's roots in one cut). By AI agents, Wed Nov 11 2026. No macro, syntax, notation, axiom, sorry.
-/
import Derived.Test.YtlgafmgohinkbaaChecked
import GoSem.Claim
import GoSem.ClaimJoined
import GoSem.ClaimMapViews
import Derived.JoinedTies
import Derived.KernelRfl
namespace Go.Proofs.Ytlgafmgohinkbaa
/- THE CELL 'sum', in the pinned program and in every row, IS THE sha256 OF THE DUMP (.gsa) THAT YtlgafmgohinkbaaProg.lean LOADS. Nothing in Lean hashes anything: it is a label: what it is worth is what the hold of that sum in a sandbox is worth. -/
noncomputable def Try.pinned : Pinned := { name := "ytlgafmgohinkbaa", sum := "52bf8e71297706f8aa98494a53a864446ac7636e8b098752105e85a9daf2bad7", checked := Try.checked }
namespace Rows
def none {H : Type} : Left H := { results := [], args := [] }

/-- 'laws.FnExactFilterRight': WHATEVER THE INPUT: true; the input reads as it did. -/
def fnExactFilterRightSpec : ChangeSpec := { name := "fnExactFilterRight", fn := fun _ => fun
  | [d] => { results := [.lit (.bool true)], args := [d] }
  | _ => none }
def fnExactFilterRightRow : OpenClaim := { program := "ytlgafmgohinkbaa", sum := "52bf8e71297706f8aa98494a53a864446ac7636e8b098752105e85a9daf2bad7", func := "loop.example/g00402/laws.FnExactFilterRight", spec := "fnExactFilterRight", unfollowed := true, recurses := true, apart := false }
def FnExactFilterRightSaid : Prop := fnExactFilterRightRow.holds Try.pinned (OpenSpec.ofChange fnExactFilterRightSpec)

/-- ITS FALSE NEIGHBOUR: 'it returns false'. Refute it at one input. -/
def fnExactFilterRightWrong : ChangeSpec := { name := "fnExactFilterRight", fn := fun _ => fun
  | [d] => { results := [.lit (.bool false)], args := [d] }
  | _ => none }
def FnExactFilterRightWrongFalsely : Prop := fnExactFilterRightRow.holds Try.pinned (OpenSpec.ofChange fnExactFilterRightWrong)

/-- 'laws.FnExactFilterAttrs': WHATEVER THE INPUT: true; the input reads as it did. -/
def fnExactFilterAttrsSpec : ChangeSpec := { name := "fnExactFilterAttrs", fn := fun _ => fun
  | [d] => { results := [.lit (.bool true)], args := [d] }
  | _ => none }
def fnExactFilterAttrsRow : OpenClaim := { program := "ytlgafmgohinkbaa", sum := "52bf8e71297706f8aa98494a53a864446ac7636e8b098752105e85a9daf2bad7", func := "loop.example/g00402/laws.FnExactFilterAttrs", spec := "fnExactFilterAttrs", inPlace := ["internal/bytealg.abigen_runtime_cmpstring"], unfollowed := true, recurses := true, apart := false }
def FnExactFilterAttrsSaid : Prop := fnExactFilterAttrsRow.holds Try.pinned (OpenSpec.ofChange fnExactFilterAttrsSpec)

/-- ITS FALSE NEIGHBOUR: 'it returns false'. Refute it at one input. -/
def fnExactFilterAttrsWrong : ChangeSpec := { name := "fnExactFilterAttrs", fn := fun _ => fun
  | [d] => { results := [.lit (.bool false)], args := [d] }
  | _ => none }
def FnExactFilterAttrsWrongFalsely : Prop := fnExactFilterAttrsRow.holds Try.pinned (OpenSpec.ofChange fnExactFilterAttrsWrong)

/-- 'laws.FnExactModRight': WHATEVER THE INPUT: true; the input reads as it did. -/
def fnExactModRightSpec : ChangeSpec := { name := "fnExactModRight", fn := fun _ => fun
  | [d] => { results := [.lit (.bool true)], args := [d] }
  | _ => none }
def fnExactModRightRow : OpenClaim := { program := "ytlgafmgohinkbaa", sum := "52bf8e71297706f8aa98494a53a864446ac7636e8b098752105e85a9daf2bad7", func := "loop.example/g00402/laws.FnExactModRight", spec := "fnExactModRight", inPlace := ["internal/bytealg.abigen_runtime_cmpstring"], unfollowed := true, recurses := true, apart := false }
def FnExactModRightSaid : Prop := fnExactModRightRow.holds Try.pinned (OpenSpec.ofChange fnExactModRightSpec)

/-- ITS FALSE NEIGHBOUR: 'it returns false'. Refute it at one input. -/
def fnExactModRightWrong : ChangeSpec := { name := "fnExactModRight", fn := fun _ => fun
  | [d] => { results := [.lit (.bool false)], args := [d] }
  | _ => none }
def FnExactModRightWrongFalsely : Prop := fnExactModRightRow.holds Try.pinned (OpenSpec.ofChange fnExactModRightWrong)

/-- 'laws.FnExactPageOf': WHATEVER THE INPUT: true; the input reads as it did. -/
def fnExactPageOfSpec : ChangeSpec := { name := "fnExactPageOf", fn := fun _ => fun
  | [d1, d2, d3] => { results := [.lit (.bool true)], args := [d1, d2, d3] }
  | _ => none }
def fnExactPageOfRow : OpenClaim := { program := "ytlgafmgohinkbaa", sum := "52bf8e71297706f8aa98494a53a864446ac7636e8b098752105e85a9daf2bad7", func := "loop.example/g00402/laws.FnExactPageOf", spec := "fnExactPageOf", unfollowed := true, recurses := true, apart := false }
def FnExactPageOfSaid : Prop := fnExactPageOfRow.holds Try.pinned (OpenSpec.ofChange fnExactPageOfSpec)

/-- ITS FALSE NEIGHBOUR: 'it returns false'. Refute it at one input. -/
def fnExactPageOfWrong : ChangeSpec := { name := "fnExactPageOf", fn := fun _ => fun
  | [d1, d2, d3] => { results := [.lit (.bool false)], args := [d1, d2, d3] }
  | _ => none }
def FnExactPageOfWrongFalsely : Prop := fnExactPageOfRow.holds Try.pinned (OpenSpec.ofChange fnExactPageOfWrong)

/-- 'laws.FnExactTreeNew': WHATEVER THE INPUT: true; the input reads as it did. -/
def fnExactTreeNewSpec : ChangeSpec := { name := "fnExactTreeNew", fn := fun _ => fun
  | [d] => { results := [.lit (.bool true)], args := [d] }
  | _ => none }
def fnExactTreeNewRow : OpenClaim := { program := "ytlgafmgohinkbaa", sum := "52bf8e71297706f8aa98494a53a864446ac7636e8b098752105e85a9daf2bad7", func := "loop.example/g00402/laws.FnExactTreeNew", spec := "fnExactTreeNew", inPlace := ["internal/bytealg.abigen_runtime_cmpstring"], unfollowed := true, recurses := true, apart := false }
def FnExactTreeNewSaid : Prop := fnExactTreeNewRow.holds Try.pinned (OpenSpec.ofChange fnExactTreeNewSpec)

/-- ITS FALSE NEIGHBOUR: 'it returns false'. Refute it at one input. -/
def fnExactTreeNewWrong : ChangeSpec := { name := "fnExactTreeNew", fn := fun _ => fun
  | [d] => { results := [.lit (.bool false)], args := [d] }
  | _ => none }
def FnExactTreeNewWrongFalsely : Prop := fnExactTreeNewRow.holds Try.pinned (OpenSpec.ofChange fnExactTreeNewWrong)

/-- 'laws.FnExactClassOf': WHATEVER THE INPUT: true; the input reads as it did. -/
def fnExactClassOfSpec : ChangeSpec := { name := "fnExactClassOf", fn := fun _ => fun
  | [d1, d2] => { results := [.lit (.bool true)], args := [d1, d2] }
  | _ => none }
def fnExactClassOfRow : OpenClaim := { program := "ytlgafmgohinkbaa", sum := "52bf8e71297706f8aa98494a53a864446ac7636e8b098752105e85a9daf2bad7", func := "loop.example/g00402/laws.FnExactClassOf", spec := "fnExactClassOf", inPlace := ["internal/bytealg.abigen_runtime_cmpstring"], unfollowed := true, recurses := true, apart := false }
def FnExactClassOfSaid : Prop := fnExactClassOfRow.holds Try.pinned (OpenSpec.ofChange fnExactClassOfSpec)

/-- ITS FALSE NEIGHBOUR: 'it returns false'. Refute it at one input. -/
def fnExactClassOfWrong : ChangeSpec := { name := "fnExactClassOf", fn := fun _ => fun
  | [d1, d2] => { results := [.lit (.bool false)], args := [d1, d2] }
  | _ => none }
def FnExactClassOfWrongFalsely : Prop := fnExactClassOfRow.holds Try.pinned (OpenSpec.ofChange fnExactClassOfWrong)

/-- 'laws.FnAcl': WHATEVER THE INPUT: true; the input reads as it did. -/
def fnAclSpec : ChangeSpec := { name := "fnAcl", fn := fun _ => fun
  | [d1, d2] => { results := [.lit (.bool true)], args := [d1, d2] }
  | _ => none }
def fnAclRow : OpenClaim := { program := "ytlgafmgohinkbaa", sum := "52bf8e71297706f8aa98494a53a864446ac7636e8b098752105e85a9daf2bad7", func := "loop.example/g00402/laws.FnAcl", spec := "fnAcl", inPlace := ["internal/bytealg.abigen_runtime_cmpstring"], unfollowed := true, recurses := true, apart := false }
def FnAclSaid : Prop := fnAclRow.holds Try.pinned (OpenSpec.ofChange fnAclSpec)

/-- ITS FALSE NEIGHBOUR: 'it returns false'. Refute it at one input. -/
def fnAclWrong : ChangeSpec := { name := "fnAcl", fn := fun _ => fun
  | [d1, d2] => { results := [.lit (.bool false)], args := [d1, d2] }
  | _ => none }
def FnAclWrongFalsely : Prop := fnAclRow.holds Try.pinned (OpenSpec.ofChange fnAclWrong)

/-- 'laws.FnView': WHATEVER THE INPUT: true; the input reads as it did. -/
def fnViewSpec : ChangeSpec := { name := "fnView", fn := fun _ => fun
  | [d1, d2] => { results := [.lit (.bool true)], args := [d1, d2] }
  | _ => none }
def fnViewRow : OpenClaim := { program := "ytlgafmgohinkbaa", sum := "52bf8e71297706f8aa98494a53a864446ac7636e8b098752105e85a9daf2bad7", func := "loop.example/g00402/laws.FnView", spec := "fnView", inPlace := ["internal/bytealg.abigen_runtime_cmpstring"], unfollowed := true, recurses := true, apart := false }
def FnViewSaid : Prop := fnViewRow.holds Try.pinned (OpenSpec.ofChange fnViewSpec)

/-- ITS FALSE NEIGHBOUR: 'it returns false'. Refute it at one input. -/
def fnViewWrong : ChangeSpec := { name := "fnView", fn := fun _ => fun
  | [d1, d2] => { results := [.lit (.bool false)], args := [d1, d2] }
  | _ => none }
def FnViewWrongFalsely : Prop := fnViewRow.holds Try.pinned (OpenSpec.ofChange fnViewWrong)

/- THE SECOND FORM. 'bulk': how many values and letters a reading holds, each counted each time it is reached (what is shared counts as often as it is met; a slice's spare places count too). A statement '..UptoSaid' is the law's where the arguments, and the package variables that the reading takes, are together of bulk at most 1048576: NARROWER than '..Said'. Prove '..Said' where nothing that the law and all that it calls make is longer than what came in: it says more and counts as full. Else prove '..UptoSaid'. A law counts once. -/
mutual
def uptoBulk {H : Type} : DataW H → Nat
  | .lit (.string bytes) => bytes.length + 1
  | .lit _ => 1
  | .nil => 1
  | .ptr d => uptoBulk d + 1
  | .slice elems spare => uptoBulkAll elems + uptoBulkAll spare + 1
  | .agg parts => uptoBulkAll parts + 1
  | .iface _ d => uptoBulk d + 1
  | .map entries => uptoBulkEntries entries + 1
  | .held _ => 1
def uptoBulkAll {H : Type} : List (DataW H) → Nat
  | [] => 0
  | d :: r => uptoBulk d + uptoBulkAll r
def uptoBulkEntries {H : Type} : List (Lit × DataW H) → Nat
  | [] => 0
  | x :: r => uptoBulkEntry x + uptoBulkEntries r
def uptoBulkEntry {H : Type} : Lit × DataW H → Nat
  | (.string bytes, d) => bytes.length + uptoBulk d + 1
  | (_, d) => uptoBulk d + 1
 end
def uptoSmall : (H : Type) → List (DataW H) → Bool := fun _ ds => decide (uptoBulkAll ds ≤ 1048576)
def OpenSpec.upto (s : _root_.Go.ChangeSpec) : _root_.Go.OpenSpec := { _root_.Go.OpenSpec.ofChange s with cond := some uptoSmall }

/-- 'laws.FnExactFilterRight', WHERE WHAT IT READS IS OF BULK AT MOST 1048576: true; the input reads as it did. -/
def fnExactFilterRightUptoRow : OpenClaim := { program := "ytlgafmgohinkbaa", sum := "52bf8e71297706f8aa98494a53a864446ac7636e8b098752105e85a9daf2bad7", func := "loop.example/g00402/laws.FnExactFilterRight", spec := "fnExactFilterRight", unfollowed := true, recurses := true, apart := false, narrowed := true }
def FnExactFilterRightUptoSaid : Prop := fnExactFilterRightUptoRow.holds Try.pinned (OpenSpec.upto fnExactFilterRightSpec)

/-- 'laws.FnExactFilterAttrs', WHERE WHAT IT READS IS OF BULK AT MOST 1048576: true; the input reads as it did. -/
def fnExactFilterAttrsUptoRow : OpenClaim := { program := "ytlgafmgohinkbaa", sum := "52bf8e71297706f8aa98494a53a864446ac7636e8b098752105e85a9daf2bad7", func := "loop.example/g00402/laws.FnExactFilterAttrs", spec := "fnExactFilterAttrs", inPlace := ["internal/bytealg.abigen_runtime_cmpstring"], unfollowed := true, recurses := true, apart := false, narrowed := true }
def FnExactFilterAttrsUptoSaid : Prop := fnExactFilterAttrsUptoRow.holds Try.pinned (OpenSpec.upto fnExactFilterAttrsSpec)

/-- 'laws.FnExactModRight', WHERE WHAT IT READS IS OF BULK AT MOST 1048576: true; the input reads as it did. -/
def fnExactModRightUptoRow : OpenClaim := { program := "ytlgafmgohinkbaa", sum := "52bf8e71297706f8aa98494a53a864446ac7636e8b098752105e85a9daf2bad7", func := "loop.example/g00402/laws.FnExactModRight", spec := "fnExactModRight", inPlace := ["internal/bytealg.abigen_runtime_cmpstring"], unfollowed := true, recurses := true, apart := false, narrowed := true }
def FnExactModRightUptoSaid : Prop := fnExactModRightUptoRow.holds Try.pinned (OpenSpec.upto fnExactModRightSpec)

/-- 'laws.FnExactPageOf', WHERE WHAT IT READS IS OF BULK AT MOST 1048576: true; the input reads as it did. -/
def fnExactPageOfUptoRow : OpenClaim := { program := "ytlgafmgohinkbaa", sum := "52bf8e71297706f8aa98494a53a864446ac7636e8b098752105e85a9daf2bad7", func := "loop.example/g00402/laws.FnExactPageOf", spec := "fnExactPageOf", unfollowed := true, recurses := true, apart := false, narrowed := true }
def FnExactPageOfUptoSaid : Prop := fnExactPageOfUptoRow.holds Try.pinned (OpenSpec.upto fnExactPageOfSpec)

/-- 'laws.FnExactTreeNew', WHERE WHAT IT READS IS OF BULK AT MOST 1048576: true; the input reads as it did. -/
def fnExactTreeNewUptoRow : OpenClaim := { program := "ytlgafmgohinkbaa", sum := "52bf8e71297706f8aa98494a53a864446ac7636e8b098752105e85a9daf2bad7", func := "loop.example/g00402/laws.FnExactTreeNew", spec := "fnExactTreeNew", inPlace := ["internal/bytealg.abigen_runtime_cmpstring"], unfollowed := true, recurses := true, apart := false, narrowed := true }
def FnExactTreeNewUptoSaid : Prop := fnExactTreeNewUptoRow.holds Try.pinned (OpenSpec.upto fnExactTreeNewSpec)

/-- 'laws.FnExactClassOf', WHERE WHAT IT READS IS OF BULK AT MOST 1048576: true; the input reads as it did. -/
def fnExactClassOfUptoRow : OpenClaim := { program := "ytlgafmgohinkbaa", sum := "52bf8e71297706f8aa98494a53a864446ac7636e8b098752105e85a9daf2bad7", func := "loop.example/g00402/laws.FnExactClassOf", spec := "fnExactClassOf", inPlace := ["internal/bytealg.abigen_runtime_cmpstring"], unfollowed := true, recurses := true, apart := false, narrowed := true }
def FnExactClassOfUptoSaid : Prop := fnExactClassOfUptoRow.holds Try.pinned (OpenSpec.upto fnExactClassOfSpec)

/-- 'laws.FnAcl', WHERE WHAT IT READS IS OF BULK AT MOST 1048576: true; the input reads as it did. -/
def fnAclUptoRow : OpenClaim := { program := "ytlgafmgohinkbaa", sum := "52bf8e71297706f8aa98494a53a864446ac7636e8b098752105e85a9daf2bad7", func := "loop.example/g00402/laws.FnAcl", spec := "fnAcl", inPlace := ["internal/bytealg.abigen_runtime_cmpstring"], unfollowed := true, recurses := true, apart := false, narrowed := true }
def FnAclUptoSaid : Prop := fnAclUptoRow.holds Try.pinned (OpenSpec.upto fnAclSpec)

/-- 'laws.FnView', WHERE WHAT IT READS IS OF BULK AT MOST 1048576: true; the input reads as it did. -/
def fnViewUptoRow : OpenClaim := { program := "ytlgafmgohinkbaa", sum := "52bf8e71297706f8aa98494a53a864446ac7636e8b098752105e85a9daf2bad7", func := "loop.example/g00402/laws.FnView", spec := "fnView", inPlace := ["internal/bytealg.abigen_runtime_cmpstring"], unfollowed := true, recurses := true, apart := false, narrowed := true }
def FnViewUptoSaid : Prop := fnViewUptoRow.holds Try.pinned (OpenSpec.upto fnViewSpec)

end Rows
end Go.Proofs.Ytlgafmgohinkbaa
