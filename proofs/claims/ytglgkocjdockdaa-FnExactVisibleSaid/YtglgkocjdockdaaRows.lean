/-
  No cell of these rows narrows 'for every input' (looked for: loops, veiled, ifaces, maps, wideKeys, modest, calm, conditions, laid).
  DERIVED. THE GIVEN ROWS OF THIS SEAT. 9 by the template 'for every input the law returns true; each argument reads behind the call as it read before'; 0 by the template 'total and deterministic' (their statements: YtglgkocjdockdaaTotals.lean).
  GIVEN WITH THE SEED: the statements are not yours to turn. If you find one false, say at which input.
  Laid BY PROGRAM, IN A SANDBOX (cutbox-rows.mjs): the forced cells as the released guide's own fill.sh prints them over the translation 7215780a31ec9e3e… (all of the seat's roots in one cut). By AI agents, Wed Nov 11 2026. No macro, syntax, notation, axiom, sorry.
-/
import Derived.Test.YtglgkocjdockdaaChecked
import GoSem.Claim
import GoSem.ClaimJoined
import GoSem.ClaimMapViews
import Derived.JoinedTies
import Derived.KernelRfl
namespace Go.Proofs.Ytglgkocjdockdaa
/- THE CELL 'sum', in the pinned program and in every row, IS THE sha256 OF THE DUMP (.gsa) THAT YtglgkocjdockdaaProg.lean LOADS. Nothing in Lean hashes anything: it is a label: what it is worth is what the hold of that sum in a sandbox is worth. -/
noncomputable def Try.pinned : Pinned := { name := "ytglgkocjdockdaa", sum := "7215780a31ec9e3e82e1940f137eae0a989ff777183a9695dc8c549765d763c2", checked := Try.checked }
namespace Rows
def none {H : Type} : Left H := { results := [], args := [] }

/-- 'laws.FnExactAclRight': WHATEVER THE INPUT: true; the input reads as it did. -/
def fnExactAclRightSpec : ChangeSpec := { name := "fnExactAclRight", fn := fun _ => fun
  | [d] => { results := [.lit (.bool true)], args := [d] }
  | _ => none }
def fnExactAclRightRow : OpenClaim := { program := "ytglgkocjdockdaa", sum := "7215780a31ec9e3e82e1940f137eae0a989ff777183a9695dc8c549765d763c2", func := "loop.example/g00402/laws.FnExactAclRight", spec := "fnExactAclRight", inPlace := ["internal/bytealg.abigen_runtime_cmpstring"], unfollowed := true, recurses := true, apart := false }
def FnExactAclRightSaid : Prop := fnExactAclRightRow.holds Try.pinned (OpenSpec.ofChange fnExactAclRightSpec)

/-- ITS FALSE NEIGHBOUR: 'it returns false'. Refute it at one input. -/
def fnExactAclRightWrong : ChangeSpec := { name := "fnExactAclRight", fn := fun _ => fun
  | [d] => { results := [.lit (.bool false)], args := [d] }
  | _ => none }
def FnExactAclRightWrongFalsely : Prop := fnExactAclRightRow.holds Try.pinned (OpenSpec.ofChange fnExactAclRightWrong)

/-- 'laws.FnExactAllowed': WHATEVER THE INPUT: true; the input reads as it did. -/
def fnExactAllowedSpec : ChangeSpec := { name := "fnExactAllowed", fn := fun _ => fun
  | [d1, d2, d3, d4, d5] => { results := [.lit (.bool true)], args := [d1, d2, d3, d4, d5] }
  | _ => none }
def fnExactAllowedRow : OpenClaim := { program := "ytglgkocjdockdaa", sum := "7215780a31ec9e3e82e1940f137eae0a989ff777183a9695dc8c549765d763c2", func := "loop.example/g00402/laws.FnExactAllowed", spec := "fnExactAllowed", inPlace := ["internal/bytealg.abigen_runtime_cmpstring"], unfollowed := true, recurses := true, apart := false }
def FnExactAllowedSaid : Prop := fnExactAllowedRow.holds Try.pinned (OpenSpec.ofChange fnExactAllowedSpec)

/-- ITS FALSE NEIGHBOUR: 'it returns false'. Refute it at one input. -/
def fnExactAllowedWrong : ChangeSpec := { name := "fnExactAllowed", fn := fun _ => fun
  | [d1, d2, d3, d4, d5] => { results := [.lit (.bool false)], args := [d1, d2, d3, d4, d5] }
  | _ => none }
def FnExactAllowedWrongFalsely : Prop := fnExactAllowedRow.holds Try.pinned (OpenSpec.ofChange fnExactAllowedWrong)

/-- 'laws.FnExactViewOf': WHATEVER THE INPUT: true; the input reads as it did. -/
def fnExactViewOfSpec : ChangeSpec := { name := "fnExactViewOf", fn := fun _ => fun
  | [d1, d2, d3] => { results := [.lit (.bool true)], args := [d1, d2, d3] }
  | _ => none }
def fnExactViewOfRow : OpenClaim := { program := "ytglgkocjdockdaa", sum := "7215780a31ec9e3e82e1940f137eae0a989ff777183a9695dc8c549765d763c2", func := "loop.example/g00402/laws.FnExactViewOf", spec := "fnExactViewOf", inPlace := ["internal/bytealg.abigen_runtime_cmpstring"], unfollowed := true, recurses := true, apart := false }
def FnExactViewOfSaid : Prop := fnExactViewOfRow.holds Try.pinned (OpenSpec.ofChange fnExactViewOfSpec)

/-- ITS FALSE NEIGHBOUR: 'it returns false'. Refute it at one input. -/
def fnExactViewOfWrong : ChangeSpec := { name := "fnExactViewOf", fn := fun _ => fun
  | [d1, d2, d3] => { results := [.lit (.bool false)], args := [d1, d2, d3] }
  | _ => none }
def FnExactViewOfWrongFalsely : Prop := fnExactViewOfRow.holds Try.pinned (OpenSpec.ofChange fnExactViewOfWrong)

/-- 'laws.FnExactVisible': WHATEVER THE INPUT: true; the input reads as it did. -/
def fnExactVisibleSpec : ChangeSpec := { name := "fnExactVisible", fn := fun _ => fun
  | [d1, d2, d3] => { results := [.lit (.bool true)], args := [d1, d2, d3] }
  | _ => none }
def fnExactVisibleRow : OpenClaim := { program := "ytglgkocjdockdaa", sum := "7215780a31ec9e3e82e1940f137eae0a989ff777183a9695dc8c549765d763c2", func := "loop.example/g00402/laws.FnExactVisible", spec := "fnExactVisible", inPlace := ["internal/bytealg.abigen_runtime_cmpstring"], unfollowed := true, recurses := true, apart := false }
def FnExactVisibleSaid : Prop := fnExactVisibleRow.holds Try.pinned (OpenSpec.ofChange fnExactVisibleSpec)

/-- ITS FALSE NEIGHBOUR: 'it returns false'. Refute it at one input. -/
def fnExactVisibleWrong : ChangeSpec := { name := "fnExactVisible", fn := fun _ => fun
  | [d1, d2, d3] => { results := [.lit (.bool false)], args := [d1, d2, d3] }
  | _ => none }
def FnExactVisibleWrongFalsely : Prop := fnExactVisibleRow.holds Try.pinned (OpenSpec.ofChange fnExactVisibleWrong)

/-- 'laws.FnExactMayChange': WHATEVER THE INPUT: true; the input reads as it did. -/
def fnExactMayChangeSpec : ChangeSpec := { name := "fnExactMayChange", fn := fun _ => fun
  | [d1, d2, d3, d4] => { results := [.lit (.bool true)], args := [d1, d2, d3, d4] }
  | _ => none }
def fnExactMayChangeRow : OpenClaim := { program := "ytglgkocjdockdaa", sum := "7215780a31ec9e3e82e1940f137eae0a989ff777183a9695dc8c549765d763c2", func := "loop.example/g00402/laws.FnExactMayChange", spec := "fnExactMayChange", inPlace := ["internal/bytealg.abigen_runtime_cmpstring"], unfollowed := true, recurses := true, apart := false }
def FnExactMayChangeSaid : Prop := fnExactMayChangeRow.holds Try.pinned (OpenSpec.ofChange fnExactMayChangeSpec)

/-- ITS FALSE NEIGHBOUR: 'it returns false'. Refute it at one input. -/
def fnExactMayChangeWrong : ChangeSpec := { name := "fnExactMayChange", fn := fun _ => fun
  | [d1, d2, d3, d4] => { results := [.lit (.bool false)], args := [d1, d2, d3, d4] }
  | _ => none }
def FnExactMayChangeWrongFalsely : Prop := fnExactMayChangeRow.holds Try.pinned (OpenSpec.ofChange fnExactMayChangeWrong)

/-- 'laws.FnAcl': WHATEVER THE INPUT: true; the input reads as it did. -/
def fnAclSpec : ChangeSpec := { name := "fnAcl", fn := fun _ => fun
  | [d1, d2] => { results := [.lit (.bool true)], args := [d1, d2] }
  | _ => none }
def fnAclRow : OpenClaim := { program := "ytglgkocjdockdaa", sum := "7215780a31ec9e3e82e1940f137eae0a989ff777183a9695dc8c549765d763c2", func := "loop.example/g00402/laws.FnAcl", spec := "fnAcl", inPlace := ["internal/bytealg.abigen_runtime_cmpstring"], unfollowed := true, recurses := true, apart := false }
def FnAclSaid : Prop := fnAclRow.holds Try.pinned (OpenSpec.ofChange fnAclSpec)

/-- ITS FALSE NEIGHBOUR: 'it returns false'. Refute it at one input. -/
def fnAclWrong : ChangeSpec := { name := "fnAcl", fn := fun _ => fun
  | [d1, d2] => { results := [.lit (.bool false)], args := [d1, d2] }
  | _ => none }
def FnAclWrongFalsely : Prop := fnAclRow.holds Try.pinned (OpenSpec.ofChange fnAclWrong)

/-- 'laws.FnView': WHATEVER THE INPUT: true; the input reads as it did. -/
def fnViewSpec : ChangeSpec := { name := "fnView", fn := fun _ => fun
  | [d1, d2] => { results := [.lit (.bool true)], args := [d1, d2] }
  | _ => none }
def fnViewRow : OpenClaim := { program := "ytglgkocjdockdaa", sum := "7215780a31ec9e3e82e1940f137eae0a989ff777183a9695dc8c549765d763c2", func := "loop.example/g00402/laws.FnView", spec := "fnView", inPlace := ["internal/bytealg.abigen_runtime_cmpstring"], unfollowed := true, recurses := true, apart := false }
def FnViewSaid : Prop := fnViewRow.holds Try.pinned (OpenSpec.ofChange fnViewSpec)

/-- ITS FALSE NEIGHBOUR: 'it returns false'. Refute it at one input. -/
def fnViewWrong : ChangeSpec := { name := "fnView", fn := fun _ => fun
  | [d1, d2] => { results := [.lit (.bool false)], args := [d1, d2] }
  | _ => none }
def FnViewWrongFalsely : Prop := fnViewRow.holds Try.pinned (OpenSpec.ofChange fnViewWrong)

/-- 'laws.FnExactFilterRight': WHATEVER THE INPUT: true; the input reads as it did. -/
def fnExactFilterRightSpec : ChangeSpec := { name := "fnExactFilterRight", fn := fun _ => fun
  | [d] => { results := [.lit (.bool true)], args := [d] }
  | _ => none }
def fnExactFilterRightRow : OpenClaim := { program := "ytglgkocjdockdaa", sum := "7215780a31ec9e3e82e1940f137eae0a989ff777183a9695dc8c549765d763c2", func := "loop.example/g00402/laws.FnExactFilterRight", spec := "fnExactFilterRight", unfollowed := true, recurses := true, apart := false }
def FnExactFilterRightSaid : Prop := fnExactFilterRightRow.holds Try.pinned (OpenSpec.ofChange fnExactFilterRightSpec)

/-- ITS FALSE NEIGHBOUR: 'it returns false'. Refute it at one input. -/
def fnExactFilterRightWrong : ChangeSpec := { name := "fnExactFilterRight", fn := fun _ => fun
  | [d] => { results := [.lit (.bool false)], args := [d] }
  | _ => none }
def FnExactFilterRightWrongFalsely : Prop := fnExactFilterRightRow.holds Try.pinned (OpenSpec.ofChange fnExactFilterRightWrong)

/-- 'laws.FnExactFilterAttrs': WHATEVER THE INPUT: true; the input reads as it did. -/
def fnExactFilterAttrsSpec : ChangeSpec := { name := "fnExactFilterAttrs", fn := fun _ => fun
  | [d] => { results := [.lit (.bool true)], args := [d] }
  | _ => none }
def fnExactFilterAttrsRow : OpenClaim := { program := "ytglgkocjdockdaa", sum := "7215780a31ec9e3e82e1940f137eae0a989ff777183a9695dc8c549765d763c2", func := "loop.example/g00402/laws.FnExactFilterAttrs", spec := "fnExactFilterAttrs", inPlace := ["internal/bytealg.abigen_runtime_cmpstring"], unfollowed := true, recurses := true, apart := false }
def FnExactFilterAttrsSaid : Prop := fnExactFilterAttrsRow.holds Try.pinned (OpenSpec.ofChange fnExactFilterAttrsSpec)

/-- ITS FALSE NEIGHBOUR: 'it returns false'. Refute it at one input. -/
def fnExactFilterAttrsWrong : ChangeSpec := { name := "fnExactFilterAttrs", fn := fun _ => fun
  | [d] => { results := [.lit (.bool false)], args := [d] }
  | _ => none }
def FnExactFilterAttrsWrongFalsely : Prop := fnExactFilterAttrsRow.holds Try.pinned (OpenSpec.ofChange fnExactFilterAttrsWrong)

/- THE SECOND FORM. 'bulk': how many values and letters a reading holds, each counted each time it is reached (what is shared counts as often as it is met; a slice's spare places count too). A statement '..UptoSaid' is the law's where the arguments, and the package variables that the reading takes, are together of bulk at most 1048576: NARROWER than '..Said'. Prove '..Said' where nothing that the law and all that it calls make is longer than what came in: it says more and counts as full. Else prove '..UptoSaid'. A law counts once. -/
mutual
def uptoBulk {H : Type} : DataW H → Nat
  | .lit (.string bytes) => bytes.length + 1
  | .lit _ => 1
  | .nil => 1
  | .ptr d => uptoBulk d + 1
  | .slice elems spare => uptoBulkAll elems + uptoBulkAll spare + 1
  | .agg parts => uptoBulkAll parts + 1
  | .iface _ d => uptoBulk d + 1
  | .map entries => uptoBulkEntries entries + 1
  | .held _ => 1
def uptoBulkAll {H : Type} : List (DataW H) → Nat
  | [] => 0
  | d :: r => uptoBulk d + uptoBulkAll r
def uptoBulkEntries {H : Type} : List (Lit × DataW H) → Nat
  | [] => 0
  | x :: r => uptoBulkEntry x + uptoBulkEntries r
def uptoBulkEntry {H : Type} : Lit × DataW H → Nat
  | (.string bytes, d) => bytes.length + uptoBulk d + 1
  | (_, d) => uptoBulk d + 1
 end
def uptoSmall : (H : Type) → List (DataW H) → Bool := fun _ ds => decide (uptoBulkAll ds ≤ 1048576)
def OpenSpec.upto (s : _root_.Go.ChangeSpec) : _root_.Go.OpenSpec := { _root_.Go.OpenSpec.ofChange s with cond := some uptoSmall }

/-- 'laws.FnExactAclRight', WHERE WHAT IT READS IS OF BULK AT MOST 1048576: true; the input reads as it did. -/
def fnExactAclRightUptoRow : OpenClaim := { program := "ytglgkocjdockdaa", sum := "7215780a31ec9e3e82e1940f137eae0a989ff777183a9695dc8c549765d763c2", func := "loop.example/g00402/laws.FnExactAclRight", spec := "fnExactAclRight", inPlace := ["internal/bytealg.abigen_runtime_cmpstring"], unfollowed := true, recurses := true, apart := false, narrowed := true }
def FnExactAclRightUptoSaid : Prop := fnExactAclRightUptoRow.holds Try.pinned (OpenSpec.upto fnExactAclRightSpec)

/-- 'laws.FnExactAllowed', WHERE WHAT IT READS IS OF BULK AT MOST 1048576: true; the input reads as it did. -/
def fnExactAllowedUptoRow : OpenClaim := { program := "ytglgkocjdockdaa", sum := "7215780a31ec9e3e82e1940f137eae0a989ff777183a9695dc8c549765d763c2", func := "loop.example/g00402/laws.FnExactAllowed", spec := "fnExactAllowed", inPlace := ["internal/bytealg.abigen_runtime_cmpstring"], unfollowed := true, recurses := true, apart := false, narrowed := true }
def FnExactAllowedUptoSaid : Prop := fnExactAllowedUptoRow.holds Try.pinned (OpenSpec.upto fnExactAllowedSpec)

/-- 'laws.FnExactViewOf', WHERE WHAT IT READS IS OF BULK AT MOST 1048576: true; the input reads as it did. -/
def fnExactViewOfUptoRow : OpenClaim := { program := "ytglgkocjdockdaa", sum := "7215780a31ec9e3e82e1940f137eae0a989ff777183a9695dc8c549765d763c2", func := "loop.example/g00402/laws.FnExactViewOf", spec := "fnExactViewOf", inPlace := ["internal/bytealg.abigen_runtime_cmpstring"], unfollowed := true, recurses := true, apart := false, narrowed := true }
def FnExactViewOfUptoSaid : Prop := fnExactViewOfUptoRow.holds Try.pinned (OpenSpec.upto fnExactViewOfSpec)

/-- 'laws.FnExactVisible', WHERE WHAT IT READS IS OF BULK AT MOST 1048576: true; the input reads as it did. -/
def fnExactVisibleUptoRow : OpenClaim := { program := "ytglgkocjdockdaa", sum := "7215780a31ec9e3e82e1940f137eae0a989ff777183a9695dc8c549765d763c2", func := "loop.example/g00402/laws.FnExactVisible", spec := "fnExactVisible", inPlace := ["internal/bytealg.abigen_runtime_cmpstring"], unfollowed := true, recurses := true, apart := false, narrowed := true }
def FnExactVisibleUptoSaid : Prop := fnExactVisibleUptoRow.holds Try.pinned (OpenSpec.upto fnExactVisibleSpec)

/-- 'laws.FnExactMayChange', WHERE WHAT IT READS IS OF BULK AT MOST 1048576: true; the input reads as it did. -/
def fnExactMayChangeUptoRow : OpenClaim := { program := "ytglgkocjdockdaa", sum := "7215780a31ec9e3e82e1940f137eae0a989ff777183a9695dc8c549765d763c2", func := "loop.example/g00402/laws.FnExactMayChange", spec := "fnExactMayChange", inPlace := ["internal/bytealg.abigen_runtime_cmpstring"], unfollowed := true, recurses := true, apart := false, narrowed := true }
def FnExactMayChangeUptoSaid : Prop := fnExactMayChangeUptoRow.holds Try.pinned (OpenSpec.upto fnExactMayChangeSpec)

/-- 'laws.FnAcl', WHERE WHAT IT READS IS OF BULK AT MOST 1048576: true; the input reads as it did. -/
def fnAclUptoRow : OpenClaim := { program := "ytglgkocjdockdaa", sum := "7215780a31ec9e3e82e1940f137eae0a989ff777183a9695dc8c549765d763c2", func := "loop.example/g00402/laws.FnAcl", spec := "fnAcl", inPlace := ["internal/bytealg.abigen_runtime_cmpstring"], unfollowed := true, recurses := true, apart := false, narrowed := true }
def FnAclUptoSaid : Prop := fnAclUptoRow.holds Try.pinned (OpenSpec.upto fnAclSpec)

/-- 'laws.FnView', WHERE WHAT IT READS IS OF BULK AT MOST 1048576: true; the input reads as it did. -/
def fnViewUptoRow : OpenClaim := { program := "ytglgkocjdockdaa", sum := "7215780a31ec9e3e82e1940f137eae0a989ff777183a9695dc8c549765d763c2", func := "loop.example/g00402/laws.FnView", spec := "fnView", inPlace := ["internal/bytealg.abigen_runtime_cmpstring"], unfollowed := true, recurses := true, apart := false, narrowed := true }
def FnViewUptoSaid : Prop := fnViewUptoRow.holds Try.pinned (OpenSpec.upto fnViewSpec)

/-- 'laws.FnExactFilterRight', WHERE WHAT IT READS IS OF BULK AT MOST 1048576: true; the input reads as it did. -/
def fnExactFilterRightUptoRow : OpenClaim := { program := "ytglgkocjdockdaa", sum := "7215780a31ec9e3e82e1940f137eae0a989ff777183a9695dc8c549765d763c2", func := "loop.example/g00402/laws.FnExactFilterRight", spec := "fnExactFilterRight", unfollowed := true, recurses := true, apart := false, narrowed := true }
def FnExactFilterRightUptoSaid : Prop := fnExactFilterRightUptoRow.holds Try.pinned (OpenSpec.upto fnExactFilterRightSpec)

/-- 'laws.FnExactFilterAttrs', WHERE WHAT IT READS IS OF BULK AT MOST 1048576: true; the input reads as it did. -/
def fnExactFilterAttrsUptoRow : OpenClaim := { program := "ytglgkocjdockdaa", sum := "7215780a31ec9e3e82e1940f137eae0a989ff777183a9695dc8c549765d763c2", func := "loop.example/g00402/laws.FnExactFilterAttrs", spec := "fnExactFilterAttrs", inPlace := ["internal/bytealg.abigen_runtime_cmpstring"], unfollowed := true, recurses := true, apart := false, narrowed := true }
def FnExactFilterAttrsUptoSaid : Prop := fnExactFilterAttrsUptoRow.holds Try.pinned (OpenSpec.upto fnExactFilterAttrsSpec)

end Rows
end Go.Proofs.Ytglgkocjdockdaa
