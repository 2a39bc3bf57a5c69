/-
  No cell of these rows narrows 'for every input' (looked for: loops, veiled, ifaces, maps, wideKeys, modest, calm, conditions, laid).
  DERIVED. THE GIVEN ROWS OF THIS SEAT. 5 by the template 'for every input the law returns true; each argument reads behind the call as it read before'; 0 by the template 'total and deterministic' (their statements: YtmimobniihekiaaTotals.lean).
  GIVEN WITH THE SEED: the statements are not yours to turn. If you find one false, say at which input.
  Laid BY PROGRAM, IN A SANDBOX (cutbox-rows.mjs): the forced cells as the released guide's own fill.sh prints them over the translation bdcf5cdb566f23cf… (all of the seat's roots in one cut). By AI agents, Wed Nov 11 2026. No macro, syntax, notation, axiom, sorry.
-/
import Derived.Test.YtmimobniihekiaaChecked
import GoSem.Claim
import GoSem.ClaimJoined
import GoSem.ClaimMapViews
import Derived.JoinedTies
import Derived.KernelRfl
namespace Go.Proofs.Ytmimobniihekiaa
/- THE CELL 'sum', in the pinned program and in every row, IS THE sha256 OF THE DUMP (.gsa) THAT YtmimobniihekiaaProg.lean LOADS. Nothing in Lean hashes anything: it is a label: what it is worth is what the hold of that sum in a sandbox is worth. -/
noncomputable def Try.pinned : Pinned := { name := "ytmimobniihekiaa", sum := "bdcf5cdb566f23cf550b5cc1f8d076d01eba65e7fd7e3f9762df28abde70fc97", checked := Try.checked }
namespace Rows
def none {H : Type} : Left H := { results := [], args := [] }

/-- 'laws.FnExactFilterRight': WHATEVER THE INPUT: true; the input reads as it did. -/
def fnExactFilterRightSpec : ChangeSpec := { name := "fnExactFilterRight", fn := fun _ => fun
  | [d] => { results := [.lit (.bool true)], args := [d] }
  | _ => none }
def fnExactFilterRightRow : OpenClaim := { program := "ytmimobniihekiaa", sum := "bdcf5cdb566f23cf550b5cc1f8d076d01eba65e7fd7e3f9762df28abde70fc97", func := "loop.example/g00402/laws.FnExactFilterRight", spec := "fnExactFilterRight", unfollowed := true, recurses := true, apart := false }
def FnExactFilterRightSaid : Prop := fnExactFilterRightRow.holds Try.pinned (OpenSpec.ofChange fnExactFilterRightSpec)

/-- ITS FALSE NEIGHBOUR: 'it returns false'. Refute it at one input. -/
def fnExactFilterRightWrong : ChangeSpec := { name := "fnExactFilterRight", fn := fun _ => fun
  | [d] => { results := [.lit (.bool false)], args := [d] }
  | _ => none }
def FnExactFilterRightWrongFalsely : Prop := fnExactFilterRightRow.holds Try.pinned (OpenSpec.ofChange fnExactFilterRightWrong)

/-- 'laws.FnExactFilterAttrs': WHATEVER THE INPUT: true; the input reads as it did. -/
def fnExactFilterAttrsSpec : ChangeSpec := { name := "fnExactFilterAttrs", fn := fun _ => fun
  | [d] => { results := [.lit (.bool true)], args := [d] }
  | _ => none }
def fnExactFilterAttrsRow : OpenClaim := { program := "ytmimobniihekiaa", sum := "bdcf5cdb566f23cf550b5cc1f8d076d01eba65e7fd7e3f9762df28abde70fc97", func := "loop.example/g00402/laws.FnExactFilterAttrs", spec := "fnExactFilterAttrs", inPlace := ["internal/bytealg.abigen_runtime_cmpstring"], unfollowed := true, recurses := true, apart := false }
def FnExactFilterAttrsSaid : Prop := fnExactFilterAttrsRow.holds Try.pinned (OpenSpec.ofChange fnExactFilterAttrsSpec)

/-- ITS FALSE NEIGHBOUR: 'it returns false'. Refute it at one input. -/
def fnExactFilterAttrsWrong : ChangeSpec := { name := "fnExactFilterAttrs", fn := fun _ => fun
  | [d] => { results := [.lit (.bool false)], args := [d] }
  | _ => none }
def FnExactFilterAttrsWrongFalsely : Prop := fnExactFilterAttrsRow.holds Try.pinned (OpenSpec.ofChange fnExactFilterAttrsWrong)

/-- 'laws.FnExactSchemaRight': WHATEVER THE INPUT: true; the input reads as it did. -/
def fnExactSchemaRightSpec : ChangeSpec := { name := "fnExactSchemaRight", fn := fun _ => fun
  | [d] => { results := [.lit (.bool true)], args := [d] }
  | _ => none }
def fnExactSchemaRightRow : OpenClaim := { program := "ytmimobniihekiaa", sum := "bdcf5cdb566f23cf550b5cc1f8d076d01eba65e7fd7e3f9762df28abde70fc97", func := "loop.example/g00402/laws.FnExactSchemaRight", spec := "fnExactSchemaRight", inPlace := ["internal/bytealg.abigen_runtime_cmpstring"], unfollowed := true, recurses := true, apart := false }
def FnExactSchemaRightSaid : Prop := fnExactSchemaRightRow.holds Try.pinned (OpenSpec.ofChange fnExactSchemaRightSpec)

/-- ITS FALSE NEIGHBOUR: 'it returns false'. Refute it at one input. -/
def fnExactSchemaRightWrong : ChangeSpec := { name := "fnExactSchemaRight", fn := fun _ => fun
  | [d] => { results := [.lit (.bool false)], args := [d] }
  | _ => none }
def FnExactSchemaRightWrongFalsely : Prop := fnExactSchemaRightRow.holds Try.pinned (OpenSpec.ofChange fnExactSchemaRightWrong)

/-- 'laws.FnExactClassOf': WHATEVER THE INPUT: true; the input reads as it did. -/
def fnExactClassOfSpec : ChangeSpec := { name := "fnExactClassOf", fn := fun _ => fun
  | [d1, d2] => { results := [.lit (.bool true)], args := [d1, d2] }
  | _ => none }
def fnExactClassOfRow : OpenClaim := { program := "ytmimobniihekiaa", sum := "bdcf5cdb566f23cf550b5cc1f8d076d01eba65e7fd7e3f9762df28abde70fc97", func := "loop.example/g00402/laws.FnExactClassOf", spec := "fnExactClassOf", inPlace := ["internal/bytealg.abigen_runtime_cmpstring"], unfollowed := true, recurses := true, apart := false }
def FnExactClassOfSaid : Prop := fnExactClassOfRow.holds Try.pinned (OpenSpec.ofChange fnExactClassOfSpec)

/-- ITS FALSE NEIGHBOUR: 'it returns false'. Refute it at one input. -/
def fnExactClassOfWrong : ChangeSpec := { name := "fnExactClassOf", fn := fun _ => fun
  | [d1, d2] => { results := [.lit (.bool false)], args := [d1, d2] }
  | _ => none }
def FnExactClassOfWrongFalsely : Prop := fnExactClassOfRow.holds Try.pinned (OpenSpec.ofChange fnExactClassOfWrong)

/-- 'laws.FnExactKnown': WHATEVER THE INPUT: true; the input reads as it did. -/
def fnExactKnownSpec : ChangeSpec := { name := "fnExactKnown", fn := fun _ => fun
  | [d] => { results := [.lit (.bool true)], args := [d] }
  | _ => none }
def fnExactKnownRow : OpenClaim := { program := "ytmimobniihekiaa", sum := "bdcf5cdb566f23cf550b5cc1f8d076d01eba65e7fd7e3f9762df28abde70fc97", func := "loop.example/g00402/laws.FnExactKnown", spec := "fnExactKnown", inPlace := ["internal/bytealg.abigen_runtime_cmpstring"], unfollowed := true, recurses := true, apart := false }
def FnExactKnownSaid : Prop := fnExactKnownRow.holds Try.pinned (OpenSpec.ofChange fnExactKnownSpec)

/-- ITS FALSE NEIGHBOUR: 'it returns false'. Refute it at one input. -/
def fnExactKnownWrong : ChangeSpec := { name := "fnExactKnown", fn := fun _ => fun
  | [d] => { results := [.lit (.bool false)], args := [d] }
  | _ => none }
def FnExactKnownWrongFalsely : Prop := fnExactKnownRow.holds Try.pinned (OpenSpec.ofChange fnExactKnownWrong)

/- THE SECOND FORM. 'bulk': how many values and letters a reading holds, each counted each time it is reached (what is shared counts as often as it is met; a slice's spare places count too). A statement '..UptoSaid' is the law's where the arguments, and the package variables that the reading takes, are together of bulk at most 1048576: NARROWER than '..Said'. Prove '..Said' where nothing that the law and all that it calls make is longer than what came in: it says more and counts as full. Else prove '..UptoSaid'. A law counts once. -/
mutual
def uptoBulk {H : Type} : DataW H → Nat
  | .lit (.string bytes) => bytes.length + 1
  | .lit _ => 1
  | .nil => 1
  | .ptr d => uptoBulk d + 1
  | .slice elems spare => uptoBulkAll elems + uptoBulkAll spare + 1
  | .agg parts => uptoBulkAll parts + 1
  | .iface _ d => uptoBulk d + 1
  | .map entries => uptoBulkEntries entries + 1
  | .held _ => 1
def uptoBulkAll {H : Type} : List (DataW H) → Nat
  | [] => 0
  | d :: r => uptoBulk d + uptoBulkAll r
def uptoBulkEntries {H : Type} : List (Lit × DataW H) → Nat
  | [] => 0
  | x :: r => uptoBulkEntry x + uptoBulkEntries r
def uptoBulkEntry {H : Type} : Lit × DataW H → Nat
  | (.string bytes, d) => bytes.length + uptoBulk d + 1
  | (_, d) => uptoBulk d + 1
 end
def uptoSmall : (H : Type) → List (DataW H) → Bool := fun _ ds => decide (uptoBulkAll ds ≤ 1048576)
def OpenSpec.upto (s : _root_.Go.ChangeSpec) : _root_.Go.OpenSpec := { _root_.Go.OpenSpec.ofChange s with cond := some uptoSmall }

/-- 'laws.FnExactFilterRight', WHERE WHAT IT READS IS OF BULK AT MOST 1048576: true; the input reads as it did. -/
def fnExactFilterRightUptoRow : OpenClaim := { program := "ytmimobniihekiaa", sum := "bdcf5cdb566f23cf550b5cc1f8d076d01eba65e7fd7e3f9762df28abde70fc97", func := "loop.example/g00402/laws.FnExactFilterRight", spec := "fnExactFilterRight", unfollowed := true, recurses := true, apart := false, narrowed := true }
def FnExactFilterRightUptoSaid : Prop := fnExactFilterRightUptoRow.holds Try.pinned (OpenSpec.upto fnExactFilterRightSpec)

/-- 'laws.FnExactFilterAttrs', WHERE WHAT IT READS IS OF BULK AT MOST 1048576: true; the input reads as it did. -/
def fnExactFilterAttrsUptoRow : OpenClaim := { program := "ytmimobniihekiaa", sum := "bdcf5cdb566f23cf550b5cc1f8d076d01eba65e7fd7e3f9762df28abde70fc97", func := "loop.example/g00402/laws.FnExactFilterAttrs", spec := "fnExactFilterAttrs", inPlace := ["internal/bytealg.abigen_runtime_cmpstring"], unfollowed := true, recurses := true, apart := false, narrowed := true }
def FnExactFilterAttrsUptoSaid : Prop := fnExactFilterAttrsUptoRow.holds Try.pinned (OpenSpec.upto fnExactFilterAttrsSpec)

/-- 'laws.FnExactSchemaRight', WHERE WHAT IT READS IS OF BULK AT MOST 1048576: true; the input reads as it did. -/
def fnExactSchemaRightUptoRow : OpenClaim := { program := "ytmimobniihekiaa", sum := "bdcf5cdb566f23cf550b5cc1f8d076d01eba65e7fd7e3f9762df28abde70fc97", func := "loop.example/g00402/laws.FnExactSchemaRight", spec := "fnExactSchemaRight", inPlace := ["internal/bytealg.abigen_runtime_cmpstring"], unfollowed := true, recurses := true, apart := false, narrowed := true }
def FnExactSchemaRightUptoSaid : Prop := fnExactSchemaRightUptoRow.holds Try.pinned (OpenSpec.upto fnExactSchemaRightSpec)

/-- 'laws.FnExactClassOf', WHERE WHAT IT READS IS OF BULK AT MOST 1048576: true; the input reads as it did. -/
def fnExactClassOfUptoRow : OpenClaim := { program := "ytmimobniihekiaa", sum := "bdcf5cdb566f23cf550b5cc1f8d076d01eba65e7fd7e3f9762df28abde70fc97", func := "loop.example/g00402/laws.FnExactClassOf", spec := "fnExactClassOf", inPlace := ["internal/bytealg.abigen_runtime_cmpstring"], unfollowed := true, recurses := true, apart := false, narrowed := true }
def FnExactClassOfUptoSaid : Prop := fnExactClassOfUptoRow.holds Try.pinned (OpenSpec.upto fnExactClassOfSpec)

/-- 'laws.FnExactKnown', WHERE WHAT IT READS IS OF BULK AT MOST 1048576: true; the input reads as it did. -/
def fnExactKnownUptoRow : OpenClaim := { program := "ytmimobniihekiaa", sum := "bdcf5cdb566f23cf550b5cc1f8d076d01eba65e7fd7e3f9762df28abde70fc97", func := "loop.example/g00402/laws.FnExactKnown", spec := "fnExactKnown", inPlace := ["internal/bytealg.abigen_runtime_cmpstring"], unfollowed := true, recurses := true, apart := false, narrowed := true }
def FnExactKnownUptoSaid : Prop := fnExactKnownUptoRow.holds Try.pinned (OpenSpec.upto fnExactKnownSpec)

end Rows
end Go.Proofs.Ytmimobniihekiaa
