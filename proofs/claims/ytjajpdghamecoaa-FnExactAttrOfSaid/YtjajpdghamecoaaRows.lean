/-
  No cell of these rows narrows 'for every input' (looked for: loops, veiled, ifaces, maps, wideKeys, modest, calm, conditions, laid).
  DERIVED. THE GIVEN ROWS OF THIS SEAT. 7 by the template 'for every input the law returns true; each argument reads behind the call as it read before'; 0 by the template 'total and deterministic' (their statements: YtjajpdghamecoaaTotals.lean).
  GIVEN WITH THE SEED: the statements are not yours to turn. If you find one false, say at which input.
  Laid BY PROGRAM, IN A SANDBOX (cutbox-rows.mjs): the forced cells as the released guide's own fill.sh prints them over the translation 0dcf6ecf16b67fe3… (all of the seat's roots in one cut). By AI agents, Wed Nov 11 2026. No macro, syntax, notation, axiom, sorry.
-/
import Derived.Test.YtjajpdghamecoaaChecked
import GoSem.Claim
import GoSem.ClaimJoined
import GoSem.ClaimMapViews
import Derived.JoinedTies
import Derived.KernelRfl
namespace Go.Proofs.Ytjajpdghamecoaa
/- THE CELL 'sum', in the pinned program and in every row, IS THE sha256 OF THE DUMP (.gsa) THAT YtjajpdghamecoaaProg.lean LOADS. Nothing in Lean hashes anything: it is a label: what it is worth is what the hold of that sum in a sandbox is worth. -/
noncomputable def Try.pinned : Pinned := { name := "ytjajpdghamecoaa", sum := "0dcf6ecf16b67fe3a1af9d41f657727844617c0e6ee6cc35d21bf90835d56176", checked := Try.checked }
namespace Rows
def none {H : Type} : Left H := { results := [], args := [] }

/-- 'laws.FnDn': WHATEVER THE INPUT: true; the input reads as it did. -/
def fnDnSpec : ChangeSpec := { name := "fnDn", fn := fun _ => fun
  | [d1, d2] => { results := [.lit (.bool true)], args := [d1, d2] }
  | _ => none }
def fnDnRow : OpenClaim := { program := "ytjajpdghamecoaa", sum := "0dcf6ecf16b67fe3a1af9d41f657727844617c0e6ee6cc35d21bf90835d56176", func := "loop.example/g00402/laws.FnDn", spec := "fnDn", inPlace := ["internal/abi.NoEscape", "internal/bytealg.MakeNoZero", "internal/bytealg.IndexByteString", "internal/bytealg.IndexString"], named := ["internal/bytealg.MaxLen"], apart := false }
def FnDnSaid : Prop := fnDnRow.holds Try.pinned (OpenSpec.ofChange fnDnSpec)

/-- ITS FALSE NEIGHBOUR: 'it returns false'. Refute it at one input. -/
def fnDnWrong : ChangeSpec := { name := "fnDn", fn := fun _ => fun
  | [d1, d2] => { results := [.lit (.bool false)], args := [d1, d2] }
  | _ => none }
def FnDnWrongFalsely : Prop := fnDnRow.holds Try.pinned (OpenSpec.ofChange fnDnWrong)

/-- 'laws.FnUnder': WHATEVER THE INPUT: true; the input reads as it did. -/
def fnUnderSpec : ChangeSpec := { name := "fnUnder", fn := fun _ => fun
  | [d1, d2] => { results := [.lit (.bool true)], args := [d1, d2] }
  | _ => none }
def fnUnderRow : OpenClaim := { program := "ytjajpdghamecoaa", sum := "0dcf6ecf16b67fe3a1af9d41f657727844617c0e6ee6cc35d21bf90835d56176", func := "loop.example/g00402/laws.FnUnder", spec := "fnUnder", apart := false }
def FnUnderSaid : Prop := fnUnderRow.holds Try.pinned (OpenSpec.ofChange fnUnderSpec)

/-- ITS FALSE NEIGHBOUR: 'it returns false'. Refute it at one input. -/
def fnUnderWrong : ChangeSpec := { name := "fnUnder", fn := fun _ => fun
  | [d1, d2] => { results := [.lit (.bool false)], args := [d1, d2] }
  | _ => none }
def FnUnderWrongFalsely : Prop := fnUnderRow.holds Try.pinned (OpenSpec.ofChange fnUnderWrong)

/-- 'laws.FnExactEntryRight': WHATEVER THE INPUT: true; the input reads as it did. -/
def fnExactEntryRightSpec : ChangeSpec := { name := "fnExactEntryRight", fn := fun _ => fun
  | [d] => { results := [.lit (.bool true)], args := [d] }
  | _ => none }
def fnExactEntryRightRow : OpenClaim := { program := "ytjajpdghamecoaa", sum := "0dcf6ecf16b67fe3a1af9d41f657727844617c0e6ee6cc35d21bf90835d56176", func := "loop.example/g00402/laws.FnExactEntryRight", spec := "fnExactEntryRight", inPlace := ["internal/bytealg.abigen_runtime_cmpstring"], unfollowed := true, recurses := true, apart := false }
def FnExactEntryRightSaid : Prop := fnExactEntryRightRow.holds Try.pinned (OpenSpec.ofChange fnExactEntryRightSpec)

/-- ITS FALSE NEIGHBOUR: 'it returns false'. Refute it at one input. -/
def fnExactEntryRightWrong : ChangeSpec := { name := "fnExactEntryRight", fn := fun _ => fun
  | [d] => { results := [.lit (.bool false)], args := [d] }
  | _ => none }
def FnExactEntryRightWrongFalsely : Prop := fnExactEntryRightRow.holds Try.pinned (OpenSpec.ofChange fnExactEntryRightWrong)

/-- 'laws.FnExactAttrOf': WHATEVER THE INPUT: true; the input reads as it did. -/
def fnExactAttrOfSpec : ChangeSpec := { name := "fnExactAttrOf", fn := fun _ => fun
  | [d1, d2] => { results := [.lit (.bool true)], args := [d1, d2] }
  | _ => none }
def fnExactAttrOfRow : OpenClaim := { program := "ytjajpdghamecoaa", sum := "0dcf6ecf16b67fe3a1af9d41f657727844617c0e6ee6cc35d21bf90835d56176", func := "loop.example/g00402/laws.FnExactAttrOf", spec := "fnExactAttrOf", inPlace := ["internal/bytealg.abigen_runtime_cmpstring"], unfollowed := true, recurses := true, apart := false }
def FnExactAttrOfSaid : Prop := fnExactAttrOfRow.holds Try.pinned (OpenSpec.ofChange fnExactAttrOfSpec)

/-- ITS FALSE NEIGHBOUR: 'it returns false'. Refute it at one input. -/
def fnExactAttrOfWrong : ChangeSpec := { name := "fnExactAttrOf", fn := fun _ => fun
  | [d1, d2] => { results := [.lit (.bool false)], args := [d1, d2] }
  | _ => none }
def FnExactAttrOfWrongFalsely : Prop := fnExactAttrOfRow.holds Try.pinned (OpenSpec.ofChange fnExactAttrOfWrong)

/-- 'laws.FnExactHasValue': WHATEVER THE INPUT: true; the input reads as it did. -/
def fnExactHasValueSpec : ChangeSpec := { name := "fnExactHasValue", fn := fun _ => fun
  | [d1, d2, d3] => { results := [.lit (.bool true)], args := [d1, d2, d3] }
  | _ => none }
def fnExactHasValueRow : OpenClaim := { program := "ytjajpdghamecoaa", sum := "0dcf6ecf16b67fe3a1af9d41f657727844617c0e6ee6cc35d21bf90835d56176", func := "loop.example/g00402/laws.FnExactHasValue", spec := "fnExactHasValue", inPlace := ["internal/bytealg.abigen_runtime_cmpstring"], unfollowed := true, recurses := true, apart := false }
def FnExactHasValueSaid : Prop := fnExactHasValueRow.holds Try.pinned (OpenSpec.ofChange fnExactHasValueSpec)

/-- ITS FALSE NEIGHBOUR: 'it returns false'. Refute it at one input. -/
def fnExactHasValueWrong : ChangeSpec := { name := "fnExactHasValue", fn := fun _ => fun
  | [d1, d2, d3] => { results := [.lit (.bool false)], args := [d1, d2, d3] }
  | _ => none }
def FnExactHasValueWrongFalsely : Prop := fnExactHasValueRow.holds Try.pinned (OpenSpec.ofChange fnExactHasValueWrong)

/-- 'laws.FnExactEntrySame': WHATEVER THE INPUT: true; the input reads as it did. -/
def fnExactEntrySameSpec : ChangeSpec := { name := "fnExactEntrySame", fn := fun _ => fun
  | [d1, d2] => { results := [.lit (.bool true)], args := [d1, d2] }
  | _ => none }
def fnExactEntrySameRow : OpenClaim := { program := "ytjajpdghamecoaa", sum := "0dcf6ecf16b67fe3a1af9d41f657727844617c0e6ee6cc35d21bf90835d56176", func := "loop.example/g00402/laws.FnExactEntrySame", spec := "fnExactEntrySame", inPlace := ["internal/bytealg.abigen_runtime_cmpstring"], unfollowed := true, recurses := true, apart := false }
def FnExactEntrySameSaid : Prop := fnExactEntrySameRow.holds Try.pinned (OpenSpec.ofChange fnExactEntrySameSpec)

/-- ITS FALSE NEIGHBOUR: 'it returns false'. Refute it at one input. -/
def fnExactEntrySameWrong : ChangeSpec := { name := "fnExactEntrySame", fn := fun _ => fun
  | [d1, d2] => { results := [.lit (.bool false)], args := [d1, d2] }
  | _ => none }
def FnExactEntrySameWrongFalsely : Prop := fnExactEntrySameRow.holds Try.pinned (OpenSpec.ofChange fnExactEntrySameWrong)

/-- 'laws.FnExactEntryBytes': WHATEVER THE INPUT: true; the input reads as it did. -/
def fnExactEntryBytesSpec : ChangeSpec := { name := "fnExactEntryBytes", fn := fun _ => fun
  | [d] => { results := [.lit (.bool true)], args := [d] }
  | _ => none }
def fnExactEntryBytesRow : OpenClaim := { program := "ytjajpdghamecoaa", sum := "0dcf6ecf16b67fe3a1af9d41f657727844617c0e6ee6cc35d21bf90835d56176", func := "loop.example/g00402/laws.FnExactEntryBytes", spec := "fnExactEntryBytes", inPlace := ["internal/bytealg.abigen_runtime_cmpstring", "internal/abi.NoEscape", "internal/bytealg.MakeNoZero"], unfollowed := true, recurses := true, apart := false }
def FnExactEntryBytesSaid : Prop := fnExactEntryBytesRow.holds Try.pinned (OpenSpec.ofChange fnExactEntryBytesSpec)

/-- ITS FALSE NEIGHBOUR: 'it returns false'. Refute it at one input. -/
def fnExactEntryBytesWrong : ChangeSpec := { name := "fnExactEntryBytes", fn := fun _ => fun
  | [d] => { results := [.lit (.bool false)], args := [d] }
  | _ => none }
def FnExactEntryBytesWrongFalsely : Prop := fnExactEntryBytesRow.holds Try.pinned (OpenSpec.ofChange fnExactEntryBytesWrong)

/- THE SECOND FORM. 'bulk': how many values and letters a reading holds, each counted each time it is reached (what is shared counts as often as it is met; a slice's spare places count too). A statement '..UptoSaid' is the law's where the arguments, and the package variables that the reading takes, are together of bulk at most 1048576: NARROWER than '..Said'. Prove '..Said' where nothing that the law and all that it calls make is longer than what came in: it says more and counts as full. Else prove '..UptoSaid'. A law counts once. -/
mutual
def uptoBulk {H : Type} : DataW H → Nat
  | .lit (.string bytes) => bytes.length + 1
  | .lit _ => 1
  | .nil => 1
  | .ptr d => uptoBulk d + 1
  | .slice elems spare => uptoBulkAll elems + uptoBulkAll spare + 1
  | .agg parts => uptoBulkAll parts + 1
  | .iface _ d => uptoBulk d + 1
  | .map entries => uptoBulkEntries entries + 1
  | .held _ => 1
def uptoBulkAll {H : Type} : List (DataW H) → Nat
  | [] => 0
  | d :: r => uptoBulk d + uptoBulkAll r
def uptoBulkEntries {H : Type} : List (Lit × DataW H) → Nat
  | [] => 0
  | x :: r => uptoBulkEntry x + uptoBulkEntries r
def uptoBulkEntry {H : Type} : Lit × DataW H → Nat
  | (.string bytes, d) => bytes.length + uptoBulk d + 1
  | (_, d) => uptoBulk d + 1
 end
def uptoSmall : (H : Type) → List (DataW H) → Bool := fun _ ds => decide (uptoBulkAll ds ≤ 1048576)
def OpenSpec.upto (s : _root_.Go.ChangeSpec) : _root_.Go.OpenSpec := { _root_.Go.OpenSpec.ofChange s with cond := some uptoSmall }

/-- 'laws.FnDn', WHERE WHAT IT READS IS OF BULK AT MOST 1048576: true; the input reads as it did. -/
def fnDnUptoRow : OpenClaim := { program := "ytjajpdghamecoaa", sum := "0dcf6ecf16b67fe3a1af9d41f657727844617c0e6ee6cc35d21bf90835d56176", func := "loop.example/g00402/laws.FnDn", spec := "fnDn", inPlace := ["internal/abi.NoEscape", "internal/bytealg.MakeNoZero", "internal/bytealg.IndexByteString", "internal/bytealg.IndexString"], named := ["internal/bytealg.MaxLen"], apart := false, narrowed := true }
def FnDnUptoSaid : Prop := fnDnUptoRow.holds Try.pinned (OpenSpec.upto fnDnSpec)

/-- 'laws.FnUnder', WHERE WHAT IT READS IS OF BULK AT MOST 1048576: true; the input reads as it did. -/
def fnUnderUptoRow : OpenClaim := { program := "ytjajpdghamecoaa", sum := "0dcf6ecf16b67fe3a1af9d41f657727844617c0e6ee6cc35d21bf90835d56176", func := "loop.example/g00402/laws.FnUnder", spec := "fnUnder", apart := false, narrowed := true }
def FnUnderUptoSaid : Prop := fnUnderUptoRow.holds Try.pinned (OpenSpec.upto fnUnderSpec)

/-- 'laws.FnExactEntryRight', WHERE WHAT IT READS IS OF BULK AT MOST 1048576: true; the input reads as it did. -/
def fnExactEntryRightUptoRow : OpenClaim := { program := "ytjajpdghamecoaa", sum := "0dcf6ecf16b67fe3a1af9d41f657727844617c0e6ee6cc35d21bf90835d56176", func := "loop.example/g00402/laws.FnExactEntryRight", spec := "fnExactEntryRight", inPlace := ["internal/bytealg.abigen_runtime_cmpstring"], unfollowed := true, recurses := true, apart := false, narrowed := true }
def FnExactEntryRightUptoSaid : Prop := fnExactEntryRightUptoRow.holds Try.pinned (OpenSpec.upto fnExactEntryRightSpec)

/-- 'laws.FnExactAttrOf', WHERE WHAT IT READS IS OF BULK AT MOST 1048576: true; the input reads as it did. -/
def fnExactAttrOfUptoRow : OpenClaim := { program := "ytjajpdghamecoaa", sum := "0dcf6ecf16b67fe3a1af9d41f657727844617c0e6ee6cc35d21bf90835d56176", func := "loop.example/g00402/laws.FnExactAttrOf", spec := "fnExactAttrOf", inPlace := ["internal/bytealg.abigen_runtime_cmpstring"], unfollowed := true, recurses := true, apart := false, narrowed := true }
def FnExactAttrOfUptoSaid : Prop := fnExactAttrOfUptoRow.holds Try.pinned (OpenSpec.upto fnExactAttrOfSpec)

/-- 'laws.FnExactHasValue', WHERE WHAT IT READS IS OF BULK AT MOST 1048576: true; the input reads as it did. -/
def fnExactHasValueUptoRow : OpenClaim := { program := "ytjajpdghamecoaa", sum := "0dcf6ecf16b67fe3a1af9d41f657727844617c0e6ee6cc35d21bf90835d56176", func := "loop.example/g00402/laws.FnExactHasValue", spec := "fnExactHasValue", inPlace := ["internal/bytealg.abigen_runtime_cmpstring"], unfollowed := true, recurses := true, apart := false, narrowed := true }
def FnExactHasValueUptoSaid : Prop := fnExactHasValueUptoRow.holds Try.pinned (OpenSpec.upto fnExactHasValueSpec)

/-- 'laws.FnExactEntrySame', WHERE WHAT IT READS IS OF BULK AT MOST 1048576: true; the input reads as it did. -/
def fnExactEntrySameUptoRow : OpenClaim := { program := "ytjajpdghamecoaa", sum := "0dcf6ecf16b67fe3a1af9d41f657727844617c0e6ee6cc35d21bf90835d56176", func := "loop.example/g00402/laws.FnExactEntrySame", spec := "fnExactEntrySame", inPlace := ["internal/bytealg.abigen_runtime_cmpstring"], unfollowed := true, recurses := true, apart := false, narrowed := true }
def FnExactEntrySameUptoSaid : Prop := fnExactEntrySameUptoRow.holds Try.pinned (OpenSpec.upto fnExactEntrySameSpec)

/-- 'laws.FnExactEntryBytes', WHERE WHAT IT READS IS OF BULK AT MOST 1048576: true; the input reads as it did. -/
def fnExactEntryBytesUptoRow : OpenClaim := { program := "ytjajpdghamecoaa", sum := "0dcf6ecf16b67fe3a1af9d41f657727844617c0e6ee6cc35d21bf90835d56176", func := "loop.example/g00402/laws.FnExactEntryBytes", spec := "fnExactEntryBytes", inPlace := ["internal/bytealg.abigen_runtime_cmpstring", "internal/abi.NoEscape", "internal/bytealg.MakeNoZero"], unfollowed := true, recurses := true, apart := false, narrowed := true }
def FnExactEntryBytesUptoSaid : Prop := fnExactEntryBytesUptoRow.holds Try.pinned (OpenSpec.upto fnExactEntryBytesSpec)

end Rows
end Go.Proofs.Ytjajpdghamecoaa
