/-
  No cell of these rows narrows 'for every input' (looked for: loops, veiled, ifaces, maps, wideKeys, modest, calm, conditions, laid).
  DERIVED. THE GIVEN ROWS OF THIS SEAT. 4 by the template 'for every input the law returns true; each argument reads behind the call as it read before'; 0 by the template 'total and deterministic' (their statements: YtmanlnlhpgdbpaaGreatTotals.lean).
  GIVEN WITH THE SEED: the statements are not yours to turn. If you find one false, say at which input.
  Laid BY PROGRAM, IN A SANDBOX (cutbox-rows.mjs): the forced cells as the released guide's own fill.sh prints them over the translation 232f89e242db9bea… (all of the seat's roots in one cut). By AI agents, Wed Nov 11 2026. No macro, syntax, notation, axiom, sorry.
-/
import Derived.Test.YtmanlnlhpgdbpaaGreatChecked
import GoSem.Claim
import GoSem.ClaimJoined
import GoSem.ClaimMapViews
import Derived.JoinedTies
import Derived.KernelRfl
namespace Go.Proofs.YtmanlnlhpgdbpaaGreat
/- THE CELL 'sum', in the pinned program and in every row, IS THE sha256 OF THE DUMP (.gsa) THAT YtmanlnlhpgdbpaaGreatProg.lean LOADS. Nothing in Lean hashes anything: it is a label: what it is worth is what the hold of that sum in a sandbox is worth. -/
noncomputable def Tryz.pinned : Pinned := { name := "ytmanlnlhpgdbpaagreat", sum := "232f89e242db9beaac5a7a76ef2e582ff0b0c050d33924fa78148b74ffb01547", checked := Tryz.checked }
namespace Rows
def none {H : Type} : Left H := { results := [], args := [] }

/-- 'laws.FnExactChangesRight': WHATEVER THE INPUT: true; the input reads as it did. -/
def fnExactChangesRightSpec : ChangeSpec := { name := "fnExactChangesRight", fn := fun _ => fun
  | [d] => { results := [.lit (.bool true)], args := [d] }
  | _ => none }
def fnExactChangesRightRow : OpenClaim := { program := "ytmanlnlhpgdbpaagreat", sum := "232f89e242db9beaac5a7a76ef2e582ff0b0c050d33924fa78148b74ffb01547", func := "loop.example/g00402/laws.FnExactChangesRight", spec := "fnExactChangesRight", inPlace := ["internal/bytealg.IndexByteString", "internal/bytealg.IndexString", "internal/abi.NoEscape", "internal/bytealg.MakeNoZero", "internal/bytealg.abigen_runtime_cmpstring"], unfollowed := true, recurses := true, named := ["internal/bytealg.MaxLen"], apart := false }
def FnExactChangesRightSaid : Prop := fnExactChangesRightRow.holds Tryz.pinned (OpenSpec.ofChange fnExactChangesRightSpec)

/-- ITS FALSE NEIGHBOUR: 'it returns false'. Refute it at one input. -/
def fnExactChangesRightWrong : ChangeSpec := { name := "fnExactChangesRight", fn := fun _ => fun
  | [d] => { results := [.lit (.bool false)], args := [d] }
  | _ => none }
def FnExactChangesRightWrongFalsely : Prop := fnExactChangesRightRow.holds Tryz.pinned (OpenSpec.ofChange fnExactChangesRightWrong)

/-- 'laws.FnExactChangeAdd': WHATEVER THE INPUT: true; the input reads as it did. -/
def fnExactChangeAddSpec : ChangeSpec := { name := "fnExactChangeAdd", fn := fun _ => fun
  | [d1, d2, d3, d4] => { results := [.lit (.bool true)], args := [d1, d2, d3, d4] }
  | _ => none }
def fnExactChangeAddRow : OpenClaim := { program := "ytmanlnlhpgdbpaagreat", sum := "232f89e242db9beaac5a7a76ef2e582ff0b0c050d33924fa78148b74ffb01547", func := "loop.example/g00402/laws.FnExactChangeAdd", spec := "fnExactChangeAdd", inPlace := ["internal/abi.NoEscape", "internal/bytealg.MakeNoZero", "internal/bytealg.IndexByteString", "internal/bytealg.IndexString", "internal/bytealg.abigen_runtime_cmpstring"], unfollowed := true, recurses := true, named := ["internal/bytealg.MaxLen"], apart := false }
def FnExactChangeAddSaid : Prop := fnExactChangeAddRow.holds Tryz.pinned (OpenSpec.ofChange fnExactChangeAddSpec)

/-- ITS FALSE NEIGHBOUR: 'it returns false'. Refute it at one input. -/
def fnExactChangeAddWrong : ChangeSpec := { name := "fnExactChangeAdd", fn := fun _ => fun
  | [d1, d2, d3, d4] => { results := [.lit (.bool false)], args := [d1, d2, d3, d4] }
  | _ => none }
def FnExactChangeAddWrongFalsely : Prop := fnExactChangeAddRow.holds Tryz.pinned (OpenSpec.ofChange fnExactChangeAddWrong)

/-- 'laws.FnExactChangesSince': WHATEVER THE INPUT: true; the input reads as it did. -/
def fnExactChangesSinceSpec : ChangeSpec := { name := "fnExactChangesSince", fn := fun _ => fun
  | [d1, d2] => { results := [.lit (.bool true)], args := [d1, d2] }
  | _ => none }
def fnExactChangesSinceRow : OpenClaim := { program := "ytmanlnlhpgdbpaagreat", sum := "232f89e242db9beaac5a7a76ef2e582ff0b0c050d33924fa78148b74ffb01547", func := "loop.example/g00402/laws.FnExactChangesSince", spec := "fnExactChangesSince", inPlace := ["internal/bytealg.IndexByteString", "internal/bytealg.IndexString", "internal/abi.NoEscape", "internal/bytealg.MakeNoZero", "internal/bytealg.abigen_runtime_cmpstring"], unfollowed := true, recurses := true, named := ["internal/bytealg.MaxLen"], apart := false }
def FnExactChangesSinceSaid : Prop := fnExactChangesSinceRow.holds Tryz.pinned (OpenSpec.ofChange fnExactChangesSinceSpec)

/-- ITS FALSE NEIGHBOUR: 'it returns false'. Refute it at one input. -/
def fnExactChangesSinceWrong : ChangeSpec := { name := "fnExactChangesSince", fn := fun _ => fun
  | [d1, d2] => { results := [.lit (.bool false)], args := [d1, d2] }
  | _ => none }
def FnExactChangesSinceWrongFalsely : Prop := fnExactChangesSinceRow.holds Tryz.pinned (OpenSpec.ofChange fnExactChangesSinceWrong)

/-- 'laws.FnExactChangesTrim': WHATEVER THE INPUT: true; the input reads as it did. -/
def fnExactChangesTrimSpec : ChangeSpec := { name := "fnExactChangesTrim", fn := fun _ => fun
  | [d1, d2] => { results := [.lit (.bool true)], args := [d1, d2] }
  | _ => none }
def fnExactChangesTrimRow : OpenClaim := { program := "ytmanlnlhpgdbpaagreat", sum := "232f89e242db9beaac5a7a76ef2e582ff0b0c050d33924fa78148b74ffb01547", func := "loop.example/g00402/laws.FnExactChangesTrim", spec := "fnExactChangesTrim", inPlace := ["internal/bytealg.IndexByteString", "internal/bytealg.IndexString", "internal/abi.NoEscape", "internal/bytealg.MakeNoZero", "internal/bytealg.abigen_runtime_cmpstring"], unfollowed := true, recurses := true, named := ["internal/bytealg.MaxLen"], apart := false }
def FnExactChangesTrimSaid : Prop := fnExactChangesTrimRow.holds Tryz.pinned (OpenSpec.ofChange fnExactChangesTrimSpec)

/-- ITS FALSE NEIGHBOUR: 'it returns false'. Refute it at one input. -/
def fnExactChangesTrimWrong : ChangeSpec := { name := "fnExactChangesTrim", fn := fun _ => fun
  | [d1, d2] => { results := [.lit (.bool false)], args := [d1, d2] }
  | _ => none }
def FnExactChangesTrimWrongFalsely : Prop := fnExactChangesTrimRow.holds Tryz.pinned (OpenSpec.ofChange fnExactChangesTrimWrong)

/- THE SECOND FORM. 'bulk': how many values and letters a reading holds, each counted each time it is reached (what is shared counts as often as it is met; a slice's spare places count too). A statement '..UptoSaid' is the law's where the arguments, and the package variables that the reading takes, are together of bulk at most 1048576: NARROWER than '..Said'. Prove '..Said' where nothing that the law and all that it calls make is longer than what came in: it says more and counts as full. Else prove '..UptoSaid'. A law counts once. -/
mutual
def uptoBulk {H : Type} : DataW H → Nat
  | .lit (.string bytes) => bytes.length + 1
  | .lit _ => 1
  | .nil => 1
  | .ptr d => uptoBulk d + 1
  | .slice elems spare => uptoBulkAll elems + uptoBulkAll spare + 1
  | .agg parts => uptoBulkAll parts + 1
  | .iface _ d => uptoBulk d + 1
  | .map entries => uptoBulkEntries entries + 1
  | .held _ => 1
def uptoBulkAll {H : Type} : List (DataW H) → Nat
  | [] => 0
  | d :: r => uptoBulk d + uptoBulkAll r
def uptoBulkEntries {H : Type} : List (Lit × DataW H) → Nat
  | [] => 0
  | x :: r => uptoBulkEntry x + uptoBulkEntries r
def uptoBulkEntry {H : Type} : Lit × DataW H → Nat
  | (.string bytes, d) => bytes.length + uptoBulk d + 1
  | (_, d) => uptoBulk d + 1
 end
def uptoSmall : (H : Type) → List (DataW H) → Bool := fun _ ds => decide (uptoBulkAll ds ≤ 1048576)
def OpenSpec.upto (s : _root_.Go.ChangeSpec) : _root_.Go.OpenSpec := { _root_.Go.OpenSpec.ofChange s with cond := some uptoSmall }

/-- 'laws.FnExactChangesRight', WHERE WHAT IT READS IS OF BULK AT MOST 1048576: true; the input reads as it did. -/
def fnExactChangesRightUptoRow : OpenClaim := { program := "ytmanlnlhpgdbpaagreat", sum := "232f89e242db9beaac5a7a76ef2e582ff0b0c050d33924fa78148b74ffb01547", func := "loop.example/g00402/laws.FnExactChangesRight", spec := "fnExactChangesRight", inPlace := ["internal/bytealg.IndexByteString", "internal/bytealg.IndexString", "internal/abi.NoEscape", "internal/bytealg.MakeNoZero", "internal/bytealg.abigen_runtime_cmpstring"], unfollowed := true, recurses := true, named := ["internal/bytealg.MaxLen"], apart := false, narrowed := true }
def FnExactChangesRightUptoSaid : Prop := fnExactChangesRightUptoRow.holds Tryz.pinned (OpenSpec.upto fnExactChangesRightSpec)

/-- 'laws.FnExactChangeAdd', WHERE WHAT IT READS IS OF BULK AT MOST 1048576: true; the input reads as it did. -/
def fnExactChangeAddUptoRow : OpenClaim := { program := "ytmanlnlhpgdbpaagreat", sum := "232f89e242db9beaac5a7a76ef2e582ff0b0c050d33924fa78148b74ffb01547", func := "loop.example/g00402/laws.FnExactChangeAdd", spec := "fnExactChangeAdd", inPlace := ["internal/abi.NoEscape", "internal/bytealg.MakeNoZero", "internal/bytealg.IndexByteString", "internal/bytealg.IndexString", "internal/bytealg.abigen_runtime_cmpstring"], unfollowed := true, recurses := true, named := ["internal/bytealg.MaxLen"], apart := false, narrowed := true }
def FnExactChangeAddUptoSaid : Prop := fnExactChangeAddUptoRow.holds Tryz.pinned (OpenSpec.upto fnExactChangeAddSpec)

/-- 'laws.FnExactChangesSince', WHERE WHAT IT READS IS OF BULK AT MOST 1048576: true; the input reads as it did. -/
def fnExactChangesSinceUptoRow : OpenClaim := { program := "ytmanlnlhpgdbpaagreat", sum := "232f89e242db9beaac5a7a76ef2e582ff0b0c050d33924fa78148b74ffb01547", func := "loop.example/g00402/laws.FnExactChangesSince", spec := "fnExactChangesSince", inPlace := ["internal/bytealg.IndexByteString", "internal/bytealg.IndexString", "internal/abi.NoEscape", "internal/bytealg.MakeNoZero", "internal/bytealg.abigen_runtime_cmpstring"], unfollowed := true, recurses := true, named := ["internal/bytealg.MaxLen"], apart := false, narrowed := true }
def FnExactChangesSinceUptoSaid : Prop := fnExactChangesSinceUptoRow.holds Tryz.pinned (OpenSpec.upto fnExactChangesSinceSpec)

/-- 'laws.FnExactChangesTrim', WHERE WHAT IT READS IS OF BULK AT MOST 1048576: true; the input reads as it did. -/
def fnExactChangesTrimUptoRow : OpenClaim := { program := "ytmanlnlhpgdbpaagreat", sum := "232f89e242db9beaac5a7a76ef2e582ff0b0c050d33924fa78148b74ffb01547", func := "loop.example/g00402/laws.FnExactChangesTrim", spec := "fnExactChangesTrim", inPlace := ["internal/bytealg.IndexByteString", "internal/bytealg.IndexString", "internal/abi.NoEscape", "internal/bytealg.MakeNoZero", "internal/bytealg.abigen_runtime_cmpstring"], unfollowed := true, recurses := true, named := ["internal/bytealg.MaxLen"], apart := false, narrowed := true }
def FnExactChangesTrimUptoSaid : Prop := fnExactChangesTrimUptoRow.holds Tryz.pinned (OpenSpec.upto fnExactChangesTrimSpec)

end Rows
end Go.Proofs.YtmanlnlhpgdbpaaGreat
