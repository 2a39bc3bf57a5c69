/-
  NARROWER THAN 'FOR EVERY INPUT', by the rows' own cells (each row's printed sentence says how): FnExactCheck: ifaces, laid · FnExactTreeRight: ifaces, laid · FnExactTreeGet: ifaces, laid · FnExactTreeAdd: ifaces, laid · FnExactTreeDelete: ifaces, laid · FnExactTreeModify: ifaces, laid.
  DERIVED. THE GIVEN ROWS OF THIS SEAT. 6 by the template 'for every input the law returns true; each argument reads behind the call as it read before'; 0 by the template 'total and deterministic' (their statements: YtohcdpoffpnfhaaGreatDoorTotals.lean).
  GIVEN WITH THE SEED: the statements are not yours to turn. If you find one false, say at which input.
  Laid BY PROGRAM, IN A SANDBOX (cutbox-rows.mjs): the forced cells as the released guide's own fill.sh prints them over the translation d78d17abb9e19a0f… (all of the seat's roots in one cut). By AI agents, Wed Nov 11 2026. No macro, syntax, notation, axiom, sorry.
-/
import Derived.Test.YtohcdpoffpnfhaaGreatDoorChecked
import GoSem.Claim
import GoSem.ClaimJoined
import GoSem.ClaimMapViews
import Derived.JoinedTies
import Derived.KernelRfl
namespace Go.Proofs.YtohcdpoffpnfhaaGreatDoor
/- THE CELL 'sum', in the pinned program and in every row, IS THE sha256 OF THE DUMP (.gsa) THAT YtohcdpoffpnfhaaGreatDoorProg.lean LOADS. Nothing in Lean hashes anything: it is a label: what it is worth is what the hold of that sum in a sandbox is worth. -/
noncomputable def Tryz.pinned : Pinned := { name := "ytohcdpoffpnfhaagreatdoor", sum := "d78d17abb9e19a0fe90779b531a0076151727a04f3e45fe2e059a78ecf730d13", checked := Tryz.checked }
namespace Rows
def none {H : Type} : Left H := { results := [], args := [] }

/- WHAT THE LISTED PACKAGE-LEVEL VARIABLES READ AS WHEN THE CALL BEGINS. Each datum BY PROGRAM (the guide's laid-datum.mjs) off the statement by which the dump's own 'gosem.cut.vars' lays the variable. In a bare row this is a premise. The card (YtohcdpoffpnfhaaGreatDoorCards.lean) ties it to the program's text. -/
def laid_loop_example_g00402_impl_errInvalid {H : Type} : DataW H := .iface "*errors.errorString" (.ptr (.agg [.lit (.string [105, 110, 118, 97, 108, 105, 100, 32, 115, 99, 104, 101, 109, 97, 32, 111, 114, 32, 101, 110, 116, 114, 121])]))
def laid_loop_example_g00402_impl_errViolates {H : Type} : DataW H := .iface "*errors.errorString" (.ptr (.agg [.lit (.string [101, 110, 116, 114, 121, 32, 118, 105, 111, 108, 97, 116, 101, 115, 32, 116, 104, 101, 32, 115, 99, 104, 101, 109, 97])]))

/-- 'laws.FnExactCheck': WHATEVER THE INPUT: true; the input reads as it did. -/
def fnExactCheckSpec : ChangeSpec := { name := "fnExactCheck", vars := ["loop.example/g00402/impl.errInvalid", "loop.example/g00402/impl.errViolates"], fn := fun _ => fun
  | [d1, d2, g1, g2] => { results := [.lit (.bool true)], args := [d1, d2], vars := [g1, g2] }
  | _ => none }
def fnExactCheckRow : OpenClaim := { program := "ytohcdpoffpnfhaagreatdoor", sum := "d78d17abb9e19a0fe90779b531a0076151727a04f3e45fe2e059a78ecf730d13", func := "loop.example/g00402/laws.FnExactCheck", spec := "fnExactCheck", inPlace := ["internal/bytealg.abigen_runtime_cmpstring", "internal/reflectlite.TypeOf"], unfollowed := true, recurses := true, named := ["loop.example/g00402/impl.errInvalid", "loop.example/g00402/impl.errViolates"], ifaces := true, apart := false, laid := [("loop.example/g00402/impl.errInvalid", laid_loop_example_g00402_impl_errInvalid), ("loop.example/g00402/impl.errViolates", laid_loop_example_g00402_impl_errViolates)] }
def FnExactCheckSaid : Prop := fnExactCheckRow.holds Tryz.pinned (OpenSpec.ofChange fnExactCheckSpec)

/-- ITS FALSE NEIGHBOUR: 'it returns false'. Refute it at one input. -/
def fnExactCheckWrong : ChangeSpec := { name := "fnExactCheck", vars := ["loop.example/g00402/impl.errInvalid", "loop.example/g00402/impl.errViolates"], fn := fun _ => fun
  | [d1, d2, g1, g2] => { results := [.lit (.bool false)], args := [d1, d2], vars := [g1, g2] }
  | _ => none }
def FnExactCheckWrongFalsely : Prop := fnExactCheckRow.holds Tryz.pinned (OpenSpec.ofChange fnExactCheckWrong)

/-- 'laws.FnExactTreeRight': WHATEVER THE INPUT: true; the input reads as it did. -/
def fnExactTreeRightSpec : ChangeSpec := { name := "fnExactTreeRight", vars := ["loop.example/g00402/impl.errInvalid", "loop.example/g00402/impl.errViolates"], fn := fun _ => fun
  | [d, g1, g2] => { results := [.lit (.bool true)], args := [d], vars := [g1, g2] }
  | _ => none }
def fnExactTreeRightRow : OpenClaim := { program := "ytohcdpoffpnfhaagreatdoor", sum := "d78d17abb9e19a0fe90779b531a0076151727a04f3e45fe2e059a78ecf730d13", func := "loop.example/g00402/laws.FnExactTreeRight", spec := "fnExactTreeRight", inPlace := ["internal/bytealg.abigen_runtime_cmpstring", "internal/reflectlite.TypeOf"], unfollowed := true, recurses := true, named := ["loop.example/g00402/impl.errInvalid", "loop.example/g00402/impl.errViolates"], ifaces := true, apart := false, laid := [("loop.example/g00402/impl.errInvalid", laid_loop_example_g00402_impl_errInvalid), ("loop.example/g00402/impl.errViolates", laid_loop_example_g00402_impl_errViolates)] }
def FnExactTreeRightSaid : Prop := fnExactTreeRightRow.holds Tryz.pinned (OpenSpec.ofChange fnExactTreeRightSpec)

/-- ITS FALSE NEIGHBOUR: 'it returns false'. Refute it at one input. -/
def fnExactTreeRightWrong : ChangeSpec := { name := "fnExactTreeRight", vars := ["loop.example/g00402/impl.errInvalid", "loop.example/g00402/impl.errViolates"], fn := fun _ => fun
  | [d, g1, g2] => { results := [.lit (.bool false)], args := [d], vars := [g1, g2] }
  | _ => none }
def FnExactTreeRightWrongFalsely : Prop := fnExactTreeRightRow.holds Tryz.pinned (OpenSpec.ofChange fnExactTreeRightWrong)

/-- 'laws.FnExactTreeGet': WHATEVER THE INPUT: true; the input reads as it did. -/
def fnExactTreeGetSpec : ChangeSpec := { name := "fnExactTreeGet", vars := ["loop.example/g00402/impl.errInvalid", "loop.example/g00402/impl.errViolates"], fn := fun _ => fun
  | [d1, d2, g1, g2] => { results := [.lit (.bool true)], args := [d1, d2], vars := [g1, g2] }
  | _ => none }
def fnExactTreeGetRow : OpenClaim := { program := "ytohcdpoffpnfhaagreatdoor", sum := "d78d17abb9e19a0fe90779b531a0076151727a04f3e45fe2e059a78ecf730d13", func := "loop.example/g00402/laws.FnExactTreeGet", spec := "fnExactTreeGet", inPlace := ["internal/bytealg.abigen_runtime_cmpstring", "internal/reflectlite.TypeOf"], unfollowed := true, recurses := true, named := ["loop.example/g00402/impl.errInvalid", "loop.example/g00402/impl.errViolates"], ifaces := true, apart := false, laid := [("loop.example/g00402/impl.errInvalid", laid_loop_example_g00402_impl_errInvalid), ("loop.example/g00402/impl.errViolates", laid_loop_example_g00402_impl_errViolates)] }
def FnExactTreeGetSaid : Prop := fnExactTreeGetRow.holds Tryz.pinned (OpenSpec.ofChange fnExactTreeGetSpec)

/-- ITS FALSE NEIGHBOUR: 'it returns false'. Refute it at one input. -/
def fnExactTreeGetWrong : ChangeSpec := { name := "fnExactTreeGet", vars := ["loop.example/g00402/impl.errInvalid", "loop.example/g00402/impl.errViolates"], fn := fun _ => fun
  | [d1, d2, g1, g2] => { results := [.lit (.bool false)], args := [d1, d2], vars := [g1, g2] }
  | _ => none }
def FnExactTreeGetWrongFalsely : Prop := fnExactTreeGetRow.holds Tryz.pinned (OpenSpec.ofChange fnExactTreeGetWrong)

/-- 'laws.FnExactTreeAdd': WHATEVER THE INPUT: true; the input reads as it did. -/
def fnExactTreeAddSpec : ChangeSpec := { name := "fnExactTreeAdd", vars := ["loop.example/g00402/impl.errInvalid", "loop.example/g00402/impl.errViolates"], fn := fun _ => fun
  | [d1, d2, g1, g2] => { results := [.lit (.bool true)], args := [d1, d2], vars := [g1, g2] }
  | _ => none }
def fnExactTreeAddRow : OpenClaim := { program := "ytohcdpoffpnfhaagreatdoor", sum := "d78d17abb9e19a0fe90779b531a0076151727a04f3e45fe2e059a78ecf730d13", func := "loop.example/g00402/laws.FnExactTreeAdd", spec := "fnExactTreeAdd", inPlace := ["internal/bytealg.abigen_runtime_cmpstring", "internal/reflectlite.TypeOf", "slices.overlaps[loop.example/g00402/impl.Entry]"], unfollowed := true, recurses := true, named := ["loop.example/g00402/impl.errInvalid", "loop.example/g00402/impl.errViolates"], ifaces := true, apart := false, laid := [("loop.example/g00402/impl.errInvalid", laid_loop_example_g00402_impl_errInvalid), ("loop.example/g00402/impl.errViolates", laid_loop_example_g00402_impl_errViolates)] }
def FnExactTreeAddSaid : Prop := fnExactTreeAddRow.holds Tryz.pinned (OpenSpec.ofChange fnExactTreeAddSpec)

/-- ITS FALSE NEIGHBOUR: 'it returns false'. Refute it at one input. -/
def fnExactTreeAddWrong : ChangeSpec := { name := "fnExactTreeAdd", vars := ["loop.example/g00402/impl.errInvalid", "loop.example/g00402/impl.errViolates"], fn := fun _ => fun
  | [d1, d2, g1, g2] => { results := [.lit (.bool false)], args := [d1, d2], vars := [g1, g2] }
  | _ => none }
def FnExactTreeAddWrongFalsely : Prop := fnExactTreeAddRow.holds Tryz.pinned (OpenSpec.ofChange fnExactTreeAddWrong)

/-- 'laws.FnExactTreeDelete': WHATEVER THE INPUT: true; the input reads as it did. -/
def fnExactTreeDeleteSpec : ChangeSpec := { name := "fnExactTreeDelete", vars := ["loop.example/g00402/impl.errInvalid", "loop.example/g00402/impl.errViolates"], fn := fun _ => fun
  | [d1, d2, g1, g2] => { results := [.lit (.bool true)], args := [d1, d2], vars := [g1, g2] }
  | _ => none }
def fnExactTreeDeleteRow : OpenClaim := { program := "ytohcdpoffpnfhaagreatdoor", sum := "d78d17abb9e19a0fe90779b531a0076151727a04f3e45fe2e059a78ecf730d13", func := "loop.example/g00402/laws.FnExactTreeDelete", spec := "fnExactTreeDelete", inPlace := ["internal/bytealg.abigen_runtime_cmpstring", "internal/reflectlite.TypeOf"], unfollowed := true, recurses := true, named := ["loop.example/g00402/impl.errInvalid", "loop.example/g00402/impl.errViolates"], ifaces := true, apart := false, laid := [("loop.example/g00402/impl.errInvalid", laid_loop_example_g00402_impl_errInvalid), ("loop.example/g00402/impl.errViolates", laid_loop_example_g00402_impl_errViolates)] }
def FnExactTreeDeleteSaid : Prop := fnExactTreeDeleteRow.holds Tryz.pinned (OpenSpec.ofChange fnExactTreeDeleteSpec)

/-- ITS FALSE NEIGHBOUR: 'it returns false'. Refute it at one input. -/
def fnExactTreeDeleteWrong : ChangeSpec := { name := "fnExactTreeDelete", vars := ["loop.example/g00402/impl.errInvalid", "loop.example/g00402/impl.errViolates"], fn := fun _ => fun
  | [d1, d2, g1, g2] => { results := [.lit (.bool false)], args := [d1, d2], vars := [g1, g2] }
  | _ => none }
def FnExactTreeDeleteWrongFalsely : Prop := fnExactTreeDeleteRow.holds Tryz.pinned (OpenSpec.ofChange fnExactTreeDeleteWrong)

/-- 'laws.FnExactTreeModify': WHATEVER THE INPUT: true; the input reads as it did. -/
def fnExactTreeModifySpec : ChangeSpec := { name := "fnExactTreeModify", vars := ["loop.example/g00402/impl.errInvalid", "loop.example/g00402/impl.errViolates"], fn := fun _ => fun
  | [d1, d2, d3, g1, g2] => { results := [.lit (.bool true)], args := [d1, d2, d3], vars := [g1, g2] }
  | _ => none }
def fnExactTreeModifyRow : OpenClaim := { program := "ytohcdpoffpnfhaagreatdoor", sum := "d78d17abb9e19a0fe90779b531a0076151727a04f3e45fe2e059a78ecf730d13", func := "loop.example/g00402/laws.FnExactTreeModify", spec := "fnExactTreeModify", inPlace := ["internal/bytealg.abigen_runtime_cmpstring", "internal/reflectlite.TypeOf"], unfollowed := true, recurses := true, named := ["loop.example/g00402/impl.errInvalid", "loop.example/g00402/impl.errViolates"], ifaces := true, apart := false, laid := [("loop.example/g00402/impl.errInvalid", laid_loop_example_g00402_impl_errInvalid), ("loop.example/g00402/impl.errViolates", laid_loop_example_g00402_impl_errViolates)] }
def FnExactTreeModifySaid : Prop := fnExactTreeModifyRow.holds Tryz.pinned (OpenSpec.ofChange fnExactTreeModifySpec)

/-- ITS FALSE NEIGHBOUR: 'it returns false'. Refute it at one input. -/
def fnExactTreeModifyWrong : ChangeSpec := { name := "fnExactTreeModify", vars := ["loop.example/g00402/impl.errInvalid", "loop.example/g00402/impl.errViolates"], fn := fun _ => fun
  | [d1, d2, d3, g1, g2] => { results := [.lit (.bool false)], args := [d1, d2, d3], vars := [g1, g2] }
  | _ => none }
def FnExactTreeModifyWrongFalsely : Prop := fnExactTreeModifyRow.holds Tryz.pinned (OpenSpec.ofChange fnExactTreeModifyWrong)

/- THE SECOND FORM. 'bulk': how many values and letters a reading holds, each counted each time it is reached (what is shared counts as often as it is met; a slice's spare places count too). A statement '..UptoSaid' is the law's where the arguments, and the package variables that the reading takes, are together of bulk at most 1048576: NARROWER than '..Said'. Prove '..Said' where nothing that the law and all that it calls make is longer than what came in: it says more and counts as full. Else prove '..UptoSaid'. A law counts once. -/
mutual
def uptoBulk {H : Type} : DataW H → Nat
  | .lit (.string bytes) => bytes.length + 1
  | .lit _ => 1
  | .nil => 1
  | .ptr d => uptoBulk d + 1
  | .slice elems spare => uptoBulkAll elems + uptoBulkAll spare + 1
  | .agg parts => uptoBulkAll parts + 1
  | .iface _ d => uptoBulk d + 1
  | .map entries => uptoBulkEntries entries + 1
  | .held _ => 1
def uptoBulkAll {H : Type} : List (DataW H) → Nat
  | [] => 0
  | d :: r => uptoBulk d + uptoBulkAll r
def uptoBulkEntries {H : Type} : List (Lit × DataW H) → Nat
  | [] => 0
  | x :: r => uptoBulkEntry x + uptoBulkEntries r
def uptoBulkEntry {H : Type} : Lit × DataW H → Nat
  | (.string bytes, d) => bytes.length + uptoBulk d + 1
  | (_, d) => uptoBulk d + 1
 end
def uptoSmall : (H : Type) → List (DataW H) → Bool := fun _ ds => decide (uptoBulkAll ds ≤ 1048576)
def OpenSpec.upto (s : _root_.Go.ChangeSpec) : _root_.Go.OpenSpec := { _root_.Go.OpenSpec.ofChange s with cond := some uptoSmall }

/-- 'laws.FnExactCheck', WHERE WHAT IT READS IS OF BULK AT MOST 1048576: true; the input reads as it did. -/
def fnExactCheckUptoRow : OpenClaim := { program := "ytohcdpoffpnfhaagreatdoor", sum := "d78d17abb9e19a0fe90779b531a0076151727a04f3e45fe2e059a78ecf730d13", func := "loop.example/g00402/laws.FnExactCheck", spec := "fnExactCheck", inPlace := ["internal/bytealg.abigen_runtime_cmpstring", "internal/reflectlite.TypeOf"], unfollowed := true, recurses := true, named := ["loop.example/g00402/impl.errInvalid", "loop.example/g00402/impl.errViolates"], ifaces := true, apart := false, laid := [("loop.example/g00402/impl.errInvalid", laid_loop_example_g00402_impl_errInvalid), ("loop.example/g00402/impl.errViolates", laid_loop_example_g00402_impl_errViolates)], narrowed := true }
def FnExactCheckUptoSaid : Prop := fnExactCheckUptoRow.holds Tryz.pinned (OpenSpec.upto fnExactCheckSpec)

/-- 'laws.FnExactTreeRight', WHERE WHAT IT READS IS OF BULK AT MOST 1048576: true; the input reads as it did. -/
def fnExactTreeRightUptoRow : OpenClaim := { program := "ytohcdpoffpnfhaagreatdoor", sum := "d78d17abb9e19a0fe90779b531a0076151727a04f3e45fe2e059a78ecf730d13", func := "loop.example/g00402/laws.FnExactTreeRight", spec := "fnExactTreeRight", inPlace := ["internal/bytealg.abigen_runtime_cmpstring", "internal/reflectlite.TypeOf"], unfollowed := true, recurses := true, named := ["loop.example/g00402/impl.errInvalid", "loop.example/g00402/impl.errViolates"], ifaces := true, apart := false, laid := [("loop.example/g00402/impl.errInvalid", laid_loop_example_g00402_impl_errInvalid), ("loop.example/g00402/impl.errViolates", laid_loop_example_g00402_impl_errViolates)], narrowed := true }
def FnExactTreeRightUptoSaid : Prop := fnExactTreeRightUptoRow.holds Tryz.pinned (OpenSpec.upto fnExactTreeRightSpec)

/-- 'laws.FnExactTreeGet', WHERE WHAT IT READS IS OF BULK AT MOST 1048576: true; the input reads as it did. -/
def fnExactTreeGetUptoRow : OpenClaim := { program := "ytohcdpoffpnfhaagreatdoor", sum := "d78d17abb9e19a0fe90779b531a0076151727a04f3e45fe2e059a78ecf730d13", func := "loop.example/g00402/laws.FnExactTreeGet", spec := "fnExactTreeGet", inPlace := ["internal/bytealg.abigen_runtime_cmpstring", "internal/reflectlite.TypeOf"], unfollowed := true, recurses := true, named := ["loop.example/g00402/impl.errInvalid", "loop.example/g00402/impl.errViolates"], ifaces := true, apart := false, laid := [("loop.example/g00402/impl.errInvalid", laid_loop_example_g00402_impl_errInvalid), ("loop.example/g00402/impl.errViolates", laid_loop_example_g00402_impl_errViolates)], narrowed := true }
def FnExactTreeGetUptoSaid : Prop := fnExactTreeGetUptoRow.holds Tryz.pinned (OpenSpec.upto fnExactTreeGetSpec)

/-- 'laws.FnExactTreeAdd', WHERE WHAT IT READS IS OF BULK AT MOST 1048576: true; the input reads as it did. -/
def fnExactTreeAddUptoRow : OpenClaim := { program := "ytohcdpoffpnfhaagreatdoor", sum := "d78d17abb9e19a0fe90779b531a0076151727a04f3e45fe2e059a78ecf730d13", func := "loop.example/g00402/laws.FnExactTreeAdd", spec := "fnExactTreeAdd", inPlace := ["internal/bytealg.abigen_runtime_cmpstring", "internal/reflectlite.TypeOf", "slices.overlaps[loop.example/g00402/impl.Entry]"], unfollowed := true, recurses := true, named := ["loop.example/g00402/impl.errInvalid", "loop.example/g00402/impl.errViolates"], ifaces := true, apart := false, laid := [("loop.example/g00402/impl.errInvalid", laid_loop_example_g00402_impl_errInvalid), ("loop.example/g00402/impl.errViolates", laid_loop_example_g00402_impl_errViolates)], narrowed := true }
def FnExactTreeAddUptoSaid : Prop := fnExactTreeAddUptoRow.holds Tryz.pinned (OpenSpec.upto fnExactTreeAddSpec)

/-- 'laws.FnExactTreeDelete', WHERE WHAT IT READS IS OF BULK AT MOST 1048576: true; the input reads as it did. -/
def fnExactTreeDeleteUptoRow : OpenClaim := { program := "ytohcdpoffpnfhaagreatdoor", sum := "d78d17abb9e19a0fe90779b531a0076151727a04f3e45fe2e059a78ecf730d13", func := "loop.example/g00402/laws.FnExactTreeDelete", spec := "fnExactTreeDelete", inPlace := ["internal/bytealg.abigen_runtime_cmpstring", "internal/reflectlite.TypeOf"], unfollowed := true, recurses := true, named := ["loop.example/g00402/impl.errInvalid", "loop.example/g00402/impl.errViolates"], ifaces := true, apart := false, laid := [("loop.example/g00402/impl.errInvalid", laid_loop_example_g00402_impl_errInvalid), ("loop.example/g00402/impl.errViolates", laid_loop_example_g00402_impl_errViolates)], narrowed := true }
def FnExactTreeDeleteUptoSaid : Prop := fnExactTreeDeleteUptoRow.holds Tryz.pinned (OpenSpec.upto fnExactTreeDeleteSpec)

/-- 'laws.FnExactTreeModify', WHERE WHAT IT READS IS OF BULK AT MOST 1048576: true; the input reads as it did. -/
def fnExactTreeModifyUptoRow : OpenClaim := { program := "ytohcdpoffpnfhaagreatdoor", sum := "d78d17abb9e19a0fe90779b531a0076151727a04f3e45fe2e059a78ecf730d13", func := "loop.example/g00402/laws.FnExactTreeModify", spec := "fnExactTreeModify", inPlace := ["internal/bytealg.abigen_runtime_cmpstring", "internal/reflectlite.TypeOf"], unfollowed := true, recurses := true, named := ["loop.example/g00402/impl.errInvalid", "loop.example/g00402/impl.errViolates"], ifaces := true, apart := false, laid := [("loop.example/g00402/impl.errInvalid", laid_loop_example_g00402_impl_errInvalid), ("loop.example/g00402/impl.errViolates", laid_loop_example_g00402_impl_errViolates)], narrowed := true }
def FnExactTreeModifyUptoSaid : Prop := fnExactTreeModifyUptoRow.holds Tryz.pinned (OpenSpec.upto fnExactTreeModifySpec)

end Rows
end Go.Proofs.YtohcdpoffpnfhaaGreatDoor
