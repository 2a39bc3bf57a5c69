/-
  No cell of these rows narrows 'for every input' (looked for: loops, veiled, ifaces, maps, wideKeys, modest, calm, conditions, laid).
  DERIVED. THE GIVEN ROWS OF THIS SEAT. 6 by the template 'for every input the law returns true; each argument reads behind the call as it read before'; 0 by the template 'total and deterministic' (their statements: YtohcdpoffpnfhaaTotals.lean).
  GIVEN WITH THE SEED: the statements are not yours to turn. If you find one false, say at which input.
  Laid BY PROGRAM, IN A SANDBOX (cutbox-rows.mjs): the forced cells as the released guide's own fill.sh prints them over the translation d4cb2c7ea67df9ae… (all of the seat's roots in one cut). By AI agents, Wed Nov 11 2026. No macro, syntax, notation, axiom, sorry.
-/
import Derived.Test.YtohcdpoffpnfhaaChecked
import GoSem.Claim
import GoSem.ClaimJoined
import GoSem.ClaimMapViews
import Derived.JoinedTies
import Derived.KernelRfl
namespace Go.Proofs.Ytohcdpoffpnfhaa
/- THE CELL 'sum', in the pinned program and in every row, IS THE sha256 OF THE DUMP (.gsa) THAT YtohcdpoffpnfhaaProg.lean LOADS. Nothing in Lean hashes anything: it is a label: what it is worth is what the hold of that sum in a sandbox is worth. -/
noncomputable def Try.pinned : Pinned := { name := "ytohcdpoffpnfhaa", sum := "d4cb2c7ea67df9aefe886c38ad4ff455db1d7b4a19004704088d3f3b660a71bb", checked := Try.checked }
namespace Rows
def none {H : Type} : Left H := { results := [], args := [] }

/-- 'laws.FnExactBerPut': WHATEVER THE INPUT: true; the input reads as it did. -/
def fnExactBerPutSpec : ChangeSpec := { name := "fnExactBerPut", fn := fun _ => fun
  | [d1, d2] => { results := [.lit (.bool true)], args := [d1, d2] }
  | _ => none }
def fnExactBerPutRow : OpenClaim := { program := "ytohcdpoffpnfhaa", sum := "d4cb2c7ea67df9aefe886c38ad4ff455db1d7b4a19004704088d3f3b660a71bb", func := "loop.example/g00402/laws.FnExactBerPut", spec := "fnExactBerPut", apart := false }
def FnExactBerPutSaid : Prop := fnExactBerPutRow.holds Try.pinned (OpenSpec.ofChange fnExactBerPutSpec)

/-- ITS FALSE NEIGHBOUR: 'it returns false'. Refute it at one input. -/
def fnExactBerPutWrong : ChangeSpec := { name := "fnExactBerPut", fn := fun _ => fun
  | [d1, d2] => { results := [.lit (.bool false)], args := [d1, d2] }
  | _ => none }
def FnExactBerPutWrongFalsely : Prop := fnExactBerPutRow.holds Try.pinned (OpenSpec.ofChange fnExactBerPutWrong)

/-- 'laws.FnExactBerGet': WHATEVER THE INPUT: true; the input reads as it did. -/
def fnExactBerGetSpec : ChangeSpec := { name := "fnExactBerGet", fn := fun _ => fun
  | [d1, d2] => { results := [.lit (.bool true)], args := [d1, d2] }
  | _ => none }
def fnExactBerGetRow : OpenClaim := { program := "ytohcdpoffpnfhaa", sum := "d4cb2c7ea67df9aefe886c38ad4ff455db1d7b4a19004704088d3f3b660a71bb", func := "loop.example/g00402/laws.FnExactBerGet", spec := "fnExactBerGet", apart := false }
def FnExactBerGetSaid : Prop := fnExactBerGetRow.holds Try.pinned (OpenSpec.ofChange fnExactBerGetSpec)

/-- ITS FALSE NEIGHBOUR: 'it returns false'. Refute it at one input. -/
def fnExactBerGetWrong : ChangeSpec := { name := "fnExactBerGet", fn := fun _ => fun
  | [d1, d2] => { results := [.lit (.bool false)], args := [d1, d2] }
  | _ => none }
def FnExactBerGetWrongFalsely : Prop := fnExactBerGetRow.holds Try.pinned (OpenSpec.ofChange fnExactBerGetWrong)

/-- 'laws.FnExactBerAll': WHATEVER THE INPUT: true; the input reads as it did. -/
def fnExactBerAllSpec : ChangeSpec := { name := "fnExactBerAll", fn := fun _ => fun
  | [d] => { results := [.lit (.bool true)], args := [d] }
  | _ => none }
def fnExactBerAllRow : OpenClaim := { program := "ytohcdpoffpnfhaa", sum := "d4cb2c7ea67df9aefe886c38ad4ff455db1d7b4a19004704088d3f3b660a71bb", func := "loop.example/g00402/laws.FnExactBerAll", spec := "fnExactBerAll", apart := false }
def FnExactBerAllSaid : Prop := fnExactBerAllRow.holds Try.pinned (OpenSpec.ofChange fnExactBerAllSpec)

/-- ITS FALSE NEIGHBOUR: 'it returns false'. Refute it at one input. -/
def fnExactBerAllWrong : ChangeSpec := { name := "fnExactBerAll", fn := fun _ => fun
  | [d] => { results := [.lit (.bool false)], args := [d] }
  | _ => none }
def FnExactBerAllWrongFalsely : Prop := fnExactBerAllRow.holds Try.pinned (OpenSpec.ofChange fnExactBerAllWrong)

/-- 'laws.FnExactBerInt': WHATEVER THE INPUT: true; the input reads as it did. -/
def fnExactBerIntSpec : ChangeSpec := { name := "fnExactBerInt", fn := fun _ => fun
  | [d1, d2] => { results := [.lit (.bool true)], args := [d1, d2] }
  | _ => none }
def fnExactBerIntRow : OpenClaim := { program := "ytohcdpoffpnfhaa", sum := "d4cb2c7ea67df9aefe886c38ad4ff455db1d7b4a19004704088d3f3b660a71bb", func := "loop.example/g00402/laws.FnExactBerInt", spec := "fnExactBerInt", apart := false }
def FnExactBerIntSaid : Prop := fnExactBerIntRow.holds Try.pinned (OpenSpec.ofChange fnExactBerIntSpec)

/-- ITS FALSE NEIGHBOUR: 'it returns false'. Refute it at one input. -/
def fnExactBerIntWrong : ChangeSpec := { name := "fnExactBerInt", fn := fun _ => fun
  | [d1, d2] => { results := [.lit (.bool false)], args := [d1, d2] }
  | _ => none }
def FnExactBerIntWrongFalsely : Prop := fnExactBerIntRow.holds Try.pinned (OpenSpec.ofChange fnExactBerIntWrong)

/-- 'laws.FnExactBerIntRead': WHATEVER THE INPUT: true; the input reads as it did. -/
def fnExactBerIntReadSpec : ChangeSpec := { name := "fnExactBerIntRead", fn := fun _ => fun
  | [d] => { results := [.lit (.bool true)], args := [d] }
  | _ => none }
def fnExactBerIntReadRow : OpenClaim := { program := "ytohcdpoffpnfhaa", sum := "d4cb2c7ea67df9aefe886c38ad4ff455db1d7b4a19004704088d3f3b660a71bb", func := "loop.example/g00402/laws.FnExactBerIntRead", spec := "fnExactBerIntRead", apart := false }
def FnExactBerIntReadSaid : Prop := fnExactBerIntReadRow.holds Try.pinned (OpenSpec.ofChange fnExactBerIntReadSpec)

/-- ITS FALSE NEIGHBOUR: 'it returns false'. Refute it at one input. -/
def fnExactBerIntReadWrong : ChangeSpec := { name := "fnExactBerIntRead", fn := fun _ => fun
  | [d] => { results := [.lit (.bool false)], args := [d] }
  | _ => none }
def FnExactBerIntReadWrongFalsely : Prop := fnExactBerIntReadRow.holds Try.pinned (OpenSpec.ofChange fnExactBerIntReadWrong)

/-- 'laws.FnBer': WHATEVER THE INPUT: true; the input reads as it did. -/
def fnBerSpec : ChangeSpec := { name := "fnBer", fn := fun _ => fun
  | [d1, d2] => { results := [.lit (.bool true)], args := [d1, d2] }
  | _ => none }
def fnBerRow : OpenClaim := { program := "ytohcdpoffpnfhaa", sum := "d4cb2c7ea67df9aefe886c38ad4ff455db1d7b4a19004704088d3f3b660a71bb", func := "loop.example/g00402/laws.FnBer", spec := "fnBer", apart := false }
def FnBerSaid : Prop := fnBerRow.holds Try.pinned (OpenSpec.ofChange fnBerSpec)

/-- ITS FALSE NEIGHBOUR: 'it returns false'. Refute it at one input. -/
def fnBerWrong : ChangeSpec := { name := "fnBer", fn := fun _ => fun
  | [d1, d2] => { results := [.lit (.bool false)], args := [d1, d2] }
  | _ => none }
def FnBerWrongFalsely : Prop := fnBerRow.holds Try.pinned (OpenSpec.ofChange fnBerWrong)

/- THE SECOND FORM. 'bulk': how many values and letters a reading holds, each counted each time it is reached (what is shared counts as often as it is met; a slice's spare places count too). A statement '..UptoSaid' is the law's where the arguments, and the package variables that the reading takes, are together of bulk at most 1048576: NARROWER than '..Said'. Prove '..Said' where nothing that the law and all that it calls make is longer than what came in: it says more and counts as full. Else prove '..UptoSaid'. A law counts once. -/
mutual
def uptoBulk {H : Type} : DataW H → Nat
  | .lit (.string bytes) => bytes.length + 1
  | .lit _ => 1
  | .nil => 1
  | .ptr d => uptoBulk d + 1
  | .slice elems spare => uptoBulkAll elems + uptoBulkAll spare + 1
  | .agg parts => uptoBulkAll parts + 1
  | .iface _ d => uptoBulk d + 1
  | .map entries => uptoBulkEntries entries + 1
  | .held _ => 1
def uptoBulkAll {H : Type} : List (DataW H) → Nat
  | [] => 0
  | d :: r => uptoBulk d + uptoBulkAll r
def uptoBulkEntries {H : Type} : List (Lit × DataW H) → Nat
  | [] => 0
  | x :: r => uptoBulkEntry x + uptoBulkEntries r
def uptoBulkEntry {H : Type} : Lit × DataW H → Nat
  | (.string bytes, d) => bytes.length + uptoBulk d + 1
  | (_, d) => uptoBulk d + 1
 end
def uptoSmall : (H : Type) → List (DataW H) → Bool := fun _ ds => decide (uptoBulkAll ds ≤ 1048576)
def OpenSpec.upto (s : _root_.Go.ChangeSpec) : _root_.Go.OpenSpec := { _root_.Go.OpenSpec.ofChange s with cond := some uptoSmall }

/-- 'laws.FnExactBerPut', WHERE WHAT IT READS IS OF BULK AT MOST 1048576: true; the input reads as it did. -/
def fnExactBerPutUptoRow : OpenClaim := { program := "ytohcdpoffpnfhaa", sum := "d4cb2c7ea67df9aefe886c38ad4ff455db1d7b4a19004704088d3f3b660a71bb", func := "loop.example/g00402/laws.FnExactBerPut", spec := "fnExactBerPut", apart := false, narrowed := true }
def FnExactBerPutUptoSaid : Prop := fnExactBerPutUptoRow.holds Try.pinned (OpenSpec.upto fnExactBerPutSpec)

/-- 'laws.FnExactBerGet', WHERE WHAT IT READS IS OF BULK AT MOST 1048576: true; the input reads as it did. -/
def fnExactBerGetUptoRow : OpenClaim := { program := "ytohcdpoffpnfhaa", sum := "d4cb2c7ea67df9aefe886c38ad4ff455db1d7b4a19004704088d3f3b660a71bb", func := "loop.example/g00402/laws.FnExactBerGet", spec := "fnExactBerGet", apart := false, narrowed := true }
def FnExactBerGetUptoSaid : Prop := fnExactBerGetUptoRow.holds Try.pinned (OpenSpec.upto fnExactBerGetSpec)

/-- 'laws.FnExactBerAll', WHERE WHAT IT READS IS OF BULK AT MOST 1048576: true; the input reads as it did. -/
def fnExactBerAllUptoRow : OpenClaim := { program := "ytohcdpoffpnfhaa", sum := "d4cb2c7ea67df9aefe886c38ad4ff455db1d7b4a19004704088d3f3b660a71bb", func := "loop.example/g00402/laws.FnExactBerAll", spec := "fnExactBerAll", apart := false, narrowed := true }
def FnExactBerAllUptoSaid : Prop := fnExactBerAllUptoRow.holds Try.pinned (OpenSpec.upto fnExactBerAllSpec)

/-- 'laws.FnExactBerInt', WHERE WHAT IT READS IS OF BULK AT MOST 1048576: true; the input reads as it did. -/
def fnExactBerIntUptoRow : OpenClaim := { program := "ytohcdpoffpnfhaa", sum := "d4cb2c7ea67df9aefe886c38ad4ff455db1d7b4a19004704088d3f3b660a71bb", func := "loop.example/g00402/laws.FnExactBerInt", spec := "fnExactBerInt", apart := false, narrowed := true }
def FnExactBerIntUptoSaid : Prop := fnExactBerIntUptoRow.holds Try.pinned (OpenSpec.upto fnExactBerIntSpec)

/-- 'laws.FnExactBerIntRead', WHERE WHAT IT READS IS OF BULK AT MOST 1048576: true; the input reads as it did. -/
def fnExactBerIntReadUptoRow : OpenClaim := { program := "ytohcdpoffpnfhaa", sum := "d4cb2c7ea67df9aefe886c38ad4ff455db1d7b4a19004704088d3f3b660a71bb", func := "loop.example/g00402/laws.FnExactBerIntRead", spec := "fnExactBerIntRead", apart := false, narrowed := true }
def FnExactBerIntReadUptoSaid : Prop := fnExactBerIntReadUptoRow.holds Try.pinned (OpenSpec.upto fnExactBerIntReadSpec)

/-- 'laws.FnBer', WHERE WHAT IT READS IS OF BULK AT MOST 1048576: true; the input reads as it did. -/
def fnBerUptoRow : OpenClaim := { program := "ytohcdpoffpnfhaa", sum := "d4cb2c7ea67df9aefe886c38ad4ff455db1d7b4a19004704088d3f3b660a71bb", func := "loop.example/g00402/laws.FnBer", spec := "fnBer", apart := false, narrowed := true }
def FnBerUptoSaid : Prop := fnBerUptoRow.holds Try.pinned (OpenSpec.upto fnBerSpec)

end Rows
end Go.Proofs.Ytohcdpoffpnfhaa
