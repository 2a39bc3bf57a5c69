/-
  No cell of these rows narrows 'for every input' (looked for: loops, veiled, ifaces, maps, wideKeys, modest, calm, conditions, laid).
  DERIVED. THE GIVEN ROWS OF THIS SEAT. 3 by the template 'for every input the law returns true; each argument reads behind the call as it read before'; 0 by the template 'total and deterministic' (their statements: YtmanlnlhpgdbpaaTotals.lean).
  GIVEN WITH THE SEED: the statements are not yours to turn. If you find one false, say at which input.
  Laid BY PROGRAM, IN A SANDBOX (cutbox-rows.mjs): the forced cells as the released guide's own fill.sh prints them over the translation 4ffe06f8eddc314c… (all of the seat's roots in one cut). By AI agents, Wed Nov 11 2026. No macro, syntax, notation, axiom, sorry.
-/
import Derived.Test.YtmanlnlhpgdbpaaChecked
import GoSem.Claim
import GoSem.ClaimJoined
import GoSem.ClaimMapViews
import Derived.JoinedTies
import Derived.KernelRfl
namespace Go.Proofs.Ytmanlnlhpgdbpaa
/- THE CELL 'sum', in the pinned program and in every row, IS THE sha256 OF THE DUMP (.gsa) THAT YtmanlnlhpgdbpaaProg.lean LOADS. Nothing in Lean hashes anything: it is a label: what it is worth is what the hold of that sum in a sandbox is worth. -/
noncomputable def Try.pinned : Pinned := { name := "ytmanlnlhpgdbpaa", sum := "4ffe06f8eddc314cfa0fcb3b8e96c26181b9b8060e5b94098e5ba0f422af10c6", checked := Try.checked }
namespace Rows
def none {H : Type} : Left H := { results := [], args := [] }

/-- 'laws.FnExactLatest': WHATEVER THE INPUT: true; the input reads as it did. -/
def fnExactLatestSpec : ChangeSpec := { name := "fnExactLatest", fn := fun _ => fun
  | [d] => { results := [.lit (.bool true)], args := [d] }
  | _ => none }
def fnExactLatestRow : OpenClaim := { program := "ytmanlnlhpgdbpaa", sum := "4ffe06f8eddc314cfa0fcb3b8e96c26181b9b8060e5b94098e5ba0f422af10c6", func := "loop.example/g00402/laws.FnExactLatest", spec := "fnExactLatest", unfollowed := true, recurses := true, apart := false }
def FnExactLatestSaid : Prop := fnExactLatestRow.holds Try.pinned (OpenSpec.ofChange fnExactLatestSpec)

/-- ITS FALSE NEIGHBOUR: 'it returns false'. Refute it at one input. -/
def fnExactLatestWrong : ChangeSpec := { name := "fnExactLatest", fn := fun _ => fun
  | [d] => { results := [.lit (.bool false)], args := [d] }
  | _ => none }
def FnExactLatestWrongFalsely : Prop := fnExactLatestRow.holds Try.pinned (OpenSpec.ofChange fnExactLatestWrong)

/-- 'laws.FnAcl': WHATEVER THE INPUT: true; the input reads as it did. -/
def fnAclSpec : ChangeSpec := { name := "fnAcl", fn := fun _ => fun
  | [d1, d2] => { results := [.lit (.bool true)], args := [d1, d2] }
  | _ => none }
def fnAclRow : OpenClaim := { program := "ytmanlnlhpgdbpaa", sum := "4ffe06f8eddc314cfa0fcb3b8e96c26181b9b8060e5b94098e5ba0f422af10c6", func := "loop.example/g00402/laws.FnAcl", spec := "fnAcl", inPlace := ["internal/bytealg.abigen_runtime_cmpstring"], unfollowed := true, recurses := true, apart := false }
def FnAclSaid : Prop := fnAclRow.holds Try.pinned (OpenSpec.ofChange fnAclSpec)

/-- ITS FALSE NEIGHBOUR: 'it returns false'. Refute it at one input. -/
def fnAclWrong : ChangeSpec := { name := "fnAcl", fn := fun _ => fun
  | [d1, d2] => { results := [.lit (.bool false)], args := [d1, d2] }
  | _ => none }
def FnAclWrongFalsely : Prop := fnAclRow.holds Try.pinned (OpenSpec.ofChange fnAclWrong)

/-- 'laws.FnView': WHATEVER THE INPUT: true; the input reads as it did. -/
def fnViewSpec : ChangeSpec := { name := "fnView", fn := fun _ => fun
  | [d1, d2] => { results := [.lit (.bool true)], args := [d1, d2] }
  | _ => none }
def fnViewRow : OpenClaim := { program := "ytmanlnlhpgdbpaa", sum := "4ffe06f8eddc314cfa0fcb3b8e96c26181b9b8060e5b94098e5ba0f422af10c6", func := "loop.example/g00402/laws.FnView", spec := "fnView", inPlace := ["internal/bytealg.abigen_runtime_cmpstring"], unfollowed := true, recurses := true, apart := false }
def FnViewSaid : Prop := fnViewRow.holds Try.pinned (OpenSpec.ofChange fnViewSpec)

/-- ITS FALSE NEIGHBOUR: 'it returns false'. Refute it at one input. -/
def fnViewWrong : ChangeSpec := { name := "fnView", fn := fun _ => fun
  | [d1, d2] => { results := [.lit (.bool false)], args := [d1, d2] }
  | _ => none }
def FnViewWrongFalsely : Prop := fnViewRow.holds Try.pinned (OpenSpec.ofChange fnViewWrong)

/- THE SECOND FORM. 'bulk': how many values and letters a reading holds, each counted each time it is reached (what is shared counts as often as it is met; a slice's spare places count too). A statement '..UptoSaid' is the law's where the arguments, and the package variables that the reading takes, are together of bulk at most 1048576: NARROWER than '..Said'. Prove '..Said' where nothing that the law and all that it calls make is longer than what came in: it says more and counts as full. Else prove '..UptoSaid'. A law counts once. -/
mutual
def uptoBulk {H : Type} : DataW H → Nat
  | .lit (.string bytes) => bytes.length + 1
  | .lit _ => 1
  | .nil => 1
  | .ptr d => uptoBulk d + 1
  | .slice elems spare => uptoBulkAll elems + uptoBulkAll spare + 1
  | .agg parts => uptoBulkAll parts + 1
  | .iface _ d => uptoBulk d + 1
  | .map entries => uptoBulkEntries entries + 1
  | .held _ => 1
def uptoBulkAll {H : Type} : List (DataW H) → Nat
  | [] => 0
  | d :: r => uptoBulk d + uptoBulkAll r
def uptoBulkEntries {H : Type} : List (Lit × DataW H) → Nat
  | [] => 0
  | x :: r => uptoBulkEntry x + uptoBulkEntries r
def uptoBulkEntry {H : Type} : Lit × DataW H → Nat
  | (.string bytes, d) => bytes.length + uptoBulk d + 1
  | (_, d) => uptoBulk d + 1
 end
def uptoSmall : (H : Type) → List (DataW H) → Bool := fun _ ds => decide (uptoBulkAll ds ≤ 1048576)
def OpenSpec.upto (s : _root_.Go.ChangeSpec) : _root_.Go.OpenSpec := { _root_.Go.OpenSpec.ofChange s with cond := some uptoSmall }

/-- 'laws.FnExactLatest', WHERE WHAT IT READS IS OF BULK AT MOST 1048576: true; the input reads as it did. -/
def fnExactLatestUptoRow : OpenClaim := { program := "ytmanlnlhpgdbpaa", sum := "4ffe06f8eddc314cfa0fcb3b8e96c26181b9b8060e5b94098e5ba0f422af10c6", func := "loop.example/g00402/laws.FnExactLatest", spec := "fnExactLatest", unfollowed := true, recurses := true, apart := false, narrowed := true }
def FnExactLatestUptoSaid : Prop := fnExactLatestUptoRow.holds Try.pinned (OpenSpec.upto fnExactLatestSpec)

/-- 'laws.FnAcl', WHERE WHAT IT READS IS OF BULK AT MOST 1048576: true; the input reads as it did. -/
def fnAclUptoRow : OpenClaim := { program := "ytmanlnlhpgdbpaa", sum := "4ffe06f8eddc314cfa0fcb3b8e96c26181b9b8060e5b94098e5ba0f422af10c6", func := "loop.example/g00402/laws.FnAcl", spec := "fnAcl", inPlace := ["internal/bytealg.abigen_runtime_cmpstring"], unfollowed := true, recurses := true, apart := false, narrowed := true }
def FnAclUptoSaid : Prop := fnAclUptoRow.holds Try.pinned (OpenSpec.upto fnAclSpec)

/-- 'laws.FnView', WHERE WHAT IT READS IS OF BULK AT MOST 1048576: true; the input reads as it did. -/
def fnViewUptoRow : OpenClaim := { program := "ytmanlnlhpgdbpaa", sum := "4ffe06f8eddc314cfa0fcb3b8e96c26181b9b8060e5b94098e5ba0f422af10c6", func := "loop.example/g00402/laws.FnView", spec := "fnView", inPlace := ["internal/bytealg.abigen_runtime_cmpstring"], unfollowed := true, recurses := true, apart := false, narrowed := true }
def FnViewUptoSaid : Prop := fnViewUptoRow.holds Try.pinned (OpenSpec.upto fnViewSpec)

end Rows
end Go.Proofs.Ytmanlnlhpgdbpaa
