/-
  No cell of these rows narrows 'for every input' (looked for: loops, veiled, ifaces, maps, wideKeys, modest, calm, conditions, laid).
  DERIVED. THE GIVEN ROWS OF THIS SEAT. 5 by the template 'for every input the law returns true; each argument reads behind the call as it read before'; 0 by the template 'total and deterministic' (their statements: YtjajpdghamecoaaGreatTotals.lean).
  GIVEN WITH THE SEED: the statements are not yours to turn. If you find one false, say at which input.
  Laid BY PROGRAM, IN A SANDBOX (cutbox-rows.mjs): the forced cells as the released guide's own fill.sh prints them over the translation faafc1d3db03868e… (all of the seat's roots in one cut). By AI agents, Wed Nov 11 2026. No macro, syntax, notation, axiom, sorry.
-/
import Derived.Test.YtjajpdghamecoaaGreatChecked
import GoSem.Claim
import GoSem.ClaimJoined
import GoSem.ClaimMapViews
import Derived.JoinedTies
import Derived.KernelRfl
namespace Go.Proofs.YtjajpdghamecoaaGreat
/- THE CELL 'sum', in the pinned program and in every row, IS THE sha256 OF THE DUMP (.gsa) THAT YtjajpdghamecoaaGreatProg.lean LOADS. Nothing in Lean hashes anything: it is a label: what it is worth is what the hold of that sum in a sandbox is worth. -/
noncomputable def Tryz.pinned : Pinned := { name := "ytjajpdghamecoaagreat", sum := "faafc1d3db03868e776b32a91fb04c3f24f89efd0ff4bfb35d5afbf0569eaf12", checked := Tryz.checked }
namespace Rows
def none {H : Type} : Left H := { results := [], args := [] }

/-- 'laws.FnEntry': WHATEVER THE INPUT: true; the input reads as it did. -/
def fnEntrySpec : ChangeSpec := { name := "fnEntry", fn := fun _ => fun
  | [d1, d2] => { results := [.lit (.bool true)], args := [d1, d2] }
  | _ => none }
def fnEntryRow : OpenClaim := { program := "ytjajpdghamecoaagreat", sum := "faafc1d3db03868e776b32a91fb04c3f24f89efd0ff4bfb35d5afbf0569eaf12", func := "loop.example/g00402/laws.FnEntry", spec := "fnEntry", inPlace := ["internal/bytealg.abigen_runtime_cmpstring"], unfollowed := true, recurses := true, apart := false }
def FnEntrySaid : Prop := fnEntryRow.holds Tryz.pinned (OpenSpec.ofChange fnEntrySpec)

/-- ITS FALSE NEIGHBOUR: 'it returns false'. Refute it at one input. -/
def fnEntryWrong : ChangeSpec := { name := "fnEntry", fn := fun _ => fun
  | [d1, d2] => { results := [.lit (.bool false)], args := [d1, d2] }
  | _ => none }
def FnEntryWrongFalsely : Prop := fnEntryRow.holds Tryz.pinned (OpenSpec.ofChange fnEntryWrong)

/-- 'laws.FnAttr': WHATEVER THE INPUT: true; the input reads as it did. -/
def fnAttrSpec : ChangeSpec := { name := "fnAttr", fn := fun _ => fun
  | [d1, d2] => { results := [.lit (.bool true)], args := [d1, d2] }
  | _ => none }
def fnAttrRow : OpenClaim := { program := "ytjajpdghamecoaagreat", sum := "faafc1d3db03868e776b32a91fb04c3f24f89efd0ff4bfb35d5afbf0569eaf12", func := "loop.example/g00402/laws.FnAttr", spec := "fnAttr", inPlace := ["internal/bytealg.abigen_runtime_cmpstring"], unfollowed := true, recurses := true, apart := false }
def FnAttrSaid : Prop := fnAttrRow.holds Tryz.pinned (OpenSpec.ofChange fnAttrSpec)

/-- ITS FALSE NEIGHBOUR: 'it returns false'. Refute it at one input. -/
def fnAttrWrong : ChangeSpec := { name := "fnAttr", fn := fun _ => fun
  | [d1, d2] => { results := [.lit (.bool false)], args := [d1, d2] }
  | _ => none }
def FnAttrWrongFalsely : Prop := fnAttrRow.holds Tryz.pinned (OpenSpec.ofChange fnAttrWrong)

/-- 'laws.FnExactValueAdd': WHATEVER THE INPUT: true; the input reads as it did. -/
def fnExactValueAddSpec : ChangeSpec := { name := "fnExactValueAdd", fn := fun _ => fun
  | [d1, d2, d3] => { results := [.lit (.bool true)], args := [d1, d2, d3] }
  | _ => none }
def fnExactValueAddRow : OpenClaim := { program := "ytjajpdghamecoaagreat", sum := "faafc1d3db03868e776b32a91fb04c3f24f89efd0ff4bfb35d5afbf0569eaf12", func := "loop.example/g00402/laws.FnExactValueAdd", spec := "fnExactValueAdd", inPlace := ["internal/bytealg.abigen_runtime_cmpstring"], unfollowed := true, recurses := true, apart := false }
def FnExactValueAddSaid : Prop := fnExactValueAddRow.holds Tryz.pinned (OpenSpec.ofChange fnExactValueAddSpec)

/-- ITS FALSE NEIGHBOUR: 'it returns false'. Refute it at one input. -/
def fnExactValueAddWrong : ChangeSpec := { name := "fnExactValueAdd", fn := fun _ => fun
  | [d1, d2, d3] => { results := [.lit (.bool false)], args := [d1, d2, d3] }
  | _ => none }
def FnExactValueAddWrongFalsely : Prop := fnExactValueAddRow.holds Tryz.pinned (OpenSpec.ofChange fnExactValueAddWrong)

/-- 'laws.FnExactValueDrop': WHATEVER THE INPUT: true; the input reads as it did. -/
def fnExactValueDropSpec : ChangeSpec := { name := "fnExactValueDrop", fn := fun _ => fun
  | [d1, d2, d3] => { results := [.lit (.bool true)], args := [d1, d2, d3] }
  | _ => none }
def fnExactValueDropRow : OpenClaim := { program := "ytjajpdghamecoaagreat", sum := "faafc1d3db03868e776b32a91fb04c3f24f89efd0ff4bfb35d5afbf0569eaf12", func := "loop.example/g00402/laws.FnExactValueDrop", spec := "fnExactValueDrop", inPlace := ["internal/bytealg.abigen_runtime_cmpstring"], unfollowed := true, recurses := true, apart := false }
def FnExactValueDropSaid : Prop := fnExactValueDropRow.holds Tryz.pinned (OpenSpec.ofChange fnExactValueDropSpec)

/-- ITS FALSE NEIGHBOUR: 'it returns false'. Refute it at one input. -/
def fnExactValueDropWrong : ChangeSpec := { name := "fnExactValueDrop", fn := fun _ => fun
  | [d1, d2, d3] => { results := [.lit (.bool false)], args := [d1, d2, d3] }
  | _ => none }
def FnExactValueDropWrongFalsely : Prop := fnExactValueDropRow.holds Tryz.pinned (OpenSpec.ofChange fnExactValueDropWrong)

/-- 'laws.FnExactAttrSet': WHATEVER THE INPUT: true; the input reads as it did. -/
def fnExactAttrSetSpec : ChangeSpec := { name := "fnExactAttrSet", fn := fun _ => fun
  | [d1, d2, d3] => { results := [.lit (.bool true)], args := [d1, d2, d3] }
  | _ => none }
def fnExactAttrSetRow : OpenClaim := { program := "ytjajpdghamecoaagreat", sum := "faafc1d3db03868e776b32a91fb04c3f24f89efd0ff4bfb35d5afbf0569eaf12", func := "loop.example/g00402/laws.FnExactAttrSet", spec := "fnExactAttrSet", inPlace := ["internal/bytealg.abigen_runtime_cmpstring"], unfollowed := true, recurses := true, apart := false }
def FnExactAttrSetSaid : Prop := fnExactAttrSetRow.holds Tryz.pinned (OpenSpec.ofChange fnExactAttrSetSpec)

/-- ITS FALSE NEIGHBOUR: 'it returns false'. Refute it at one input. -/
def fnExactAttrSetWrong : ChangeSpec := { name := "fnExactAttrSet", fn := fun _ => fun
  | [d1, d2, d3] => { results := [.lit (.bool false)], args := [d1, d2, d3] }
  | _ => none }
def FnExactAttrSetWrongFalsely : Prop := fnExactAttrSetRow.holds Tryz.pinned (OpenSpec.ofChange fnExactAttrSetWrong)

/- THE SECOND FORM. 'bulk': how many values and letters a reading holds, each counted each time it is reached (what is shared counts as often as it is met; a slice's spare places count too). A statement '..UptoSaid' is the law's where the arguments, and the package variables that the reading takes, are together of bulk at most 1048576: NARROWER than '..Said'. Prove '..Said' where nothing that the law and all that it calls make is longer than what came in: it says more and counts as full. Else prove '..UptoSaid'. A law counts once. -/
mutual
def uptoBulk {H : Type} : DataW H → Nat
  | .lit (.string bytes) => bytes.length + 1
  | .lit _ => 1
  | .nil => 1
  | .ptr d => uptoBulk d + 1
  | .slice elems spare => uptoBulkAll elems + uptoBulkAll spare + 1
  | .agg parts => uptoBulkAll parts + 1
  | .iface _ d => uptoBulk d + 1
  | .map entries => uptoBulkEntries entries + 1
  | .held _ => 1
def uptoBulkAll {H : Type} : List (DataW H) → Nat
  | [] => 0
  | d :: r => uptoBulk d + uptoBulkAll r
def uptoBulkEntries {H : Type} : List (Lit × DataW H) → Nat
  | [] => 0
  | x :: r => uptoBulkEntry x + uptoBulkEntries r
def uptoBulkEntry {H : Type} : Lit × DataW H → Nat
  | (.string bytes, d) => bytes.length + uptoBulk d + 1
  | (_, d) => uptoBulk d + 1
 end
def uptoSmall : (H : Type) → List (DataW H) → Bool := fun _ ds => decide (uptoBulkAll ds ≤ 1048576)
def OpenSpec.upto (s : _root_.Go.ChangeSpec) : _root_.Go.OpenSpec := { _root_.Go.OpenSpec.ofChange s with cond := some uptoSmall }

/-- 'laws.FnEntry', WHERE WHAT IT READS IS OF BULK AT MOST 1048576: true; the input reads as it did. -/
def fnEntryUptoRow : OpenClaim := { program := "ytjajpdghamecoaagreat", sum := "faafc1d3db03868e776b32a91fb04c3f24f89efd0ff4bfb35d5afbf0569eaf12", func := "loop.example/g00402/laws.FnEntry", spec := "fnEntry", inPlace := ["internal/bytealg.abigen_runtime_cmpstring"], unfollowed := true, recurses := true, apart := false, narrowed := true }
def FnEntryUptoSaid : Prop := fnEntryUptoRow.holds Tryz.pinned (OpenSpec.upto fnEntrySpec)

/-- 'laws.FnAttr', WHERE WHAT IT READS IS OF BULK AT MOST 1048576: true; the input reads as it did. -/
def fnAttrUptoRow : OpenClaim := { program := "ytjajpdghamecoaagreat", sum := "faafc1d3db03868e776b32a91fb04c3f24f89efd0ff4bfb35d5afbf0569eaf12", func := "loop.example/g00402/laws.FnAttr", spec := "fnAttr", inPlace := ["internal/bytealg.abigen_runtime_cmpstring"], unfollowed := true, recurses := true, apart := false, narrowed := true }
def FnAttrUptoSaid : Prop := fnAttrUptoRow.holds Tryz.pinned (OpenSpec.upto fnAttrSpec)

/-- 'laws.FnExactValueAdd', WHERE WHAT IT READS IS OF BULK AT MOST 1048576: true; the input reads as it did. -/
def fnExactValueAddUptoRow : OpenClaim := { program := "ytjajpdghamecoaagreat", sum := "faafc1d3db03868e776b32a91fb04c3f24f89efd0ff4bfb35d5afbf0569eaf12", func := "loop.example/g00402/laws.FnExactValueAdd", spec := "fnExactValueAdd", inPlace := ["internal/bytealg.abigen_runtime_cmpstring"], unfollowed := true, recurses := true, apart := false, narrowed := true }
def FnExactValueAddUptoSaid : Prop := fnExactValueAddUptoRow.holds Tryz.pinned (OpenSpec.upto fnExactValueAddSpec)

/-- 'laws.FnExactValueDrop', WHERE WHAT IT READS IS OF BULK AT MOST 1048576: true; the input reads as it did. -/
def fnExactValueDropUptoRow : OpenClaim := { program := "ytjajpdghamecoaagreat", sum := "faafc1d3db03868e776b32a91fb04c3f24f89efd0ff4bfb35d5afbf0569eaf12", func := "loop.example/g00402/laws.FnExactValueDrop", spec := "fnExactValueDrop", inPlace := ["internal/bytealg.abigen_runtime_cmpstring"], unfollowed := true, recurses := true, apart := false, narrowed := true }
def FnExactValueDropUptoSaid : Prop := fnExactValueDropUptoRow.holds Tryz.pinned (OpenSpec.upto fnExactValueDropSpec)

/-- 'laws.FnExactAttrSet', WHERE WHAT IT READS IS OF BULK AT MOST 1048576: true; the input reads as it did. -/
def fnExactAttrSetUptoRow : OpenClaim := { program := "ytjajpdghamecoaagreat", sum := "faafc1d3db03868e776b32a91fb04c3f24f89efd0ff4bfb35d5afbf0569eaf12", func := "loop.example/g00402/laws.FnExactAttrSet", spec := "fnExactAttrSet", inPlace := ["internal/bytealg.abigen_runtime_cmpstring"], unfollowed := true, recurses := true, apart := false, narrowed := true }
def FnExactAttrSetUptoSaid : Prop := fnExactAttrSetUptoRow.holds Tryz.pinned (OpenSpec.upto fnExactAttrSetSpec)

end Rows
end Go.Proofs.YtjajpdghamecoaaGreat
