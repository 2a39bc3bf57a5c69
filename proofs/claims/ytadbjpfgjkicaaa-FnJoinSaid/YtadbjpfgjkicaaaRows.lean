/-
  No cell of these rows narrows 'for every input' (looked for: loops, veiled, ifaces, maps, wideKeys, modest, calm, conditions, laid).
  DERIVED. THE GIVEN ROWS OF THIS SEAT. 13 by the template 'for every input the law returns true; each argument reads behind the call as it read before'; 0 by the template 'total and deterministic' (their statements: YtadbjpfgjkicaaaTotals.lean).
  GIVEN WITH THE SEED: the statements are not yours to turn. If you find one false, say at which input.
  Laid BY PROGRAM, IN A SANDBOX (cutbox-rows.mjs): the forced cells as the released guide's own fill.sh prints them over the translation db5863f313acb7cf… (all of the seat's roots in one cut). By AI agents, Wed Nov 11 2026. No macro, syntax, notation, axiom, sorry.
-/
import Derived.Test.YtadbjpfgjkicaaaChecked
import GoSem.Claim
import GoSem.ClaimJoined
import GoSem.ClaimMapViews
import Derived.JoinedTies
import Derived.KernelRfl
namespace Go.Proofs.Ytadbjpfgjkicaaa
/- THE CELL 'sum', in the pinned program and in every row, IS THE sha256 OF THE DUMP (.gsa) THAT YtadbjpfgjkicaaaProg.lean LOADS. Nothing in Lean hashes anything: it is a label: what it is worth is what the hold of that sum in a sandbox is worth. -/
noncomputable def Try.pinned : Pinned := { name := "ytadbjpfgjkicaaa", sum := "db5863f313acb7cf349dda8c8604bc073e43fd5d44732b97fafc9d04c71196df", checked := Try.checked }
namespace Rows
def none {H : Type} : Left H := { results := [], args := [] }

/-- 'laws.FnNorm': WHATEVER THE INPUT: true; the input reads as it did. -/
def fnNormSpec : ChangeSpec := { name := "fnNorm", fn := fun _ => fun
  | [d] => { results := [.lit (.bool true)], args := [d] }
  | _ => none }
def fnNormRow : OpenClaim := { program := "ytadbjpfgjkicaaa", sum := "db5863f313acb7cf349dda8c8604bc073e43fd5d44732b97fafc9d04c71196df", func := "loop.example/g00402/laws.FnNorm", spec := "fnNorm", apart := false }
def FnNormSaid : Prop := fnNormRow.holds Try.pinned (OpenSpec.ofChange fnNormSpec)

/-- ITS FALSE NEIGHBOUR: 'it returns false'. Refute it at one input. -/
def fnNormWrong : ChangeSpec := { name := "fnNorm", fn := fun _ => fun
  | [d] => { results := [.lit (.bool false)], args := [d] }
  | _ => none }
def FnNormWrongFalsely : Prop := fnNormRow.holds Try.pinned (OpenSpec.ofChange fnNormWrong)

/-- 'laws.FnDn': WHATEVER THE INPUT: true; the input reads as it did. -/
def fnDnSpec : ChangeSpec := { name := "fnDn", fn := fun _ => fun
  | [d1, d2] => { results := [.lit (.bool true)], args := [d1, d2] }
  | _ => none }
def fnDnRow : OpenClaim := { program := "ytadbjpfgjkicaaa", sum := "db5863f313acb7cf349dda8c8604bc073e43fd5d44732b97fafc9d04c71196df", func := "loop.example/g00402/laws.FnDn", spec := "fnDn", inPlace := ["internal/abi.NoEscape", "internal/bytealg.MakeNoZero", "internal/bytealg.IndexByteString", "internal/bytealg.IndexString"], named := ["internal/bytealg.MaxLen"], apart := false }
def FnDnSaid : Prop := fnDnRow.holds Try.pinned (OpenSpec.ofChange fnDnSpec)

/-- ITS FALSE NEIGHBOUR: 'it returns false'. Refute it at one input. -/
def fnDnWrong : ChangeSpec := { name := "fnDn", fn := fun _ => fun
  | [d1, d2] => { results := [.lit (.bool false)], args := [d1, d2] }
  | _ => none }
def FnDnWrongFalsely : Prop := fnDnRow.holds Try.pinned (OpenSpec.ofChange fnDnWrong)

/-- 'laws.FnUnder': WHATEVER THE INPUT: true; the input reads as it did. -/
def fnUnderSpec : ChangeSpec := { name := "fnUnder", fn := fun _ => fun
  | [d1, d2] => { results := [.lit (.bool true)], args := [d1, d2] }
  | _ => none }
def fnUnderRow : OpenClaim := { program := "ytadbjpfgjkicaaa", sum := "db5863f313acb7cf349dda8c8604bc073e43fd5d44732b97fafc9d04c71196df", func := "loop.example/g00402/laws.FnUnder", spec := "fnUnder", apart := false }
def FnUnderSaid : Prop := fnUnderRow.holds Try.pinned (OpenSpec.ofChange fnUnderSpec)

/-- ITS FALSE NEIGHBOUR: 'it returns false'. Refute it at one input. -/
def fnUnderWrong : ChangeSpec := { name := "fnUnder", fn := fun _ => fun
  | [d1, d2] => { results := [.lit (.bool false)], args := [d1, d2] }
  | _ => none }
def FnUnderWrongFalsely : Prop := fnUnderRow.holds Try.pinned (OpenSpec.ofChange fnUnderWrong)

/-- 'laws.FnJoin': WHATEVER THE INPUT: true; the input reads as it did. -/
def fnJoinSpec : ChangeSpec := { name := "fnJoin", fn := fun _ => fun
  | [d1, d2] => { results := [.lit (.bool true)], args := [d1, d2] }
  | _ => none }
def fnJoinRow : OpenClaim := { program := "ytadbjpfgjkicaaa", sum := "db5863f313acb7cf349dda8c8604bc073e43fd5d44732b97fafc9d04c71196df", func := "loop.example/g00402/laws.FnJoin", spec := "fnJoin", apart := false }
def FnJoinSaid : Prop := fnJoinRow.holds Try.pinned (OpenSpec.ofChange fnJoinSpec)

/-- ITS FALSE NEIGHBOUR: 'it returns false'. Refute it at one input. -/
def fnJoinWrong : ChangeSpec := { name := "fnJoin", fn := fun _ => fun
  | [d1, d2] => { results := [.lit (.bool false)], args := [d1, d2] }
  | _ => none }
def FnJoinWrongFalsely : Prop := fnJoinRow.holds Try.pinned (OpenSpec.ofChange fnJoinWrong)

/-- 'laws.FnExactNorm': WHATEVER THE INPUT: true; the input reads as it did. -/
def fnExactNormSpec : ChangeSpec := { name := "fnExactNorm", fn := fun _ => fun
  | [d] => { results := [.lit (.bool true)], args := [d] }
  | _ => none }
def fnExactNormRow : OpenClaim := { program := "ytadbjpfgjkicaaa", sum := "db5863f313acb7cf349dda8c8604bc073e43fd5d44732b97fafc9d04c71196df", func := "loop.example/g00402/laws.FnExactNorm", spec := "fnExactNorm", apart := false }
def FnExactNormSaid : Prop := fnExactNormRow.holds Try.pinned (OpenSpec.ofChange fnExactNormSpec)

/-- ITS FALSE NEIGHBOUR: 'it returns false'. Refute it at one input. -/
def fnExactNormWrong : ChangeSpec := { name := "fnExactNorm", fn := fun _ => fun
  | [d] => { results := [.lit (.bool false)], args := [d] }
  | _ => none }
def FnExactNormWrongFalsely : Prop := fnExactNormRow.holds Try.pinned (OpenSpec.ofChange fnExactNormWrong)

/-- 'laws.FnExactDnRight': WHATEVER THE INPUT: true; the input reads as it did. -/
def fnExactDnRightSpec : ChangeSpec := { name := "fnExactDnRight", fn := fun _ => fun
  | [d] => { results := [.lit (.bool true)], args := [d] }
  | _ => none }
def fnExactDnRightRow : OpenClaim := { program := "ytadbjpfgjkicaaa", sum := "db5863f313acb7cf349dda8c8604bc073e43fd5d44732b97fafc9d04c71196df", func := "loop.example/g00402/laws.FnExactDnRight", spec := "fnExactDnRight", apart := false }
def FnExactDnRightSaid : Prop := fnExactDnRightRow.holds Try.pinned (OpenSpec.ofChange fnExactDnRightSpec)

/-- ITS FALSE NEIGHBOUR: 'it returns false'. Refute it at one input. -/
def fnExactDnRightWrong : ChangeSpec := { name := "fnExactDnRight", fn := fun _ => fun
  | [d] => { results := [.lit (.bool false)], args := [d] }
  | _ => none }
def FnExactDnRightWrongFalsely : Prop := fnExactDnRightRow.holds Try.pinned (OpenSpec.ofChange fnExactDnRightWrong)

/-- 'laws.FnExactDnText': WHATEVER THE INPUT: true; the input reads as it did. -/
def fnExactDnTextSpec : ChangeSpec := { name := "fnExactDnText", fn := fun _ => fun
  | [d] => { results := [.lit (.bool true)], args := [d] }
  | _ => none }
def fnExactDnTextRow : OpenClaim := { program := "ytadbjpfgjkicaaa", sum := "db5863f313acb7cf349dda8c8604bc073e43fd5d44732b97fafc9d04c71196df", func := "loop.example/g00402/laws.FnExactDnText", spec := "fnExactDnText", inPlace := ["internal/abi.NoEscape", "internal/bytealg.MakeNoZero"], apart := false }
def FnExactDnTextSaid : Prop := fnExactDnTextRow.holds Try.pinned (OpenSpec.ofChange fnExactDnTextSpec)

/-- ITS FALSE NEIGHBOUR: 'it returns false'. Refute it at one input. -/
def fnExactDnTextWrong : ChangeSpec := { name := "fnExactDnText", fn := fun _ => fun
  | [d] => { results := [.lit (.bool false)], args := [d] }
  | _ => none }
def FnExactDnTextWrongFalsely : Prop := fnExactDnTextRow.holds Try.pinned (OpenSpec.ofChange fnExactDnTextWrong)

/-- 'laws.FnExactDnRead': WHATEVER THE INPUT: true; the input reads as it did. -/
def fnExactDnReadSpec : ChangeSpec := { name := "fnExactDnRead", fn := fun _ => fun
  | [d] => { results := [.lit (.bool true)], args := [d] }
  | _ => none }
def fnExactDnReadRow : OpenClaim := { program := "ytadbjpfgjkicaaa", sum := "db5863f313acb7cf349dda8c8604bc073e43fd5d44732b97fafc9d04c71196df", func := "loop.example/g00402/laws.FnExactDnRead", spec := "fnExactDnRead", inPlace := ["internal/bytealg.IndexByteString", "internal/bytealg.IndexString", "internal/abi.NoEscape", "internal/bytealg.MakeNoZero"], named := ["internal/bytealg.MaxLen"], apart := false }
def FnExactDnReadSaid : Prop := fnExactDnReadRow.holds Try.pinned (OpenSpec.ofChange fnExactDnReadSpec)

/-- ITS FALSE NEIGHBOUR: 'it returns false'. Refute it at one input. -/
def fnExactDnReadWrong : ChangeSpec := { name := "fnExactDnRead", fn := fun _ => fun
  | [d] => { results := [.lit (.bool false)], args := [d] }
  | _ => none }
def FnExactDnReadWrongFalsely : Prop := fnExactDnReadRow.holds Try.pinned (OpenSpec.ofChange fnExactDnReadWrong)

/-- 'laws.FnExactDnSame': WHATEVER THE INPUT: true; the input reads as it did. -/
def fnExactDnSameSpec : ChangeSpec := { name := "fnExactDnSame", fn := fun _ => fun
  | [d1, d2] => { results := [.lit (.bool true)], args := [d1, d2] }
  | _ => none }
def fnExactDnSameRow : OpenClaim := { program := "ytadbjpfgjkicaaa", sum := "db5863f313acb7cf349dda8c8604bc073e43fd5d44732b97fafc9d04c71196df", func := "loop.example/g00402/laws.FnExactDnSame", spec := "fnExactDnSame", apart := false }
def FnExactDnSameSaid : Prop := fnExactDnSameRow.holds Try.pinned (OpenSpec.ofChange fnExactDnSameSpec)

/-- ITS FALSE NEIGHBOUR: 'it returns false'. Refute it at one input. -/
def fnExactDnSameWrong : ChangeSpec := { name := "fnExactDnSame", fn := fun _ => fun
  | [d1, d2] => { results := [.lit (.bool false)], args := [d1, d2] }
  | _ => none }
def FnExactDnSameWrongFalsely : Prop := fnExactDnSameRow.holds Try.pinned (OpenSpec.ofChange fnExactDnSameWrong)

/-- 'laws.FnExactDnKey': WHATEVER THE INPUT: true; the input reads as it did. -/
def fnExactDnKeySpec : ChangeSpec := { name := "fnExactDnKey", fn := fun _ => fun
  | [d] => { results := [.lit (.bool true)], args := [d] }
  | _ => none }
def fnExactDnKeyRow : OpenClaim := { program := "ytadbjpfgjkicaaa", sum := "db5863f313acb7cf349dda8c8604bc073e43fd5d44732b97fafc9d04c71196df", func := "loop.example/g00402/laws.FnExactDnKey", spec := "fnExactDnKey", apart := false }
def FnExactDnKeySaid : Prop := fnExactDnKeyRow.holds Try.pinned (OpenSpec.ofChange fnExactDnKeySpec)

/-- ITS FALSE NEIGHBOUR: 'it returns false'. Refute it at one input. -/
def fnExactDnKeyWrong : ChangeSpec := { name := "fnExactDnKey", fn := fun _ => fun
  | [d] => { results := [.lit (.bool false)], args := [d] }
  | _ => none }
def FnExactDnKeyWrongFalsely : Prop := fnExactDnKeyRow.holds Try.pinned (OpenSpec.ofChange fnExactDnKeyWrong)

/-- 'laws.FnExactDnUnder': WHATEVER THE INPUT: true; the input reads as it did. -/
def fnExactDnUnderSpec : ChangeSpec := { name := "fnExactDnUnder", fn := fun _ => fun
  | [d1, d2] => { results := [.lit (.bool true)], args := [d1, d2] }
  | _ => none }
def fnExactDnUnderRow : OpenClaim := { program := "ytadbjpfgjkicaaa", sum := "db5863f313acb7cf349dda8c8604bc073e43fd5d44732b97fafc9d04c71196df", func := "loop.example/g00402/laws.FnExactDnUnder", spec := "fnExactDnUnder", apart := false }
def FnExactDnUnderSaid : Prop := fnExactDnUnderRow.holds Try.pinned (OpenSpec.ofChange fnExactDnUnderSpec)

/-- ITS FALSE NEIGHBOUR: 'it returns false'. Refute it at one input. -/
def fnExactDnUnderWrong : ChangeSpec := { name := "fnExactDnUnder", fn := fun _ => fun
  | [d1, d2] => { results := [.lit (.bool false)], args := [d1, d2] }
  | _ => none }
def FnExactDnUnderWrongFalsely : Prop := fnExactDnUnderRow.holds Try.pinned (OpenSpec.ofChange fnExactDnUnderWrong)

/-- 'laws.FnExactDnParent': WHATEVER THE INPUT: true; the input reads as it did. -/
def fnExactDnParentSpec : ChangeSpec := { name := "fnExactDnParent", fn := fun _ => fun
  | [d] => { results := [.lit (.bool true)], args := [d] }
  | _ => none }
def fnExactDnParentRow : OpenClaim := { program := "ytadbjpfgjkicaaa", sum := "db5863f313acb7cf349dda8c8604bc073e43fd5d44732b97fafc9d04c71196df", func := "loop.example/g00402/laws.FnExactDnParent", spec := "fnExactDnParent", apart := false }
def FnExactDnParentSaid : Prop := fnExactDnParentRow.holds Try.pinned (OpenSpec.ofChange fnExactDnParentSpec)

/-- ITS FALSE NEIGHBOUR: 'it returns false'. Refute it at one input. -/
def fnExactDnParentWrong : ChangeSpec := { name := "fnExactDnParent", fn := fun _ => fun
  | [d] => { results := [.lit (.bool false)], args := [d] }
  | _ => none }
def FnExactDnParentWrongFalsely : Prop := fnExactDnParentRow.holds Try.pinned (OpenSpec.ofChange fnExactDnParentWrong)

/-- 'laws.FnExactDnJoin': WHATEVER THE INPUT: true; the input reads as it did. -/
def fnExactDnJoinSpec : ChangeSpec := { name := "fnExactDnJoin", fn := fun _ => fun
  | [d1, d2] => { results := [.lit (.bool true)], args := [d1, d2] }
  | _ => none }
def fnExactDnJoinRow : OpenClaim := { program := "ytadbjpfgjkicaaa", sum := "db5863f313acb7cf349dda8c8604bc073e43fd5d44732b97fafc9d04c71196df", func := "loop.example/g00402/laws.FnExactDnJoin", spec := "fnExactDnJoin", apart := false }
def FnExactDnJoinSaid : Prop := fnExactDnJoinRow.holds Try.pinned (OpenSpec.ofChange fnExactDnJoinSpec)

/-- ITS FALSE NEIGHBOUR: 'it returns false'. Refute it at one input. -/
def fnExactDnJoinWrong : ChangeSpec := { name := "fnExactDnJoin", fn := fun _ => fun
  | [d1, d2] => { results := [.lit (.bool false)], args := [d1, d2] }
  | _ => none }
def FnExactDnJoinWrongFalsely : Prop := fnExactDnJoinRow.holds Try.pinned (OpenSpec.ofChange fnExactDnJoinWrong)

/- THE SECOND FORM. 'bulk': how many values and letters a reading holds, each counted each time it is reached (what is shared counts as often as it is met; a slice's spare places count too). A statement '..UptoSaid' is the law's where the arguments, and the package variables that the reading takes, are together of bulk at most 1048576: NARROWER than '..Said'. Prove '..Said' where nothing that the law and all that it calls make is longer than what came in: it says more and counts as full. Else prove '..UptoSaid'. A law counts once. -/
mutual
def uptoBulk {H : Type} : DataW H → Nat
  | .lit (.string bytes) => bytes.length + 1
  | .lit _ => 1
  | .nil => 1
  | .ptr d => uptoBulk d + 1
  | .slice elems spare => uptoBulkAll elems + uptoBulkAll spare + 1
  | .agg parts => uptoBulkAll parts + 1
  | .iface _ d => uptoBulk d + 1
  | .map entries => uptoBulkEntries entries + 1
  | .held _ => 1
def uptoBulkAll {H : Type} : List (DataW H) → Nat
  | [] => 0
  | d :: r => uptoBulk d + uptoBulkAll r
def uptoBulkEntries {H : Type} : List (Lit × DataW H) → Nat
  | [] => 0
  | x :: r => uptoBulkEntry x + uptoBulkEntries r
def uptoBulkEntry {H : Type} : Lit × DataW H → Nat
  | (.string bytes, d) => bytes.length + uptoBulk d + 1
  | (_, d) => uptoBulk d + 1
 end
def uptoSmall : (H : Type) → List (DataW H) → Bool := fun _ ds => decide (uptoBulkAll ds ≤ 1048576)
def OpenSpec.upto (s : _root_.Go.ChangeSpec) : _root_.Go.OpenSpec := { _root_.Go.OpenSpec.ofChange s with cond := some uptoSmall }

/-- 'laws.FnNorm', WHERE WHAT IT READS IS OF BULK AT MOST 1048576: true; the input reads as it did. -/
def fnNormUptoRow : OpenClaim := { program := "ytadbjpfgjkicaaa", sum := "db5863f313acb7cf349dda8c8604bc073e43fd5d44732b97fafc9d04c71196df", func := "loop.example/g00402/laws.FnNorm", spec := "fnNorm", apart := false, narrowed := true }
def FnNormUptoSaid : Prop := fnNormUptoRow.holds Try.pinned (OpenSpec.upto fnNormSpec)

/-- 'laws.FnDn', WHERE WHAT IT READS IS OF BULK AT MOST 1048576: true; the input reads as it did. -/
def fnDnUptoRow : OpenClaim := { program := "ytadbjpfgjkicaaa", sum := "db5863f313acb7cf349dda8c8604bc073e43fd5d44732b97fafc9d04c71196df", func := "loop.example/g00402/laws.FnDn", spec := "fnDn", inPlace := ["internal/abi.NoEscape", "internal/bytealg.MakeNoZero", "internal/bytealg.IndexByteString", "internal/bytealg.IndexString"], named := ["internal/bytealg.MaxLen"], apart := false, narrowed := true }
def FnDnUptoSaid : Prop := fnDnUptoRow.holds Try.pinned (OpenSpec.upto fnDnSpec)

/-- 'laws.FnUnder', WHERE WHAT IT READS IS OF BULK AT MOST 1048576: true; the input reads as it did. -/
def fnUnderUptoRow : OpenClaim := { program := "ytadbjpfgjkicaaa", sum := "db5863f313acb7cf349dda8c8604bc073e43fd5d44732b97fafc9d04c71196df", func := "loop.example/g00402/laws.FnUnder", spec := "fnUnder", apart := false, narrowed := true }
def FnUnderUptoSaid : Prop := fnUnderUptoRow.holds Try.pinned (OpenSpec.upto fnUnderSpec)

/-- 'laws.FnJoin', WHERE WHAT IT READS IS OF BULK AT MOST 1048576: true; the input reads as it did. -/
def fnJoinUptoRow : OpenClaim := { program := "ytadbjpfgjkicaaa", sum := "db5863f313acb7cf349dda8c8604bc073e43fd5d44732b97fafc9d04c71196df", func := "loop.example/g00402/laws.FnJoin", spec := "fnJoin", apart := false, narrowed := true }
def FnJoinUptoSaid : Prop := fnJoinUptoRow.holds Try.pinned (OpenSpec.upto fnJoinSpec)

/-- 'laws.FnExactNorm', WHERE WHAT IT READS IS OF BULK AT MOST 1048576: true; the input reads as it did. -/
def fnExactNormUptoRow : OpenClaim := { program := "ytadbjpfgjkicaaa", sum := "db5863f313acb7cf349dda8c8604bc073e43fd5d44732b97fafc9d04c71196df", func := "loop.example/g00402/laws.FnExactNorm", spec := "fnExactNorm", apart := false, narrowed := true }
def FnExactNormUptoSaid : Prop := fnExactNormUptoRow.holds Try.pinned (OpenSpec.upto fnExactNormSpec)

/-- 'laws.FnExactDnRight', WHERE WHAT IT READS IS OF BULK AT MOST 1048576: true; the input reads as it did. -/
def fnExactDnRightUptoRow : OpenClaim := { program := "ytadbjpfgjkicaaa", sum := "db5863f313acb7cf349dda8c8604bc073e43fd5d44732b97fafc9d04c71196df", func := "loop.example/g00402/laws.FnExactDnRight", spec := "fnExactDnRight", apart := false, narrowed := true }
def FnExactDnRightUptoSaid : Prop := fnExactDnRightUptoRow.holds Try.pinned (OpenSpec.upto fnExactDnRightSpec)

/-- 'laws.FnExactDnText', WHERE WHAT IT READS IS OF BULK AT MOST 1048576: true; the input reads as it did. -/
def fnExactDnTextUptoRow : OpenClaim := { program := "ytadbjpfgjkicaaa", sum := "db5863f313acb7cf349dda8c8604bc073e43fd5d44732b97fafc9d04c71196df", func := "loop.example/g00402/laws.FnExactDnText", spec := "fnExactDnText", inPlace := ["internal/abi.NoEscape", "internal/bytealg.MakeNoZero"], apart := false, narrowed := true }
def FnExactDnTextUptoSaid : Prop := fnExactDnTextUptoRow.holds Try.pinned (OpenSpec.upto fnExactDnTextSpec)

/-- 'laws.FnExactDnRead', WHERE WHAT IT READS IS OF BULK AT MOST 1048576: true; the input reads as it did. -/
def fnExactDnReadUptoRow : OpenClaim := { program := "ytadbjpfgjkicaaa", sum := "db5863f313acb7cf349dda8c8604bc073e43fd5d44732b97fafc9d04c71196df", func := "loop.example/g00402/laws.FnExactDnRead", spec := "fnExactDnRead", inPlace := ["internal/bytealg.IndexByteString", "internal/bytealg.IndexString", "internal/abi.NoEscape", "internal/bytealg.MakeNoZero"], named := ["internal/bytealg.MaxLen"], apart := false, narrowed := true }
def FnExactDnReadUptoSaid : Prop := fnExactDnReadUptoRow.holds Try.pinned (OpenSpec.upto fnExactDnReadSpec)

/-- 'laws.FnExactDnSame', WHERE WHAT IT READS IS OF BULK AT MOST 1048576: true; the input reads as it did. -/
def fnExactDnSameUptoRow : OpenClaim := { program := "ytadbjpfgjkicaaa", sum := "db5863f313acb7cf349dda8c8604bc073e43fd5d44732b97fafc9d04c71196df", func := "loop.example/g00402/laws.FnExactDnSame", spec := "fnExactDnSame", apart := false, narrowed := true }
def FnExactDnSameUptoSaid : Prop := fnExactDnSameUptoRow.holds Try.pinned (OpenSpec.upto fnExactDnSameSpec)

/-- 'laws.FnExactDnKey', WHERE WHAT IT READS IS OF BULK AT MOST 1048576: true; the input reads as it did. -/
def fnExactDnKeyUptoRow : OpenClaim := { program := "ytadbjpfgjkicaaa", sum := "db5863f313acb7cf349dda8c8604bc073e43fd5d44732b97fafc9d04c71196df", func := "loop.example/g00402/laws.FnExactDnKey", spec := "fnExactDnKey", apart := false, narrowed := true }
def FnExactDnKeyUptoSaid : Prop := fnExactDnKeyUptoRow.holds Try.pinned (OpenSpec.upto fnExactDnKeySpec)

/-- 'laws.FnExactDnUnder', WHERE WHAT IT READS IS OF BULK AT MOST 1048576: true; the input reads as it did. -/
def fnExactDnUnderUptoRow : OpenClaim := { program := "ytadbjpfgjkicaaa", sum := "db5863f313acb7cf349dda8c8604bc073e43fd5d44732b97fafc9d04c71196df", func := "loop.example/g00402/laws.FnExactDnUnder", spec := "fnExactDnUnder", apart := false, narrowed := true }
def FnExactDnUnderUptoSaid : Prop := fnExactDnUnderUptoRow.holds Try.pinned (OpenSpec.upto fnExactDnUnderSpec)

/-- 'laws.FnExactDnParent', WHERE WHAT IT READS IS OF BULK AT MOST 1048576: true; the input reads as it did. -/
def fnExactDnParentUptoRow : OpenClaim := { program := "ytadbjpfgjkicaaa", sum := "db5863f313acb7cf349dda8c8604bc073e43fd5d44732b97fafc9d04c71196df", func := "loop.example/g00402/laws.FnExactDnParent", spec := "fnExactDnParent", apart := false, narrowed := true }
def FnExactDnParentUptoSaid : Prop := fnExactDnParentUptoRow.holds Try.pinned (OpenSpec.upto fnExactDnParentSpec)

/-- 'laws.FnExactDnJoin', WHERE WHAT IT READS IS OF BULK AT MOST 1048576: true; the input reads as it did. -/
def fnExactDnJoinUptoRow : OpenClaim := { program := "ytadbjpfgjkicaaa", sum := "db5863f313acb7cf349dda8c8604bc073e43fd5d44732b97fafc9d04c71196df", func := "loop.example/g00402/laws.FnExactDnJoin", spec := "fnExactDnJoin", apart := false, narrowed := true }
def FnExactDnJoinUptoSaid : Prop := fnExactDnJoinUptoRow.holds Try.pinned (OpenSpec.upto fnExactDnJoinSpec)

end Rows
end Go.Proofs.Ytadbjpfgjkicaaa
