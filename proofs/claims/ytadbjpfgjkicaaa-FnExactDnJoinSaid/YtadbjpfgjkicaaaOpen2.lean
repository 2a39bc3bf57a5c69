/- An argument that is a pair. -/
import Derived.Test.YtadbjpfgjkicaaaOpen
import Derived.Lib.SmallJoins
namespace Go.Proofs.Ytadbjpfgjkicaaa
open Go.RowKit Go.ChangeShapes Go.WideShapes Go.Joins Go.Deep
section
variable {H : Type} {enc : TypeId × Value → H} {w : World} {base : Nat} {spare : Nat → Bool} {held : Bool}
set_option maxRecDepth 100000 in
theorem open_rdn {r : Reach} {b0 : Nat} {v : Value} {d : DataW H} {p : List MemPlace} (hv : Value.okWide Try.prog w r b0 53 v) (h : DataW.Trod enc Try.prog w base spare held 53 v d p) :
    ∃ A V : ByteArray, v = .agg #[.string A, .string V] ∧ A.size ≤ maxLen ∧ V.size ≤ maxLen := by
  obtain ⟨c0, c1, y0, y1, m, rfl, _, _, hy0, hy1⟩ := open_agg2 Try.underlying53 (by kernel_rfl) Try.cells53 hv h
  obtain ⟨s, e1, _, z1⟩ := DataW.trod_string Try.underlying9 hy0
  obtain ⟨t, e2, _, z2⟩ := DataW.trod_string Try.underlying9 hy1
  simp at e1 e2
  subst e1 e2
  exact ⟨s, t, rfl, z1, z2⟩
end
end Go.Proofs.Ytadbjpfgjkicaaa
