/- Arguments that are names: where they lie. -/
import Derived.Test.YtjajpdghamecoaaLaw2
import Derived.Deep.SlicePairs
import Derived.OpenShut
import Derived.ProofKit
namespace Go.Proofs.Ytjajpdghamecoaa
open Go.RowKit Go.ChangeShapes Go.WideShapes Go.Deep

theorem Try.struct114 : ∃ f0 f1 : Field, Try.prog.underlying 114 = some (.struct #[f0, f1]) ∧ f0.offset = 0 ∧ f1.offset = 1 ∧ Try.prog.underlying f0.type = some .string ∧ Try.prog.underlying f1.type = some .string ∧ Try.prog.cellsOf f0.type = 1 ∧ Try.prog.cellsOf f1.type = 1 := by
  refine ⟨_, _, Try.underlying114, ?_, ?_, ?_, ?_, ?_, ?_⟩
  all_goals kernel_rfl
theorem Try.cells114 : Try.prog.cellsOf 114 = 2 := by kernel_rfl
section
variable {H : Type} {enc : TypeId × Value → H} {w : World} {base : Nat} {spare : Nat → Bool} {held : Bool}
theorem open_dn {fuel : Nat} {ao : Option Addr} {len cap : Nat} {x : DataW H × List MemPlace} (h : DataW.trod enc Try.prog w base spare held fuel 35 [.slice ao len cap] = some x) :
    ∃ d : RdnL, len = d.length ∧ DnAt w ao d ∧ Long d ∧ len ≤ cap ∧ (ao = none → cap = 0) := by
  obtain ⟨f0, f1, hst, o0, o1, u0, u1, c0, c1⟩ := Try.struct114
  rcases open_slice_pairs Try.underlying35 hst Try.cells114 o0 o1 c0 c1 h with ⟨hcs, _⟩ | ⟨a, l, c, m, n, V0, V1, D0, D1, P0, P1, hcs, hb, hl, hm, hmm, _, hx⟩
  · simp at hcs
    obtain ⟨rfl, rfl, rfl⟩ := hcs
    exact ⟨[], rfl, .inl rfl, ⟨by simp, by simp⟩, Nat.le_refl _, fun _ => rfl⟩
  · simp at hcs
    obtain ⟨rfl, rfl, rfl⟩ := hcs
    have hle : len ≤ m := by rw [hmm]; split <;> omega
    have hs : ∀ i, i < len → ∃ s t : ByteArray, V0 i = .string s ∧ V1 i = .string t ∧ s.size ≤ maxLen ∧ t.size ≤ maxLen := by
      intro i hi
      obtain ⟨_, _, h1, h2⟩ := hx i (by omega)
      obtain ⟨s, e1, _, z1⟩ := DataW.trod_string u0 h1
      obtain ⟨t, e2, _, z2⟩ := DataW.trod_string u1 h2
      simp at e1 e2
      exact ⟨s, t, e1, e2, z1, z2⟩
    refine ⟨(List.range len).map fun i => (strOf (V0 i), strOf (V1 i)), by simp, ?_, ⟨by simp; unfold maxLen at hm; omega, ?_⟩, hl, fun h => by cases h⟩
    · by_cases h0 : len = 0
      · subst h0; exact .inl rfl
      · obtain ⟨b, off, spot⟩ := a
        have hspot : spot = none := by
          have := (hx 0 (by omega)).1
          simpa [Addr.add] using World.cell?_spot this
        subst hspot
        refine .inr ⟨b, off, rfl, ?_, fun i hi => ?_⟩
        · have := World.block_lt_of_cell? w _ (hx 0 (by omega)).1
          simpa [Addr.add] using this
        · have hi' : i < len := by simpa using hi
          obtain ⟨s, t, e1, e2, _, _⟩ := hs i hi'
          obtain ⟨h1, h2, _, _⟩ := hx i (by omega)
          rw [Go.WideShapes.add_plain] at h1 h2
          rw [List.getElem_map, List.getElem_range, e1, e2]
          rw [e1] at h1
          rw [e2] at h2
          exact ⟨h1, h2⟩
    · intro r hr
      obtain ⟨i, hi, rfl⟩ := List.mem_map.1 hr
      obtain ⟨s, t, e1, e2, z1, z2⟩ := hs i (by simpa using hi)
      rw [e1, e2]
      exact ⟨z1, z2⟩
end
end Go.Proofs.Ytjajpdghamecoaa
