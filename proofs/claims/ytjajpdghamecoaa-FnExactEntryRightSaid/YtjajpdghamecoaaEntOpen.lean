/- Arguments that are entries: where they lie. -/
import Derived.Test.YtjajpdghamecoaaEntEq
import Derived.Lib.SmallJoins
namespace Go.Proofs.Ytjajpdghamecoaa
open Go.RowKit Go.ChangeShapes Go.WideShapes Go.Joins Go.Deep

theorem list_of {α : Type} (Q : Nat → α → Prop) (n : Nat) (h : ∀ i, i < n → ∃ a, Q i a) : ∃ l : List α, l.length = n ∧ ∀ i (hi : i < l.length), Q i l[i] := by
  induction n with
  | zero => exact ⟨[], rfl, fun i hi => by simp at hi⟩
  | succ n ih =>
    obtain ⟨l, hl, hq⟩ := ih fun i hi => h i (by omega)
    obtain ⟨a, ha⟩ := h n (by omega)
    refine ⟨l ++ [a], by simp [hl], fun i hi => ?_⟩
    by_cases e : i < l.length
    · rw [List.getElem_append_left e]; exact hq i e
    · have : i = n := by simp at hi; omega
      subst this
      rw [List.getElem_append_right (by omega)]
      simpa using ha
theorem Try.cells9 : Try.prog.cellsOf 9 = 1 := by kernel_rfl
theorem Try.struct116 : ∃ f0 f1 : Field, Try.prog.underlying 116 = some (.struct #[f0, f1]) ∧ f0.offset = 0 ∧ f1.offset = 1 ∧ Try.prog.underlying f0.type = some .string ∧ Try.prog.underlying f1.type = some (.slice 9) ∧ Try.prog.cellsOf f0.type = 1 ∧ Try.prog.cellsOf f1.type = 1 := by
  refine ⟨_, _, Try.underlying116, ?_, ?_, ?_, ?_, ?_, ?_⟩
  all_goals kernel_rfl
theorem Try.cells116 : Try.prog.cellsOf 116 = 2 := by kernel_rfl
theorem Try.cells38 : Try.prog.cellsOf 38 = 2 := by kernel_rfl
section
variable {H : Type} {enc : TypeId × Value → H} {w : World} {base : Nat} {spare : Nat → Bool} {held : Bool}
theorem open_vals {t : TypeId} {fuel : Nat} {v : Value} {x : DataW H × List MemPlace} (ht : Try.prog.underlying t = some (.slice 9)) (h : DataW.trod enc Try.prog w base spare held fuel t [v] = some x) :
    ∃ vo vc, ∃ l : List ByteArray, v = .slice vo l.length vc ∧ ValsAt w vo vc l ∧ LongV l := by
  rcases open_strings ht Try.underlying9 Try.cells9 h with ⟨hcs, _⟩ | ⟨a, len, cap, ss, hcs, hb, hl, hm, hlen, _, hc, hs⟩
  · simp at hcs
    subst hcs
    exact ⟨none, 0, [], rfl, ⟨.inl rfl, Nat.le_refl _, fun _ => rfl⟩, by simp, by simp⟩
  · simp at hcs
    subst hcs
    have hle : len ≤ ss.length := by rw [hlen]; split <;> omega
    have htl : (ss.take len).length = len := by rw [List.length_take]; omega
    refine ⟨some a, cap, ss.take len, by rw [htl], ⟨?_, by omega, fun e => by cases e⟩, by unfold maxLen at hm; omega, fun s hs' => hs s (List.mem_of_mem_take hs')⟩
    by_cases h0 : len = 0
    · left; exact List.length_eq_zero_iff.1 (by omega)
    · obtain ⟨b, off, spot⟩ := a
      have hspot : spot = none := by
        have := hc 0 (by omega)
        simpa [Addr.add] using World.cell?_spot this
      subst hspot
      refine .inr ⟨b, off, rfl, ?_, fun i hi => ?_⟩
      · have := World.block_lt_of_cell? w _ (hc 0 (by omega))
        simpa [Addr.add] using this
      · have := hc i (by omega)
        rw [Go.WideShapes.add_plain] at this
        have hi2 : i < ss.length := by omega
        rw [this, List.getElem_take, List.getD_eq_getElem?_getD, List.getElem?_eq_getElem hi2]
        rfl
theorem open_attrs {fuel : Nat} {ao : Option Addr} {len cap : Nat} {x : DataW H × List MemPlace} (h : DataW.trod enc Try.prog w base spare held fuel 36 [.slice ao len cap] = some x) :
    ∃ l : List AttrV, len = l.length ∧ AttrsAt w ao l ∧ LongA l ∧ len ≤ cap ∧ (ao = none → cap = 0) := by
  obtain ⟨f0, f1, hst, o0, o1, u0, u1, c0, c1⟩ := Try.struct116
  rcases open_slice_pairs Try.underlying36 hst Try.cells116 o0 o1 c0 c1 h with ⟨hcs, _⟩ | ⟨a, l, c, m, n, V0, V1, D0, D1, P0, P1, hcs, hb, hl, hm, hmm, _, hx⟩
  · simp at hcs
    obtain ⟨rfl, rfl, rfl⟩ := hcs
    exact ⟨[], rfl, .inl rfl, ⟨by simp, by simp⟩, Nat.le_refl _, fun _ => rfl⟩
  · simp at hcs
    obtain ⟨rfl, rfl, rfl⟩ := hcs
    have hle : len ≤ m := by rw [hmm]; split <;> omega
    obtain ⟨L, hL, hq⟩ := list_of (fun i (a : AttrV) => V0 i = .string a.1 ∧ (∃ vo vc, V1 i = .slice vo a.2.length vc ∧ ValsAt w vo vc a.2) ∧ a.1.size ≤ maxLen ∧ LongV a.2) len (by
      intro i hi
      obtain ⟨_, _, h1, h2⟩ := hx i (by omega)
      obtain ⟨s, e1, _, z1⟩ := DataW.trod_string u0 h1
      obtain ⟨vo, vc, l, e2, e3, z2⟩ := open_vals u1 h2
      simp at e1
      exact ⟨(s, l), e1, ⟨vo, vc, e2, e3⟩, z1, z2⟩)
    refine ⟨L, hL.symm, ?_, ⟨by unfold maxLen at hm; omega, ?_⟩, hl, fun h => by cases h⟩
    · by_cases h0 : len = 0
      · left; exact List.length_eq_zero_iff.1 (by omega)
      · obtain ⟨b, off, spot⟩ := a
        have hspot : spot = none := by
          have := (hx 0 (by omega)).1
          simpa [Addr.add] using World.cell?_spot this
        subst hspot
        refine .inr ⟨b, off, rfl, ?_, fun i hi => ?_⟩
        · have := World.block_lt_of_cell? w _ (hx 0 (by omega)).1
          simpa [Addr.add] using this
        · obtain ⟨e1, ⟨vo, vc, e2, e3⟩, _, _⟩ := hq i hi
          obtain ⟨h1, h2, _, _⟩ := hx i (by omega)
          rw [Go.WideShapes.add_plain] at h1 h2
          rw [e1] at h1
          rw [e2] at h2
          exact ⟨h1, vo, vc, h2, e3⟩
    · intro r hr
      obtain ⟨i, hi, rfl⟩ := List.getElem_of_mem hr
      obtain ⟨_, _, z1, z2⟩ := hq i hi
      exact ⟨z1, z2⟩
theorem slice_of {t e : TypeId} {fuel : Nat} {v : Value} {x : DataW H × List MemPlace} (ht : Try.prog.underlying t = some (.slice e)) (h : DataW.trod enc Try.prog w base spare held fuel t [v] = some x) : ∃ ao len cap, v = .slice ao len cap := by
  rcases DataW.trod_slice ht h with ⟨h0, _⟩ | ⟨a, len, cap, elems, rest, n, _, h0, _⟩
  · simp at h0; exact ⟨_, _, _, h0⟩
  · simp at h0; exact ⟨_, _, _, h0⟩
set_option maxRecDepth 100000 in
theorem open_entry {r : Reach} {b0 : Nat} {v : Value} {x : DataW H} {p : List MemPlace} (hv : Value.okWide Try.prog w r b0 38 v) (h : DataW.Trod enc Try.prog w base spare held 38 v x p) :
    ∃ ao ca bo cb, ∃ (d : RdnL) (l : List AttrV), v = .agg #[.slice ao d.length ca, .slice bo l.length cb] ∧ DnAt w ao d ∧ Long d ∧ AttrsAt w bo l ∧ LongA l := by
  obtain ⟨c0, c1, y0, y1, m, rfl, _, _, hy0, hy1⟩ := open_agg2 Try.underlying38 (by kernel_rfl) Try.cells38 hv h
  obtain ⟨ao, n0, ca, rfl⟩ := slice_of Try.underlying35 hy0
  obtain ⟨bo, n1, cb, rfl⟩ := slice_of Try.underlying36 hy1
  obtain ⟨d, rfl, h1, h2, _, _⟩ := open_dn hy0
  obtain ⟨l, rfl, h3, h4, _, _⟩ := open_attrs hy1
  exact ⟨ao, ca, bo, cb, d, l, rfl, h1, h2, h3, h4⟩
end
end Go.Proofs.Ytjajpdghamecoaa
