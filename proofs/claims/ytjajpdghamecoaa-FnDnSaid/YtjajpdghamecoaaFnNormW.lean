/- The law FnNorm: its walk. -/
import Derived.Test.YtjajpdghamecoaaDraw2
import Derived.Test.YtjajpdghamecoaaNormMath2
import Derived.OpenShut
namespace Go.Proofs.Ytjajpdghamecoaa
open Go.RowKit

theorem normS_le (s : ByteArray) : (normS s).size ≤ s.size := by
  have := normL_le s.data.toList
  rw [size_len] at this
  exact this

theorem wpList_bare {P : Program} {ops : Array Oper} {Q : Exit → Act → World → Prop} {a : Act} {w : World} {rest : List Oper} {o : Oper} (hw : Region.wanted o (yielded ops a.tmps) = true) (h : wpList P ops Q ({ o with guard := none } :: rest) a w) : wpList P ops Q (o :: rest) a w := by
  have e : Region.wanted { o with guard := none } (yielded ops a.tmps) = true := rfl
  simp only [wpList, hw, if_true]
  simp only [wpList, e, if_true] at h
  exact h
theorem Norm_of (x n : ByteArray) (w : World) (hs : x.size ≤ maxLen) (h : normS x = n) : Calls Try.prog 99 #[.string x] w fun e w' => e = .returned (.string n) ∧ Below w.heap.size w w' := h ▸ Norm_any x w hs
theorem getB (n : ByteArray) (k : Nat) (h : k < n.size) : n.data.toList[k]'(by rw [size_len]; exact h) = n[k] := rfl
theorem fixB {n : ByteArray} {k : Nat} (hf : Fix n.data.toList) (hk : k < n.size) : low n[k] = n[k] := (nstep_fix (hf k (by rw [size_len]; exact hk))).1
theorem Stands.addB {L : List UInt8} {n : ByteArray} {k : Nat} (h : Stands L (n.data.toList.take k)) (hk : k < n.size) (hf : Fix n.data.toList) (c : UInt8) (hc : low c = n[k]) (hs : n[k] ≠ 32) (hr : 32 ≤ c.toNat ∧ c.toNat ≤ 126) : Stands (L ++ [c]) (n.data.toList.take (k + 1)) := by
  have hk' : k < n.data.toList.length := by rw [size_len]; exact hk
  refine ⟨?_, ?_⟩
  · rw [nfold_snoc, h.1, List.take_succ_eq_append_getElem hk', nstep_add (fun e => ?_), hc]; rfl
    exact hs (by rw [← hc]; exact (low_space c).2 e.1)
  · rw [plainB_snoc, h.2]; simp; omega
theorem Stands.twoB {L : List UInt8} {n : ByteArray} {k : Nat} (h : Stands L (n.data.toList.take k)) (hf : Fix n.data.toList) (hk : k < n.size) (hs : n[k] = 32) : Stands (L ++ [32] ++ [32]) (n.data.toList.take (k + 1)) :=
  h.two hf (by rw [size_len]; exact hk) hs

/-- what a law is told of a slice of bytes: nil, or a row of cells -/
def IsRow (k : IntKind) (w : World) (a : Option Addr) (len cap : Nat) (zs : List Int) : Prop :=
  (a = none ∧ len = 0 ∧ cap = 0 ∧ zs = []) ∨
  ∃ x, a = some x ∧ len ≤ cap ∧ cap ≤ maxLen ∧ zs.length = cap ∧ (∀ i, i < zs.length → w.cell? (x.add i) = some (.int k (zs.getD i 0))) ∧ ∀ n ∈ zs, (Lit.int k n).wf = true
theorem IsRow.row {w : World} {a : Option Addr} {len cap : Nat} {zs : List Int} (h : IsRow .u8 w a len cap zs) : Row w w.heap.size a len := by
  rcases h with ⟨_, h, _, _⟩ | ⟨x, rfl, hl, hm, hz, hc, hw⟩
  · exact .inl h
  · by_cases h0 : len = 0
    · exact .inl h0
    · obtain ⟨b, off, rfl, hcell⟩ := ints_at hc (by omega)
      refine .inr ⟨b, off, rfl, ?_, fun j hj => ⟨_, hcell j (by omega), ?_⟩⟩
      · have h1 := hcell 0 (by omega)
        rcases Nat.lt_or_ge b w.heap.size with h | h
        · exact h
        · simp [World.cell?, Array.getElem?_eq_none h] at h1
      · have := bounds_u8 (hw (zs.getD j 0) (by
          rw [List.getD_eq_getElem?_getD, List.getElem?_eq_getElem (by omega)]
          exact List.getElem_mem _))
        exact this
theorem IsRow.bound {w : World} {a : Option Addr} {len cap : Nat} {zs : List Int} (h : IsRow .u8 w a len cap zs) : len ≤ 9223372036854775807 := by
  rcases h with ⟨_, h, _, _⟩ | ⟨x, _, hl, hm, _⟩
  · omega
  · unfold maxLen at hm; omega
end Go.Proofs.Ytjajpdghamecoaa
