/- Norm: what is normalized stays as it is; capitals and more spaces count for nothing. -/
import Derived.Test.YtjajpdghamecoaaNorm3
namespace Go.Proofs.Ytjajpdghamecoaa
open Go.RowKit

theorem low_low (c : UInt8) : low (low c) = low c := by
  by_cases h : 65 ≤ c.toNat ∧ c.toNat ≤ 90
  · have h1 := low_in c h
    exact low_out _ (by omega)
  · rw [low_out c h, low_out c h]
theorem nstep_fix {o : List UInt8} {c : UInt8} (h : nstep o c = o ++ [c]) : low c = c ∧ ¬ (c = 32 ∧ (o = [] ∨ o.getLast? = some 32)) := by
  by_cases g : c = 32 ∧ (o = [] ∨ o.getLast? = some 32)
  · rw [nstep_skip g.1 g.2] at h
    have := congrArg List.length h
    simp at this
  · rw [nstep_add g] at h
    have := List.append_cancel_left h
    simp at this
    exact ⟨this, g⟩
/-- each byte of it adds itself -/
def Fix (o : List UInt8) : Prop := ∀ k (h : k < o.length), nstep (o.take k) o[k] = o.take k ++ [o[k]]
theorem Fix.nil : Fix [] := fun k h => by simp at h
theorem Fix.snoc {o : List UInt8} {c : UInt8} (h : Fix o) (g : nstep o c = o ++ [c]) : Fix (o ++ [c]) := by
  intro k hk
  rw [List.length_append, List.length_singleton] at hk
  by_cases e : k < o.length
  · rw [List.take_append_of_le_length (by omega), List.getElem_append_left e]; exact h k e
  · have e : k = o.length := by omega
    subst e
    rw [List.take_left, List.getElem_append_right (Nat.le_refl _)]
    simpa using g
theorem Fix.take {o : List UInt8} (h : Fix o) (m : Nat) : Fix (o.take m) := by
  intro k hk
  have hk' := hk
  rw [List.length_take] at hk'
  rw [List.take_take, Nat.min_eq_left (by omega), List.getElem_take]
  exact h k (by omega)
theorem Fix.fold {o : List UInt8} (h : Fix o) : ∀ k, k ≤ o.length → nfold (o.take k) = o.take k := by
  intro k
  induction k with
  | zero => intro _; rfl
  | succ k ih =>
    intro hk
    have hk' : k < o.length := by omega
    rw [List.take_succ_eq_append_getElem hk', nfold_snoc, ih (by omega), h k hk']
theorem fix_nfold (l : List UInt8) : Fix (nfold l) := by
  have : ∀ (l o : List UInt8), Fix o → Fix (l.foldl nstep o) := by
    intro l
    induction l with
    | nil => intro o h; exact h
    | cons c l ih =>
      intro o h
      rw [List.foldl_cons]
      refine ih _ ?_
      by_cases g : c = 32 ∧ (o = [] ∨ o.getLast? = some 32)
      · rw [nstep_skip g.1 g.2]; exact h
      · rw [nstep_add g]
        refine h.snoc ?_
        rw [nstep_add (fun e => g ⟨(low_space c).1 e.1, e.2⟩), low_low]
  exact this l [] Fix.nil
theorem chop_fix {o : List UInt8} (h : Fix o) : Fix (chop o) ∧ (chop o).getLast? ≠ some 32 := by
  unfold chop
  split
  · rename_i e
    have hne : o ≠ [] := fun g => by subst g; simp at e
    have hl : 0 < o.length := List.length_pos_iff.2 hne
    refine ⟨by rw [List.dropLast_eq_take]; exact h.take _, ?_⟩
    have h1 := h (o.length - 1) (by omega)
    have h2 : o[o.length - 1] = 32 := by
      rw [List.getLast?_eq_getElem?, List.getElem?_eq_getElem (by omega)] at e
      exact Option.some.inj e
    rw [h2, ← List.dropLast_eq_take] at h1
    intro g
    exact (nstep_fix h1).2 ⟨rfl, .inr g⟩
  · rename_i e
    exact ⟨h, e⟩
theorem normL_fix (l : List UInt8) : Fix (normL l) ∧ (normL l).getLast? ≠ some 32 := by
  unfold normL
  split
  · exact chop_fix (fix_nfold l)
  · exact ⟨Fix.nil, by simp⟩
def plainC (c : UInt8) : Bool := decide (32 ≤ (c.toNat : Int)) && decide ((c.toNat : Int) ≤ 126)
theorem plainB_all (l : List UInt8) : plainB l = true ↔ ∀ c ∈ l, 32 ≤ c.toNat ∧ c.toNat ≤ 126 := by
  unfold plainB
  rw [List.all_eq_true]
  constructor
  · intro h c hc; have := h c hc; simp at this; omega
  · intro h c hc; have := h c hc; simp; omega
theorem low_plain {c : UInt8} (h : 32 ≤ c.toNat ∧ c.toNat ≤ 126) : 32 ≤ (low c).toNat ∧ (low c).toNat ≤ 126 := by
  by_cases g : 65 ≤ c.toNat ∧ c.toNat ≤ 90
  · have := low_in c g; omega
  · rw [low_out c g]; exact h
theorem nfold_plain (l : List UInt8) (h : ∀ c ∈ l, 32 ≤ c.toNat ∧ c.toNat ≤ 126) : ∀ c ∈ nfold l, 32 ≤ c.toNat ∧ c.toNat ≤ 126 := by
  have : ∀ (l o : List UInt8), (∀ c ∈ l, 32 ≤ c.toNat ∧ c.toNat ≤ 126) → (∀ c ∈ o, 32 ≤ c.toNat ∧ c.toNat ≤ 126) → ∀ c ∈ l.foldl nstep o, 32 ≤ c.toNat ∧ c.toNat ≤ 126 := by
    intro l
    induction l with
    | nil => intro o _ h; exact h
    | cons c l ih =>
      intro o hl ho
      rw [List.foldl_cons]
      refine ih _ (fun d hd => hl d (List.mem_cons_of_mem _ hd)) ?_
      unfold nstep
      split
      · exact ho
      · intro d hd
        rcases List.mem_append.1 hd with h | h
        · exact ho d h
        · rw [List.mem_singleton.1 h]; exact low_plain (hl c (List.mem_cons_self ..))
  exact this l [] h (by simp)
theorem normL_plain (l : List UInt8) : plainB (normL l) = true := by
  unfold normL
  split
  · rename_i h
    rw [plainB_all]
    have hp := nfold_plain l ((plainB_all l).1 h.2)
    intro c hc
    refine hp c ?_
    unfold chop at hc
    split at hc
    · exact List.dropLast_subset _ hc
    · exact hc
  · rfl
theorem chop_id {o : List UInt8} (h : o.getLast? ≠ some 32) : chop o = o := by unfold chop; rw [if_neg h]
theorem normL_idem (l : List UInt8) : normL (normL l) = normL l := by
  have hf := normL_fix l
  have h1 := hf.1.fold (normL l).length (Nat.le_refl _)
  rw [List.take_length] at h1
  rw [normL_in (normL_len l) (normL_plain l), h1, chop_id hf.2]
theorem normS_idem (s : ByteArray) : normS (normS s) = normS s := by
  show (⟨(normL (normL s.data.toList)).toArray⟩ : ByteArray) = _
  rw [normL_idem]; rfl
/-- what a text stands for as far as it has been laid -/
def Stands (L o : List UInt8) : Prop := nfold L = o ∧ plainB L = true
theorem stands_32 : Stands [32] [] := ⟨rfl, rfl⟩
theorem Stands.add {L n : List UInt8} {k : Nat} (h : Stands L (n.take k)) (hf : Fix n) (hp : plainB n = true) (hk : k < n.length) (c : UInt8) (hc : low c = n[k]) (hs : n[k] ≠ 32) (hr : 32 ≤ c.toNat ∧ c.toNat ≤ 126) : Stands (L ++ [c]) (n.take (k + 1)) := by
  refine ⟨?_, ?_⟩
  · rw [nfold_snoc, h.1, List.take_succ_eq_append_getElem hk, nstep_add (fun e => ?_), hc]
    exact hs (by rw [← hc]; exact (low_space c).2 e.1)
  · rw [plainB_snoc, h.2]; simp; omega
theorem Stands.two {L n : List UInt8} {k : Nat} (h : Stands L (n.take k)) (hf : Fix n) (hk : k < n.length) (hs : n[k] = 32) : Stands (L ++ [32] ++ [32]) (n.take (k + 1)) := by
  have h1 := hf k hk
  rw [hs] at h1
  refine ⟨?_, ?_⟩
  · rw [nfold_snoc, nfold_snoc, h.1, List.take_succ_eq_append_getElem hk, hs, h1, nstep_skip rfl (.inr (by simp))]
  · rw [plainB_snoc, plainB_snoc, h.2]; rfl
theorem Stands.done {L n : List UInt8} (h : Stands L n) (hl : n.getLast? ≠ some 32) (hL : L.length ≤ 90) : normL (L ++ [32]) = n := by
  rw [normL_in (by simp; omega) (by rw [plainB_snoc, h.2]; rfl), nfold_snoc, h.1]
  unfold nstep
  split
  · exact chop_id hl
  · unfold chop
    rw [if_pos (by simp; rfl)]
    simp
end Go.Proofs.Ytjajpdghamecoaa
