/- Norm: the plain mathematics. -/
import Derived.Test.YtjajpdghamecoaaName2
namespace Go.Proofs.Ytjajpdghamecoaa
open Go.RowKit

/-- the small letter of a capital one -/
def low (c : UInt8) : UInt8 := if 65 ≤ c.toNat ∧ c.toNat ≤ 90 then UInt8.ofNat (c.toNat + 32) else c
theorem low_in (c : UInt8) (h : 65 ≤ c.toNat ∧ c.toNat ≤ 90) : ((low c).toNat : Int) = (c.toNat : Int) + 32 := by
  unfold low; rw [if_pos h]; simp; omega
theorem low_out (c : UInt8) (h : ¬ (65 ≤ c.toNat ∧ c.toNat ≤ 90)) : low c = c := by unfold low; rw [if_neg h]
theorem low_space (c : UInt8) : low c = 32 ↔ c = 32 := by
  by_cases h : 65 ≤ c.toNat ∧ c.toNat ≤ 90
  · constructor
    · intro e
      have h1 := low_in c h
      rw [e] at h1
      have : ((32 : UInt8).toNat : Int) = 32 := rfl
      omega
    · intro e; subst e; simp at h
  · rw [low_out c h]
/-- one byte more of a normalized text -/
def nstep (o : List UInt8) (c : UInt8) : List UInt8 := if c = 32 ∧ (o = [] ∨ o.getLast? = some 32) then o else o ++ [low c]
def nfold (l : List UInt8) : List UInt8 := l.foldl nstep []
def chop (o : List UInt8) : List UInt8 := if o.getLast? = some 32 then o.dropLast else o
def plainB (l : List UInt8) : Bool := l.all (fun c => decide (32 ≤ (c.toNat : Int)) && decide ((c.toNat : Int) ≤ 126))
def normL (l : List UInt8) : List UInt8 := if l.length ≤ 100 ∧ plainB l = true then chop (nfold l) else []
def normS (s : ByteArray) : ByteArray := ⟨(normL s.data.toList).toArray⟩

theorem nstep_skip {o : List UInt8} {c : UInt8} (h1 : c = 32) (h2 : o = [] ∨ o.getLast? = some 32) : nstep o c = o := by unfold nstep; rw [if_pos ⟨h1, h2⟩]
theorem nstep_add {o : List UInt8} {c : UInt8} (h : ¬ (c = 32 ∧ (o = [] ∨ o.getLast? = some 32))) : nstep o c = o ++ [low c] := by unfold nstep; rw [if_neg h]
theorem nfold_snoc (l : List UInt8) (c : UInt8) : nfold (l ++ [c]) = nstep (nfold l) c := by simp [nfold]
theorem nfold_len (l : List UInt8) : (nfold l).length ≤ l.length := by
  have : ∀ (l o : List UInt8), (l.foldl nstep o).length ≤ o.length + l.length := by
    intro l
    induction l with
    | nil => intro o; simp
    | cons c l ih =>
      intro o
      rw [List.foldl_cons]
      refine Nat.le_trans (ih _) ?_
      unfold nstep
      split <;> simp <;> omega
  simpa [nfold] using this l []
theorem chop_len (o : List UInt8) : (chop o).length ≤ o.length := by unfold chop; split <;> simp
theorem normL_len (l : List UInt8) : (normL l).length ≤ 100 := by
  unfold normL
  split
  · rename_i h
    exact Nat.le_trans (chop_len _) (Nat.le_trans (nfold_len l) h.1)
  · simp
theorem normL_le (l : List UInt8) : (normL l).length ≤ l.length := by
  unfold normL
  split
  · exact Nat.le_trans (chop_len _) (nfold_len l)
  · simp
theorem normL_long {l : List UInt8} (h : ¬ l.length ≤ 100) : normL l = [] := by unfold normL; rw [if_neg (fun g => h g.1)]
theorem normL_odd {l : List UInt8} (h : plainB l = false) : normL l = [] := by unfold normL; rw [if_neg (fun g => by rw [h] at g; cases g.2)]
theorem normL_in {l : List UInt8} (h : l.length ≤ 100) (g : plainB l = true) : normL l = chop (nfold l) := by unfold normL; rw [if_pos ⟨h, g⟩]
theorem plainB_snoc (l : List UInt8) (c : UInt8) : plainB (l ++ [c]) = (plainB l && (decide (32 ≤ (c.toNat : Int)) && decide ((c.toNat : Int) ≤ 126))) := by simp [plainB]
theorem plainB_false (s : ByteArray) (k : Nat) (h : k < s.size) (hn : ¬ (32 ≤ (s[k].toNat : Int) ∧ (s[k].toNat : Int) ≤ 126)) : plainB s.data.toList = false := by
  unfold plainB; rw [List.all_eq_false]; exact ⟨_, mem_get s k h, by simp; omega⟩
end Go.Proofs.Ytjajpdghamecoaa
