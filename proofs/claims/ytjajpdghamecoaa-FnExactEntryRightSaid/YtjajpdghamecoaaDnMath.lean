/- Distinguished names: lists of pairs, and where they lie. -/
import Derived.Test.YtjajpdghamecoaaNorm3
import Derived.Test.YtjajpdghamecoaaName3
namespace Go.Proofs.Ytjajpdghamecoaa
open Go.RowKit

abbrev RdnL := List (ByteArray × ByteArray)
/-- a value whose normalized form is not empty -/
def valB (s : ByteArray) : Bool := decide (1 ≤ s.size) && decide (s.size ≤ 40) && !(normS s).toList.isEmpty
def rdnB (r : ByteArray × ByteArray) : Bool := nmL r.1 && valB r.2
def dnB (d : RdnL) : Bool := decide (d.length ≤ 6) && d.all rdnB
/-- all its strings are strings of Go -/
def Fits (d : RdnL) : Prop := d.length ≤ 1048576 ∧ ∀ r ∈ d, r.1.size ≤ 1048576 ∧ r.2.size ≤ 1048576
/-- a name lies behind a slice -/
def DnAt (w : World) (ao : Option Addr) (d : RdnL) : Prop :=
  d = [] ∨ ∃ b off, ao = some ⟨b, off, none⟩ ∧ b < w.heap.size ∧ ∀ i (h : i < d.length), w.cell? ⟨b, off + i * 2, none⟩ = some (.string d[i].1) ∧ w.cell? ⟨b, off + i * 2 + 1, none⟩ = some (.string d[i].2)
theorem DnAt.below {w w' : World} {ao : Option Addr} {d : RdnL} (h : DnAt w ao d) (hb : Below w.heap.size w w') : DnAt w' ao d := by
  rcases h with h | ⟨b, off, h1, h2, h3⟩
  · exact .inl h
  · exact .inr ⟨b, off, h1, Nat.lt_of_lt_of_le h2 hb.size, fun i hi => ⟨(hb.cell (p := ⟨b, off + i * 2, none⟩) h2).trans (h3 i hi).1, (hb.cell (p := ⟨b, off + i * 2 + 1, none⟩) h2).trans (h3 i hi).2⟩⟩
theorem DnAt.at {w : World} {ao : Option Addr} {d : RdnL} (h : DnAt w ao d) {k : Nat} (hk : k < d.length) :
    ∃ b off, ao = some ⟨b, off, none⟩ ∧ b < w.heap.size ∧ w.cell? ⟨b, off + k * 2, none⟩ = some (.string d[k].1) ∧ w.cell? ⟨b, off + k * 2 + 1, none⟩ = some (.string d[k].2) := by
  rcases h with h | ⟨b, off, h1, h2, h3⟩
  · subst h; simp at hk
  · exact ⟨b, off, h1, h2, h3 k hk⟩
theorem Fits.at {d : RdnL} (h : Fits d) {k : Nat} (hk : k < d.length) : d[k].1.size ≤ maxLen ∧ d[k].2.size ≤ maxLen := by
  have := h.2 _ (List.getElem_mem hk); unfold maxLen; omega
theorem all_take {α : Type} (p : α → Bool) (l : List α) (k : Nat) (h : k < l.length) : (l.take (k + 1)).all p = ((l.take k).all p && p l[k]) := by
  rw [List.take_succ_eq_append_getElem h, List.all_append]; simp only [List.all_cons, List.all_nil, Bool.and_true]
theorem all_bad {α : Type} (p : α → Bool) (l : List α) (k : Nat) (h : k < l.length) (hp : p l[k] = false) : l.all p = false := by
  rw [List.all_eq_false]; exact ⟨_, List.getElem_mem h, by simp [hp]⟩
theorem plain_of_norm {s : ByteArray} (h : plainB s.data.toList = false) : (normS s).toList.isEmpty = true := by rw [normS_odd s h, Lib.toList_data]; rfl
end Go.Proofs.Ytjajpdghamecoaa
