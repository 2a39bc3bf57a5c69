/- Merged texts: BerG0, Norm3, Name3, DnMath, Dn, Dn2, Own, JoinR, MkT, BerG. -/
import Derived.Test.YtohcdpoffpnfhaaM1
import Derived.Lib.Strings
import Derived.Below
import Derived.BigRegion
import Derived.Deep.DrawnRows
import Derived.Deep.Light
import Derived.Deep.RegionHeld3
import Derived.Deep.RegionWith
import Derived.Laws.Concat
import Derived.Laws.StructEq
import Derived.WalkKit
import Derived.WalkSpells
import Derived.WalkLawsBesides
import Derived.Lib.Hide
import Derived.Laws.Rows
/- BER: a length and its bytes: plain mathematics. -/
namespace Go.Proofs.Ytohcdpoffpnfhaa
open Go.RowKit

theorem ext_list (t : ByteArray) (a b : Nat) : (t.extract a b).data.toList = (t.data.toList.drop a).take (b - a) := by
  rw [ByteArray.data_extract, Array.toList_extract, List.extract_eq_take_drop]
theorem ext_one (t : ByteArray) (k : Nat) (h : k < t.size) : (t.extract k (k + 1)).data.toList = [t[k]] := by
  rw [ext_list, show k + 1 - k = 1 by omega, List.drop_eq_getElem_cons (by simpa using h)]
  rfl
theorem ext_two (t : ByteArray) (k : Nat) (h : k + 1 < t.size) : (t.extract k (k + 2)).data.toList = [t[k], t[k + 1]] := by
  have h1 := ext_one t (k + 1) h
  rw [ext_list] at *
  rw [List.drop_eq_getElem_cons (by simp; omega), show k + 2 - k = (k + 1 + 1 - (k + 1)) + 1 by omega, List.take_succ_cons, h1]
  rfl
theorem ext_three (t : ByteArray) (k : Nat) (h : k + 2 < t.size) : (t.extract k (k + 3)).data.toList = [t[k], t[k + 1], t[k + 2]] := by
  have h1 := ext_two t (k + 1) h
  rw [ext_list] at *
  rw [List.drop_eq_getElem_cons (by simp; omega), show k + 3 - k = (k + 1 + 2 - (k + 1)) + 1 by omega, List.take_succ_cons, h1]
  rfl
theorem u8_back (c : UInt8) (n : Nat) (h : c.toNat = n) : UInt8.ofNat n = c := by subst h; exact UInt8.ofNat_toNat
theorem ls_eq {a b : ByteArray} (h : a.data.toList = b.data.toList) : (a.toList == b.toList) = true := by
  have : a = b := by apply ByteArray.ext; exact Array.toList_inj.1 h
  rw [this]; simp
theorem ls_ne {a b : ByteArray} (h : a.data.toList ≠ b.data.toList) : (a.toList == b.toList) = false := by
  rw [Lib.toList_data, Lib.toList_data, beq_eq_false_iff_ne]
  exact h
theorem cmp_1 (t : ByteArray) (k : Nat) (h : k < t.size) (h1 : t[k].toNat < 128) : ((t.extract k (k + 1)).toList == (lenS t[k].toNat).toList) = true :=
  ls_eq (by rw [ext_one t k h]; unfold lenS; rw [lenL_1 h1, u8_back t[k] _ rfl])
theorem cmp_2 (t : ByteArray) (k : Nat) (h : k + 1 < t.size) (h1 : t[k].toNat = 129) (h2 : ¬ t[k + 1].toNat < 128) : ((t.extract k (k + 2)).toList == (lenS t[k + 1].toNat).toList) = true :=
  ls_eq (by rw [ext_two t k h]; unfold lenS; rw [lenL_2 h2 t[k + 1].toNat_lt, u8_back t[k + 1] _ rfl, ← u8_back t[k] 129 h1]; rfl)
theorem cmp_2bad (t : ByteArray) (k : Nat) (h : k + 1 < t.size) (h2 : t[k + 1].toNat < 128) : ((t.extract k (k + 2)).toList == (lenS t[k + 1].toNat).toList) = false :=
  ls_ne (by rw [ext_two t k h]; unfold lenS; rw [lenL_1 h2]; simp)
theorem cmp_3 (t : ByteArray) (k : Nat) (h : k + 2 < t.size) (h1 : t[k].toNat = 130) (h2 : ¬ t[k + 1].toNat * 256 + t[k + 2].toNat < 256) : ((t.extract k (k + 3)).toList == (lenS (t[k + 1].toNat * 256 + t[k + 2].toNat)).toList) = true :=
  ls_eq (by
    have ha := t[k + 1].toNat_lt; have hb := t[k + 2].toNat_lt
    rw [ext_three t k h]; unfold lenS
    rw [lenL_3 (by omega) h2, u8_back t[k + 1] _ (by omega), u8_back t[k + 2] _ (by omega), ← u8_back t[k] 130 h1]; rfl)
theorem cmp_3bad (t : ByteArray) (k : Nat) (h : k + 2 < t.size) (h2 : t[k + 1].toNat * 256 + t[k + 2].toNat < 256) : ((t.extract k (k + 3)).toList == (lenS (t[k + 1].toNat * 256 + t[k + 2].toNat)).toList) = false :=
  ls_ne (by
    rw [ext_three t k h]; unfold lenS
    by_cases h3 : t[k + 1].toNat * 256 + t[k + 2].toNat < 128
    · rw [lenL_1 h3]; simp
    · rw [lenL_2 h3 h2]; simp)
end Go.Proofs.Ytohcdpoffpnfhaa
/- Norm: what the program's text returns. -/
namespace Go.Proofs.Ytohcdpoffpnfhaa
open Go.RowKit

def endsB (l : List UInt8) : Bool := l.getLast? == some 32
theorem extract_list (s : ByteArray) (i j : Nat) : (s.extract i j).data.toList = (s.data.toList.take j).drop i := by
  rw [ByteArray.data_extract, Array.toList_extract]; simp [List.extract, List.drop_take]
theorem ends_last (s : ByteArray) (h : 1 ≤ s.size) : ((s.extract (s.size - 1) s.size).toList == [32]) = endsB s.data.toList := by
  have hl : s.data.toList.length = s.size := size_len s
  rw [Lib.toList_data, extract_list, List.take_of_length_le (by omega)]
  unfold endsB
  have hne : s.data.toList ≠ [] := by intro e; rw [e] at hl; simp at hl; omega
  rw [List.getLast?_eq_some_getLast hne]
  have e : s.data.toList.drop (s.size - 1) = [s.data.toList.getLast hne] := by
    have h2 := List.dropLast_concat_getLast hne
    have h3 : s.data.toList.dropLast.length = s.size - 1 := by rw [List.length_dropLast, hl]
    calc s.data.toList.drop (s.size - 1) = (s.data.toList.dropLast ++ [s.data.toList.getLast hne]).drop (s.size - 1) := by rw [h2]
      _ = _ := by rw [← h3, List.drop_left]
  rw [e]
  simp
theorem chop_ends (s : ByteArray) (h : endsB s.data.toList = true) : 1 ≤ s.size ∧ (⟨(chop s.data.toList).toArray⟩ : ByteArray) = s.extract 0 (s.size - 1) := by
  have hl := size_len s
  have h' : s.data.toList.getLast? = some 32 := by simpa [endsB] using h
  have h1 : 1 ≤ s.size := by
    rcases hd : s.data.toList with _ | ⟨x, l⟩
    · rw [hd] at h'; simp at h'
    · rw [hd] at hl; simp at hl; omega
  refine ⟨h1, ?_⟩
  apply ByteArray.ext
  apply Array.toList_inj.1
  rw [extract_list]
  unfold chop
  rw [if_pos h', List.dropLast_eq_take, hl]; simp
theorem chop_not (s : ByteArray) (h : endsB s.data.toList = false) : (⟨(chop s.data.toList).toArray⟩ : ByteArray) = s := by
  have h' : ¬ s.data.toList.getLast? = some 32 := by intro e; simp [endsB, e] at h
  unfold chop
  rw [if_neg h']
theorem normS_long (s : ByteArray) (h : ¬ s.size ≤ 100) : normS s = ByteArray.empty := by unfold normS; rw [normL_long (by rw [size_len]; exact h)]; rfl
theorem normS_odd (s : ByteArray) (h : plainB s.data.toList = false) : normS s = ByteArray.empty := by unfold normS; rw [normL_odd h]; rfl
end Go.Proofs.Ytohcdpoffpnfhaa
/- What the specification's text of NameRight returns. -/
namespace Go.Proofs.Ytohcdpoffpnfhaa
open Go.RowKit

/-- the first k bytes are as they must be -/
def goodTo (s : ByteArray) (k : Nat) : Bool := allB (s.data.toList.take k) && (decide (k = 0) || letB ((s.data.toList.getD 0 0).toNat : Int))

theorem nameB_of_let {c : Int} (h : letB c = true) : nameB c = true := by simp [nameB, h]

end Go.Proofs.Ytohcdpoffpnfhaa
/- Distinguished names: lists of pairs, and where they lie. -/
namespace Go.Proofs.Ytohcdpoffpnfhaa
open Go.RowKit

abbrev RdnL := List (ByteArray × ByteArray)
/-- a value whose normalized form is not empty -/
def valB (s : ByteArray) : Bool := decide (1 ≤ s.size) && decide (s.size ≤ 40) && !(normS s).toList.isEmpty
def rdnB (r : ByteArray × ByteArray) : Bool := nmL r.1 && valB r.2
def dnB (d : RdnL) : Bool := decide (d.length ≤ 6) && d.all rdnB
/-- all its strings are strings of Go -/
def Fits (d : RdnL) : Prop := d.length ≤ 1048576 ∧ ∀ r ∈ d, r.1.size ≤ 1048576 ∧ r.2.size ≤ 1048576
/-- a name lies behind a slice -/
def DnAt (w : World) (ao : Option Addr) (d : RdnL) : Prop :=
  d = [] ∨ ∃ b off, ao = some ⟨b, off, none⟩ ∧ b < w.heap.size ∧ ∀ i (h : i < d.length), w.cell? ⟨b, off + i * 2, none⟩ = some (.string d[i].1) ∧ w.cell? ⟨b, off + i * 2 + 1, none⟩ = some (.string d[i].2)
theorem DnAt.below {w w' : World} {ao : Option Addr} {d : RdnL} (h : DnAt w ao d) (hb : Below w.heap.size w w') : DnAt w' ao d := by
  rcases h with h | ⟨b, off, h1, h2, h3⟩
  · exact .inl h
  · exact .inr ⟨b, off, h1, Nat.lt_of_lt_of_le h2 hb.size, fun i hi => ⟨(hb.cell (p := ⟨b, off + i * 2, none⟩) h2).trans (h3 i hi).1, (hb.cell (p := ⟨b, off + i * 2 + 1, none⟩) h2).trans (h3 i hi).2⟩⟩
theorem DnAt.at {w : World} {ao : Option Addr} {d : RdnL} (h : DnAt w ao d) {k : Nat} (hk : k < d.length) :
    ∃ b off, ao = some ⟨b, off, none⟩ ∧ b < w.heap.size ∧ w.cell? ⟨b, off + k * 2, none⟩ = some (.string d[k].1) ∧ w.cell? ⟨b, off + k * 2 + 1, none⟩ = some (.string d[k].2) := by
  rcases h with h | ⟨b, off, h1, h2, h3⟩
  · subst h; simp at hk
  · exact ⟨b, off, h1, h2, h3 k hk⟩
theorem Fits.at {d : RdnL} (h : Fits d) {k : Nat} (hk : k < d.length) : d[k].1.size ≤ maxLen ∧ d[k].2.size ≤ maxLen := by
  have := h.2 _ (List.getElem_mem hk); unfold maxLen; omega
theorem all_take {α : Type} (p : α → Bool) (l : List α) (k : Nat) (h : k < l.length) : (l.take (k + 1)).all p = ((l.take k).all p && p l[k]) := by
  rw [List.take_succ_eq_append_getElem h, List.all_append]; simp only [List.all_cons, List.all_nil, Bool.and_true]
theorem all_bad {α : Type} (p : α → Bool) (l : List α) (k : Nat) (h : k < l.length) (hp : p l[k] = false) : l.all p = false := by
  rw [List.all_eq_false]; exact ⟨_, List.getElem_mem h, by simp [hp]⟩
theorem plain_of_norm {s : ByteArray} (h : plainB s.data.toList = false) : (normS s).toList.isEmpty = true := by rw [normS_odd s h, Lib.toList_data]; rfl
end Go.Proofs.Ytohcdpoffpnfhaa
/- DnRight: what the texts of the program and of the specification return. -/
namespace Go.Proofs.Ytohcdpoffpnfhaa
open Go.RowKit

def isValB (s : ByteArray) : Bool := decide (1 ≤ s.size) && decide (s.size ≤ 40) && plainB s.data.toList
theorem val_of {s : ByteArray} : (isValB s && !(normS s).toList.isEmpty) = valB s := by
  unfold isValB valB
  cases h : plainB s.data.toList
  · simp [plain_of_norm h]
  · simp
end Go.Proofs.Ytohcdpoffpnfhaa
/- DnRight: what the texts of the program and of the specification return. -/
namespace Go.Proofs.Ytohcdpoffpnfhaa
open Go.RowKit

theorem bcell {W w1 : World} (hb : Below W.heap.size W w1) : (∀ b o, b < W.heap.size → w1.cell? ⟨b, o, none⟩ = W.cell? ⟨b, o, none⟩) ∧ (∀ b o, b < W.heap.size → w1.frozen? ⟨b, o, none⟩ = W.frozen? ⟨b, o, none⟩) :=
  ⟨fun b o h => hb.cell (p := ⟨b, o, none⟩) h, fun b o h => hb.frozen (p := ⟨b, o, none⟩) h⟩
theorem dnB_long {d : RdnL} (h : ¬ d.length ≤ 6) : dnB d = false := by unfold dnB; simp [h]
theorem dnB_short {d : RdnL} (h : d.length ≤ 6) : dnB d = d.all rdnB := by unfold dnB; simp [h]
theorem dnB_bad {d : RdnL} {k : Nat} (h : k < d.length) (hb : rdnB d[k] = false) : dnB d = false := by unfold dnB; rw [all_bad rdnB d k h hb]; simp
theorem dnB_all {d : RdnL} (h : d.all rdnB = true) : dnB d = decide (d.length ≤ 6) := by unfold dnB; rw [h]; simp
theorem dnB_six {d : RdnL} (h : dnB d = true) : d.length ≤ 6 := by unfold dnB at h; simp at h; exact h.1
end Go.Proofs.Ytohcdpoffpnfhaa
/- Rows of strings and of pairs that a call owns: one more element. -/
namespace Go.Proofs.Ytohcdpoffpnfhaa
open Go.RowKit

theorem Try.info9 : (Try.prog.info? 9).map (fun i => (i.zero, i.size, i.bytes)) = some (some (.string ByteArray.empty), 1, 16) := by kernel_rfl
def ss (l : List ByteArray) : List Value := l.map Value.string
def rs (d : RdnL) : List Value := d.flatMap fun r => [Value.string r.1, Value.string r.2]
theorem ss_snoc (l : List ByteArray) (t : ByteArray) : ss (l ++ [t]) = ss l ++ [.string t] := by simp [ss]
theorem rs_snoc (d : RdnL) (r : ByteArray × ByteArray) : rs (d ++ [r]) = rs d ++ [.string r.1, .string r.2] := by simp [rs]
theorem ss_length (l : List ByteArray) : (ss l).length = l.length := by simp [ss]
theorem rs_length (d : RdnL) : (rs d).length = d.length * 2 := by
  induction d with
  | nil => rfl
  | cons r d ih => simp only [rs, List.flatMap_cons, List.length_append, List.length_cons, List.length_nil] at ih ⊢; omega
theorem rs_get (d : RdnL) (i : Nat) (h : i < d.length) : (rs d)[i * 2]? = some (.string d[i].1) ∧ (rs d)[i * 2 + 1]? = some (.string d[i].2) := by
  induction d generalizing i with
  | nil => simp at h
  | cons r d ih =>
    cases i with
    | zero => simp [rs]
    | succ i =>
      have := ih i (by simpa using h)
      have e : rs (r :: d) = [Value.string r.1, Value.string r.2] ++ rs d := rfl
      rw [e]
      constructor
      · rw [List.getElem?_append_right (by simp; omega)]
        have : (i + 1) * 2 - [Value.string r.1, Value.string r.2].length = i * 2 := by simp; omega
        rw [this]; simpa using (ih i (by simpa using h)).1
      · rw [List.getElem?_append_right (by simp; omega)]
        have : (i + 1) * 2 + 1 - [Value.string r.1, Value.string r.2].length = i * 2 + 1 := by simp; omega
        rw [this]; simpa using (ih i (by simpa using h)).2
theorem own_below {w w' : World} {B e z n : Nat} {v : Value} {xs : List Value} (h : w.ownsRow B e z v n xs) (hb : Below w.heap.size w w') : w'.ownsRow B e z v n xs :=
  h.kept (row := none) ⟨hb.os, hb.tape, hb.output, hb.size, fun k hk _ => hb.block k hk⟩ (by cases v.ownBlock <;> simp)

section
variable {ops : Array Oper} {rest : List Oper} {o : Oper} {a : Act} {Q : Exit → Act → World → Prop} {K : Act → World → Prop} {E : Prop} {w0 wr : World}
theorem append_str (B : Nat) (hgd : o.guard = none) (s x : Operand)
    (ho : o.op = .call { callee := .builtin .append, args := #[s, x], argTypes := #[72, 72] }) (v : Value) (pre : List ByteArray) (hs : a.eval s = v) (hown : wr.ownsRow B 9 1 v pre.length (ss pre))
    (t : ByteArray) (hx : a.eval x = .slice (some ⟨wr.heap.size, 0, none⟩) 1 1) (hlen : pre.length ≤ 1000000000) (hB : B ≤ wr.heap.size) (hbel : Below B w0 wr)
    (h : ∀ v' w', w'.ownsRow B 9 1 v' (pre ++ [t]).length (ss (pre ++ [t])) → Below B w0 w' → B ≤ w'.heap.size → (v'.ownBlock = v.ownBlock ∨ v'.ownBlock = some (wr.heap.size + 1)) → wr.grownBy w' v.ownBlock → wpList Try.prog ops Q rest (a.put o.dst v') w') :
    wpList Try.prog ops Q (o :: rest) a (wr.alloc (.cells #[.string t] 9)) := by
  obtain ⟨i0, hi, hz0, hz1, hz2⟩ := info_parts Try.info9
  refine wpList_append_lies _ hgd s x 72 ho B 9 i0 _ 1 16 Try.underlying72 hi hz0 hz1 hz2 rfl (by decide) v pre.length (ss pre) hs (hown.alloc _) ⟨wr.heap.size, 0, none⟩ 1 1 [.string t] hx rfl (cell_one_new _ _ _) ?_ (by omega) ?_ ?_ ?_ (wr.heap.size + 1) (by simp) ?_
  · intro u hu; simp at hu; subst hu; rfl
  · unfold maxLen; omega
  · omega
  · simp; omega
  · intro g cap w' h1 h2 h3 h4
    have hb' : Below B w0 w' := (hbel.alloc hB _).grown h2 (by simp; omega) (fun k hk => (hown.lt k hk).1)
    refine h _ w' ?_ hb' (Nat.le_trans hB (by have := h2.size; simp at this; omega)) ?_ ((World.grownBy_alloc _ _ _).trans h2)
    · rw [ss_snoc]; simpa using h1
    · rcases h3 with h3 | h3
      · exact .inl h3.symm
      · exact .inr (by rw [h3]; rfl)
theorem step_str (B : Nat) (hgd : o.guard = none) (s x : Operand)
    (ho : o.op = .call { callee := .builtin .append, args := #[s, x], argTypes := #[72, 72] }) (v : Value) (pre : List ByteArray) (hs : a.eval s = v) (hown : wr.ownsRow B 9 1 v pre.length (ss pre))
    (t : ByteArray) (hx : a.eval x = .slice (some ⟨wr.heap.size, 0, none⟩) 1 1) (hlen : pre.length ≤ 1000000000) (hB : B ≤ wr.heap.size) (hbel : Below B w0 wr)
    (h : ∀ g cap w', w'.ownsRow B 9 1 (.slice (some ⟨g, 0, none⟩) (pre.length + 1) cap) (pre ++ [t]).length (ss (pre ++ [t])) → Below B w0 w' → B ≤ w'.heap.size → K (a.put o.dst (.slice (some ⟨g, 0, none⟩) (pre.length + 1) cap)) w') :
    if Region.wanted o (yielded ops a.tmps) = true then Oper.wp Try.prog o a (wr.alloc (.cells #[.string t] 9)) K Q else E := by
  obtain ⟨i0, hi, hz0, hz1, hz2⟩ := info_parts Try.info9
  refine step_append_lies _ hgd s x 72 ho B 9 i0 _ 1 16 Try.underlying72 hi hz0 hz1 hz2 rfl (by decide) v pre.length (ss pre) hs (hown.alloc _) ⟨wr.heap.size, 0, none⟩ 1 1 [.string t] hx rfl (cell_one_new _ _ _) ?_ (by omega) ?_ ?_ ?_ (wr.heap.size + 1) (by simp) ?_
  · intro u hu; simp at hu; subst hu; rfl
  · unfold maxLen; omega
  · omega
  · simp; omega
  · intro g cap w' h1 h2 h3 h4
    have hb' : Below B w0 w' := (hbel.alloc hB _).grown h2 (by simp; omega) (fun k hk => (hown.lt k hk).1)
    refine h g cap w' ?_ hb' (Nat.le_trans hB (by have := h2.size; simp at this; omega))
    rw [ss_snoc]; simpa using h1
end
end Go.Proofs.Ytohcdpoffpnfhaa
/- joinRdns: what the program's text returns. -/
namespace Go.Proofs.Ytohcdpoffpnfhaa
open Go.RowKit
attribute [local go_sem ↓] Go.wp_at_zero Go.wp_at_succ

theorem more {w0 W : World} (h : Below w0.heap.size w0 W) (o : Obj) : Below w0.heap.size w0 (W.alloc o) := h.alloc h.size o
/-- a copy of a string -/
theorem concat_at (w0 : World) (B : Nat) (a : ByteArray) (w : World) (ha : a.size ≤ 1048576) (hB : B < w.heap.size) (hc : w.cell? ⟨B, 0, none⟩ = some (.string a)) (hb : Below w0.heap.size w0 w) :
    Calls Try.prog 34 #[.slice (some ⟨B, 0, none⟩) 1 1] w fun e w' => e = .returned (.string a) ∧ Below w0.heap.size w0 w' ∧ Below w.heap.size w w' := by
  have := concat_any B 0 1 [a] w (by simp) hB (by simp [joinL]; omega) (fun i hi => by
    match i, hi with
    | 0, _ => exact hc)
  rw [joinS_one] at this
  exact this.mono fun e w' ⟨he, h⟩ => ⟨he, hb.trans (h.mono hb.size), h⟩
theorem wp_world {P : Program} {c : Code} {Q : Exit → Act → World → Prop} {a : Act} {w : World} (R : World → Prop) (h : R w) (k : ∀ W, R W → c.wp P Q a W) : c.wp P Q a w := k w h
theorem keep_two {W w2 : World} {R : Nat} {A V : Value} (hb : Below W.heap.size W w2) (h : W.cell? ⟨R, 0, none⟩ = some A ∧ W.cell? ⟨R, 1, none⟩ = some V) : w2.cell? ⟨R, 0, none⟩ = some A ∧ w2.cell? ⟨R, 1, none⟩ = some V :=
  ⟨(hb.cell (p := ⟨R, 0, none⟩) (World.block_lt_of_cell? _ _ h.1)).trans h.1, (hb.cell (p := ⟨R, 1, none⟩) (World.block_lt_of_cell? _ _ h.2)).trans h.2⟩
theorem keep_far {W w2 : World} {R : Nat} {A V : Value} {row : Option Nat} (hg : W.grownBy w2 row) (hne : row ≠ some R) (h : W.cell? ⟨R, 0, none⟩ = some A ∧ W.cell? ⟨R, 1, none⟩ = some V) : w2.cell? ⟨R, 0, none⟩ = some A ∧ w2.cell? ⟨R, 1, none⟩ = some V :=
  ⟨(hg.cell_far ⟨R, 0, none⟩ (World.block_lt_of_cell? _ _ h.1) (Ne.symm hne)).trans h.1, (hg.cell_far ⟨R, 1, none⟩ (World.block_lt_of_cell? _ _ h.2) (Ne.symm hne)).trans h.2⟩
section
variable {ops : Array Oper} {o : Oper} {a : Act} {Q : Exit → Act → World → Prop} {K : Act → World → Prop} {E : Prop} {w0 wr : World}
end
/-- lists of names, as slices -/
def PartsAt (w : World) (pb po : Nat) (ps : List (Option Addr × Nat × RdnL)) : Prop :=
  pb < w.heap.size ∧ ∀ i (h : i < ps.length), w.cell? ⟨pb, po + i, none⟩ = some (.slice ps[i].1 ps[i].2.2.length ps[i].2.1) ∧ DnAt w ps[i].1 ps[i].2.2 ∧ Fits ps[i].2.2
theorem PartsAt.below {w w' : World} {pb po : Nat} {ps : List (Option Addr × Nat × RdnL)} (h : PartsAt w pb po ps) (hb : Below w.heap.size w w') : PartsAt w' pb po ps :=
  ⟨Nat.lt_of_lt_of_le h.1 hb.size, fun i hi => ⟨(hb.cell (p := ⟨pb, _, none⟩) h.1).trans (h.2 i hi).1, (h.2 i hi).2.1.below hb, (h.2 i hi).2.2⟩⟩
def flat (ps : List (Option Addr × Nat × RdnL)) : RdnL := ps.flatMap (·.2.2)
theorem flat_succ (ps : List (Option Addr × Nat × RdnL)) (k : Nat) (h : k < ps.length) : flat (ps.take (k + 1)) = flat (ps.take k) ++ ps[k].2.2 := by
  unfold flat; rw [List.take_succ_eq_append_getElem h, List.flatMap_append]; simp

theorem flat_len (ps : List (Option Addr × Nat × RdnL)) (h : ∀ p ∈ ps, p.2.2.length ≤ 1048576) : (flat ps).length ≤ ps.length * 1048576 := by
  induction ps with
  | nil => simp [flat]
  | cons p ps ih =>
    have h1 := ih (fun x hx => h x (List.mem_cons_of_mem _ hx))
    have h2 := h p (List.mem_cons_self ..)
    have e : flat (p :: ps) = p.2.2 ++ flat ps := by unfold flat; simp
    rw [e, List.length_append, List.length_cons, Nat.add_mul]; omega
theorem PartsAt.len {w : World} {pb po : Nat} {ps : List (Option Addr × Nat × RdnL)} (h : PartsAt w pb po ps) (hm : ps.length ≤ 10) (k : Nat) : (flat (ps.take k)).length ≤ 100000000 := by
  have := flat_len (ps.take k) (fun p hp => by
    obtain ⟨i, hi, rfl⟩ := List.getElem_of_mem (List.mem_of_mem_take hp)
    exact (h.2 i hi).2.2.1)
  have h2 : (ps.take k).length ≤ 10 := by rw [List.length_take]; omega
  omega
theorem cat (a b : ByteArray) (h : a.size + b.size ≤ 1000000000) (W : World) : (Op.stringOp .add a b).run Try.prog W = .ok (.string (a ++ b)) W := run_string_add_sum W a b (by omega)
theorem sz1 (c : UInt8) : (⟨#[c]⟩ : ByteArray).size = 1 := rfl
end Go.Proofs.Ytohcdpoffpnfhaa
/- Marks as texts; a block's cell set. -/
namespace Go.Proofs.Ytohcdpoffpnfhaa
open Go.RowKit

theorem heap_set {w : World} {q j : Nat} {C : Array Value} {T : TypeId} {fr : Nat × Nat} (v : Value) (h : w.heap[q]? = some (.cells C T fr)) : (w.setCell ⟨q, j, none⟩ v).heap[q]? = some (.cells (C.setIfInBounds j v) T fr) := by
  unfold World.setCell
  simp [Array.getElem?_modify, h]
def toS (l : List UInt8) : ByteArray := ⟨l.toArray⟩
/-- the digits of a number, ahead of others -/
def digs : Nat → Nat → List UInt8 → List UInt8
  | 0, _, o => o
  | f + 1, n, o => if n = 0 then o else digs f (n / 10) (UInt8.ofNat (48 + n % 10) :: o)
def mkL (n : Nat) : List UInt8 := 109 :: digs 20 n []
def mkT (n : Nat) : ByteArray := toS (mkL n)
theorem calls_by {P : Program} {f : Nat} {args : Array Value} {w : World} {Q : Ending → World → Prop} (R : World → Prop) (h : R w) (k : ∀ W, R W → Calls P f args W Q) : Calls P f args w Q := k w h
theorem more' {w0 W : World} (h : Below w0.heap.size w0 W) (o : Obj) : Below w0.heap.size w0 (W.alloc o) := h.alloc h.size o
/-- the cells of a block -/
def Blk (w : World) (g : Nat) (cs : List Value) : Prop := ∃ T : TypeId, w.heap[g]? = some (.cells cs.toArray T (0, 0))
theorem Blk.lt {w : World} {g : Nat} {cs : List Value} (h : Blk w g cs) : g < w.heap.size := by obtain ⟨T, h⟩ := h; exact (Array.getElem?_eq_some_iff.1 h).1
theorem Blk.cell {w : World} {g : Nat} {cs : List Value} (h : Blk w g cs) (j : Nat) {v : Value} (hv : cs[j]? = some v) : w.cell? ⟨g, j, none⟩ = some v := by
  obtain ⟨T, h⟩ := h
  rw [cell_of_row w g _ _ T (0, 0) h, List.getElem?_toArray]; exact hv
theorem Blk.soft {w : World} {g : Nat} {cs : List Value} (h : Blk w g cs) (j : Nat) : w.frozen? ⟨g, j, none⟩ = false := by
  obtain ⟨T, h⟩ := h
  simp [World.frozen?, h]
theorem Blk.below {w w' : World} {g : Nat} {cs : List Value} (h : Blk w g cs) (hb : Below w.heap.size w w') : Blk w' g cs := by
  have := h.lt; obtain ⟨T, h⟩ := h
  exact ⟨T, (hb.block g this).trans h⟩
theorem Blk.new (w : World) (T : TypeId) (cs : List Value) : Blk (w.alloc (.cells cs.toArray T)) w.heap.size cs := ⟨T, heap_alloc_new w _⟩
theorem Blk.alloc {w : World} {g : Nat} {cs : List Value} (h : Blk w g cs) (o : Obj) : Blk (w.alloc o) g cs := h.below (more' (Below.refl _ _) o)
theorem Blk.far {w : World} {g R j : Nat} {cs : List Value} (h : Blk w g cs) (hne : g ≠ R) (v : Value) : Blk (w.setCell ⟨R, j, none⟩ v) g cs := by
  obtain ⟨T, h⟩ := h
  exact ⟨T, (Below.heap_setCell _ _ _ _ hne).trans h⟩
theorem Blk.set {w : World} {g : Nat} {cs : List Value} (h : Blk w g cs) (j : Nat) (v : Value) : Blk (w.setCell ⟨g, j, none⟩ v) g (cs.set j v) := by
  obtain ⟨T, h⟩ := h
  exact ⟨T, by rw [heap_set v h, List.setIfInBounds_toArray]⟩
theorem ret_int {k : IntKind} {a b : Int} (h : a = b) : Ending.returned (.int k a) = .returned (.int k b) := by rw [h]
def leftR (n : Nat) (left : Int) : Int := if (n : Int) ≤ left then left - n else -1
theorem leftR_pos {n : Nat} {left : Int} (h : (n : Int) ≤ left) : leftR n left = left - n := by unfold leftR; rw [if_pos h]
theorem leftR_neg {n : Nat} {left : Int} (h : ¬ (n : Int) ≤ left) : leftR n left = -1 := by unfold leftR; rw [if_neg h]
theorem blk_at (w : World) (T : TypeId) (cs : List Value) {g : Nat} (h : g = w.heap.size) : Blk (w.alloc (.cells cs.toArray T)) g cs := by subst h; exact Blk.new w T cs
theorem setCell_size (w : World) (p : Addr) (v : Value) : (w.setCell p v).heap.size = w.heap.size := by simp [World.setCell]
theorem calls_int {P : Program} {f : Nat} {v : Value} {k : IntKind} {a b : Int} {w : World} {Q : Ending → World → Prop} (h : Calls P f #[v, .int k a] w Q) (e : a = b) : Calls P f #[v, .int k b] w Q := e ▸ h
end Go.Proofs.Ytohcdpoffpnfhaa
/- BER: reading a length: what the program returns. -/
namespace Go.Proofs.Ytohcdpoffpnfhaa
open Go.RowKit
attribute [local go_sem ↓] Go.wp_at_zero Go.wp_at_succ

def lenAgg (r : Int × Nat × Nat) : Ending := .returned (.agg #[.int .i64 (r.2.1 : Int), .int .i64 (r.2.2 : Int), .int .i64 r.1])
set_option maxRecDepth 100000 in
set_option maxHeartbeats 2000000 in
theorem getLen_end (t : ByteArray) (k : Nat) (w : World) (ht : t.size ≤ 8000) (hk : k ≤ 8001) (h : ¬ k < t.size) :
    Calls Try.prog 37 #[.string t, .int .i64 (k : Int)] w fun e w' => e = lenAgg (lenR t k) ∧ Below w.heap.size w w' := by
  have HR := Lib.hid (lenR_end h)
  have h' : (t.size : Int) ≤ (k : Int) := by omega
  clear h
  go_enter Try.func37, Try.ntmps37
  go_wp2
  exact bodyPost_ret (v := .agg #[.int .i64 0, .int .i64 0, .int .i64 4]) (by simp [results, Try.results37, go_sem]) rfl ⟨by first | (rw [HR.out]; done) | (rw [HR.out]; rfl), more' (Below.refl _ _) _⟩
set_option maxRecDepth 100000 in
set_option maxHeartbeats 2000000 in
theorem getLen_1 (t : ByteArray) (k : Nat) (w : World) (ht : t.size ≤ 8000) (hk : k ≤ 8001) (h : k < t.size) (h1 : t[k].toNat < 128) :
    Calls Try.prog 37 #[.string t, .int .i64 (k : Int)] w fun e w' => e = lenAgg (lenR t k) ∧ Below w.heap.size w w' := by
  have HR := Lib.hid (lenR_1 h h1)
  have HC := cmp_1 t k h h1
  have g0 : (k : Int) < (t.size : Int) := by omega
  have c1 := t[k].toNat_lt
  have g1 : ((t[k].toNat : Int) == 128) = false := by rw [beq_eq_false_iff_ne]; omega
  have g3 : decide ((4000 : Int) < (t[k].toNat : Int)) = false := decide_eq_false (by omega)
  have s1 : (0 : Int) ≤ (k : Int) + 1 := by omega
  have s2 : (k : Int) ≤ (k : Int) + 1 := by omega
  have s3 : (k : Int) + 1 ≤ (t.size : Int) := by omega
  have s4 : ((k : Int) + 1).toNat = k + 1 := by omega
  have CL := Lib.hid (fun W => lengthBytes_any t[k].toNat W (by omega))
  go_enter Try.func37, Try.ntmps37
  go_wp2_with fail
  refine wp_world (fun W => Below w.heap.size w W ∧ Blk W w.heap.size [.int .i64 0, .int .i64 0, .int .i64 0]) ⟨more' (Below.refl _ _) _, Blk.new _ _ _⟩ ?_
  rintro W1 ⟨b1, t1⟩
  have T1 := Lib.hid t1; clear t1
  have SK : Hid (∀ Z' : World, Below W1.heap.size W1 Z' → Below W1.heap.size W1 Z') := Lib.hid (fun Z' h => h)
  have BD : Below W1.heap.size W1 W1.drew := (Below.refl _ _).drew
  refine wp_region_held_drew (S := (fun Z' => Below W1.heap.size W1 Z')) (by kernel_rfl) ?_ (fun hHeld => ?_)
  · (try dsimp only)
    first | exact SK.out _ (by assumption) | exact SK.out _ BD | exact SK.out _ (more' (by assumption) _) | exact SK.out _ (more' BD _)
  refine wpAnyH_take (i := 0) (oi := { dst := some 55, op := Op.move (Operand.tmp 5), type := 2, pos := "l09_ber.go:80", after := #[], guard := none }) (v := ?_) rfl (by kernel_rfl) (by kernel_rfl) (by kernel_rfl) (fun _ _ _ h => h) (Or.inl ⟨by rfl, ?_⟩) (by assumption) ?_
  rotate_left
  · intro w hSw; (try dsimp only at hSw); go_simp; (try with_reducible rfl)
  (try simp only [Act.put, List.setIfInBounds_toArray, List.set_cons_zero, List.set_cons_succ])
  refine wpAnyH_take (i := 1) (oi := { dst := some 56, op := Op.binOp BinOp.gtr 2 (Operand.tmp 55) (Operand.const (Value.int IntKind.i64 4000)) 2, type := 4, pos := "l09_ber.go:80", after := #[{ on := 0, ground := Ground.data }], guard := none }) (v := ?_) rfl (by kernel_rfl) (by kernel_rfl) (by kernel_rfl) (fun _ _ _ h => h) (Or.inl ⟨by rfl, ?_⟩) (by assumption) ?_
  rotate_left
  · intro w hSw; (try dsimp only at hSw); go_simp; (try with_reducible rfl)
  (try simp only [Act.put, List.setIfInBounds_toArray, List.set_cons_zero, List.set_cons_succ])
  refine wpAnyH_take (i := 2) (oi := { dst := some 57, op := Op.move (Operand.tmp 56), type := 4, pos := "l09_ber.go:80", after := #[{ on := 1, ground := Ground.data }], guard := none }) (v := ?_) rfl (by kernel_rfl) (by kernel_rfl) (by kernel_rfl) (fun _ _ _ h => h) (Or.inl ⟨by rfl, ?_⟩) (by assumption) ?_
  rotate_left
  · intro w hSw; (try dsimp only at hSw); go_simp; (try with_reducible rfl)
  (try simp only [Act.put, List.setIfInBounds_toArray, List.set_cons_zero, List.set_cons_succ])
  refine wpAnyH_take (i := 3) (oi := { dst := some 58, op := Op.move (Operand.tmp 0), type := 9, pos := "l09_ber.go:80", after := #[{ on := 2, ground := Ground.guard }], guard := some (2, false) }) (v := ?_) rfl (by kernel_rfl) (by kernel_rfl) (by kernel_rfl) (fun _ _ _ h => h) (Or.inl ⟨by rfl, ?_⟩) (by assumption) ?_
  rotate_left
  · intro w hSw; (try dsimp only at hSw); go_simp; (try with_reducible rfl)
  (try simp only [Act.put, List.setIfInBounds_toArray, List.set_cons_zero, List.set_cons_succ])
  refine wpAnyH_take (i := 4) (oi := { dst := some 59, op := Op.move (Operand.tmp 1), type := 2, pos := "l09_ber.go:80", after := #[{ on := 2, ground := Ground.guard }], guard := some (2, false) }) (v := ?_) rfl (by kernel_rfl) (by kernel_rfl) (by kernel_rfl) (fun _ _ _ h => h) (Or.inl ⟨by rfl, ?_⟩) (by assumption) ?_
  rotate_left
  · intro w hSw; (try dsimp only at hSw); go_simp; (try with_reducible rfl)
  (try simp only [Act.put, List.setIfInBounds_toArray, List.set_cons_zero, List.set_cons_succ])
  refine wpAnyH_take (i := 5) (oi := { dst := some 60, op := Op.move (Operand.tmp 8), type := 2, pos := "l09_ber.go:80", after := #[{ on := 2, ground := Ground.guard }], guard := some (2, false) }) (v := ?_) rfl (by kernel_rfl) (by kernel_rfl) (by kernel_rfl) (fun _ _ _ h => h) (Or.inl ⟨by rfl, ?_⟩) (by assumption) ?_
  rotate_left
  · intro w hSw; (try dsimp only at hSw); go_simp; (try with_reducible rfl)
  (try simp only [Act.put, List.setIfInBounds_toArray, List.set_cons_zero, List.set_cons_succ])
  refine wpAnyH_take (i := 6) (oi := { dst := some 61, op := Op.slice 9 (Operand.tmp 58) (some (Operand.tmp 59)) (some (Operand.tmp 60)) none, type := 9, pos := "l09_ber.go:80", after := #[{ on := 3, ground := Ground.data }, { on := 4, ground := Ground.data }, { on := 5, ground := Ground.data }, { on := 2, ground := Ground.guard }], guard := some (2, false) }) (v := ?_) rfl (by kernel_rfl) (by kernel_rfl) (by kernel_rfl) (fun _ _ _ h => h) (Or.inl ⟨by rfl, ?_⟩) (by assumption) ?_
  rotate_left
  · intro w hSw; (try dsimp only at hSw); go_simp; (try with_reducible rfl)
  (try simp only [Act.put, List.setIfInBounds_toArray, List.set_cons_zero, List.set_cons_succ])
  refine wpAnyH_take (i := 7) (oi := { dst := some 62, op := Op.move (Operand.tmp 5), type := 2, pos := "l09_ber.go:80", after := #[{ on := 2, ground := Ground.guard }], guard := some (2, false) }) (v := ?_) rfl (by kernel_rfl) (by kernel_rfl) (by kernel_rfl) (fun _ _ _ h => h) (Or.inl ⟨by rfl, ?_⟩) (by assumption) ?_
  rotate_left
  · intro w hSw; (try dsimp only at hSw); go_simp; (try with_reducible rfl)
  (try simp only [Act.put, List.setIfInBounds_toArray, List.set_cons_zero, List.set_cons_succ])
  refine wpAnyH_ready (rs := [8]) (by kernel_rfl) (by simp) ?_
  refine AllReadyH.cons (o := { dst := some 63, op := Op.call { callee := Callee.value (Operand.func 35), args := #[Operand.tmp 62], argTypes := #[2] }, type := 9, pos := "l09_ber.go:80", after := #[{ on := 7, ground := Ground.data }, { on := 2, ground := Ground.chain }, { on := 2, ground := Ground.guard }], guard := some (2, false) }) rfl (fun K hK => ?_) (AllReadyH.nil)
  go_simp
  refine (CL.out _).mono ?_
  rintro e w2 ⟨rfl, hb⟩
  have D2 : Below W1.heap.size W1 w2 := BD.trans (hb.mono BD.size)
  clear hb
  clear hHeld
  refine hK.out _ _ ?_ (fun hHeld => ?_)
  · (try dsimp only)
    first | exact SK.out _ (by assumption) | exact SK.out _ BD | exact SK.out _ (more' (by assumption) _) | exact SK.out _ (more' BD _)
  clear hK K
  (try simp only [Act.put, List.setIfInBounds_toArray, List.set_cons_zero, List.set_cons_succ])
  refine wpAnyH_take (i := 9) (oi := { dst := some 64, op := Op.binOp BinOp.neq 9 (Operand.tmp 61) (Operand.tmp 63) 9, type := 4, pos := "l09_ber.go:80", after := #[{ on := 6, ground := Ground.data }, { on := 8, ground := Ground.data }, { on := 2, ground := Ground.guard }], guard := some (2, false) }) (v := ?_) rfl (by kernel_rfl) (by kernel_rfl) (by kernel_rfl) (fun _ _ _ h => h) (Or.inl ⟨by rfl, ?_⟩) (by assumption) ?_
  rotate_left
  · intro w hSw; (try dsimp only at hSw); go_simp; (try with_reducible rfl)
  (try simp only [Act.put, List.setIfInBounds_toArray, List.set_cons_zero, List.set_cons_succ])
  refine wpAnyH_take (i := 10) (oi := { dst := some 65, op := Op.pick (Operand.tmp 57) (Operand.const (Value.bool true)) (Operand.tmp 64), type := 4, pos := "l09_ber.go:80", after := #[{ on := 2, ground := Ground.data }, { on := 9, ground := Ground.data }], guard := none }) (v := ?_) rfl (by kernel_rfl) (by kernel_rfl) (by kernel_rfl) (fun _ _ _ h => h) (Or.inl ⟨by rfl, ?_⟩) (by assumption) ?_
  rotate_left
  · intro w hSw; (try dsimp only at hSw); go_simp; (try with_reducible rfl)
  (try simp only [Act.put, List.setIfInBounds_toArray, List.set_cons_zero, List.set_cons_succ])
  refine wpAnyH_done (by kernel_rfl) ?_ _
  clear SK
  have B2 := b1.trans (D2.mono b1.size)
  have T2 := Lib.hid (T1.out.below D2)
  clear BD hHeld D2 T1
  have rf0 := T2.out.soft 0; have rz0 := T2.out.cell 0 rfl
  have rf1 := T2.out.soft 1; have rz1 := T2.out.cell 1 rfl
  have rf2 := T2.out.soft 2; have rz2 := T2.out.cell 2 rfl
  have TE := (((T2.out.set 0 (.int .i64 (t[k].toNat : Int))).set 1 (.int .i64 ((k : Int) + 1))).set 2 (.int .i64 0))
  have rj0 := TE.cell 0 rfl
  have rj1 := TE.cell 1 rfl
  have rj2 := TE.cell 2 rfl
  clear TE
  have BE := Lib.hid (((B2.setCell (p := ⟨w.heap.size, 0, none⟩) (by show w.heap.size ≤ w.heap.size; omega) (.int .i64 (t[k].toNat : Int))).setCell (p := ⟨w.heap.size, 1, none⟩) (by show w.heap.size ≤ w.heap.size; omega) (.int .i64 ((k : Int) + 1))).setCell (p := ⟨w.heap.size, 2, none⟩) (by show w.heap.size ≤ w.heap.size; omega) (.int .i64 0))
  go_wp2
  refine bodyPost_ret (v := .agg #[.int .i64 (t[k].toNat : Int), .int .i64 ((k : Int) + 1), .int .i64 0]) (by simp [results, Try.results37, go_sem, rj0, rj1, rj2]) rfl ?_
  exact ⟨by first | (rw [HR.out]; done) | (rw [HR.out]; rfl), BE.out⟩
set_option maxRecDepth 100000 in
set_option maxHeartbeats 2000000 in
theorem getLen_2bad (t : ByteArray) (k : Nat) (w : World) (ht : t.size ≤ 8000) (hk : k ≤ 8001) (h : k < t.size) (h1 : t[k].toNat = 129) (h2 : k + 1 < t.size) (h3 : t[k + 1].toNat < 128) :
    Calls Try.prog 37 #[.string t, .int .i64 (k : Int)] w fun e w' => e = lenAgg (lenR t k) ∧ Below w.heap.size w w' := by
  have HR := Lib.hid (lenR_2bad h h1 h2 h3)
  have HC := cmp_2bad t k h2 h3
  have g0 : (k : Int) < (t.size : Int) := by omega
  have c1 := t[k].toNat_lt
  have c2 := t[k + 1].toNat_lt
  have v0 : (t[k].toNat : Int) = 129 := by omega
  have g4 : (k : Int) + 1 < (t.size : Int) := by omega
  have g5 : (k : Int) + 2 ≤ (t.size : Int) := by omega
  have g3 : decide ((4000 : Int) < (t[k + 1].toNat : Int)) = false := decide_eq_false (by omega)
  have s1 : (0 : Int) ≤ (k : Int) + 1 + 1 := by omega
  have s2 : (k : Int) ≤ (k : Int) + 1 + 1 := by omega
  have s3 : (k : Int) + 1 + 1 ≤ (t.size : Int) := by omega
  have s4 : ((k : Int) + 1 + 1).toNat = k + 2 := by omega
  clear h1
  have CL := Lib.hid (fun W => lengthBytes_any t[k + 1].toNat W (by omega))
  go_enter Try.func37, Try.ntmps37
  go_wp2_with fail
  refine wp_world (fun W => Below w.heap.size w W ∧ Blk W w.heap.size [.int .i64 0, .int .i64 0, .int .i64 0]) ⟨more' (Below.refl _ _) _, Blk.new _ _ _⟩ ?_
  rintro W1 ⟨b1, t1⟩
  have T1 := Lib.hid t1; clear t1
  have SK : Hid (∀ Z' : World, Below W1.heap.size W1 Z' → Below W1.heap.size W1 Z') := Lib.hid (fun Z' h => h)
  have BD : Below W1.heap.size W1 W1.drew := (Below.refl _ _).drew
  refine wp_region_held_drew (S := (fun Z' => Below W1.heap.size W1 Z')) (by kernel_rfl) ?_ (fun hHeld => ?_)
  · (try dsimp only)
    first | exact SK.out _ (by assumption) | exact SK.out _ BD | exact SK.out _ (more' (by assumption) _) | exact SK.out _ (more' BD _)
  refine wpAnyH_take (i := 0) (oi := { dst := some 55, op := Op.move (Operand.tmp 5), type := 2, pos := "l09_ber.go:80", after := #[], guard := none }) (v := ?_) rfl (by kernel_rfl) (by kernel_rfl) (by kernel_rfl) (fun _ _ _ h => h) (Or.inl ⟨by rfl, ?_⟩) (by assumption) ?_
  rotate_left
  · intro w hSw; (try dsimp only at hSw); go_simp; (try with_reducible rfl)
  (try simp only [Act.put, List.setIfInBounds_toArray, List.set_cons_zero, List.set_cons_succ])
  refine wpAnyH_take (i := 1) (oi := { dst := some 56, op := Op.binOp BinOp.gtr 2 (Operand.tmp 55) (Operand.const (Value.int IntKind.i64 4000)) 2, type := 4, pos := "l09_ber.go:80", after := #[{ on := 0, ground := Ground.data }], guard := none }) (v := ?_) rfl (by kernel_rfl) (by kernel_rfl) (by kernel_rfl) (fun _ _ _ h => h) (Or.inl ⟨by rfl, ?_⟩) (by assumption) ?_
  rotate_left
  · intro w hSw; (try dsimp only at hSw); go_simp; (try with_reducible rfl)
  (try simp only [Act.put, List.setIfInBounds_toArray, List.set_cons_zero, List.set_cons_succ])
  refine wpAnyH_take (i := 2) (oi := { dst := some 57, op := Op.move (Operand.tmp 56), type := 4, pos := "l09_ber.go:80", after := #[{ on := 1, ground := Ground.data }], guard := none }) (v := ?_) rfl (by kernel_rfl) (by kernel_rfl) (by kernel_rfl) (fun _ _ _ h => h) (Or.inl ⟨by rfl, ?_⟩) (by assumption) ?_
  rotate_left
  · intro w hSw; (try dsimp only at hSw); go_simp; (try with_reducible rfl)
  (try simp only [Act.put, List.setIfInBounds_toArray, List.set_cons_zero, List.set_cons_succ])
  refine wpAnyH_take (i := 3) (oi := { dst := some 58, op := Op.move (Operand.tmp 0), type := 9, pos := "l09_ber.go:80", after := #[{ on := 2, ground := Ground.guard }], guard := some (2, false) }) (v := ?_) rfl (by kernel_rfl) (by kernel_rfl) (by kernel_rfl) (fun _ _ _ h => h) (Or.inl ⟨by rfl, ?_⟩) (by assumption) ?_
  rotate_left
  · intro w hSw; (try dsimp only at hSw); go_simp; (try with_reducible rfl)
  (try simp only [Act.put, List.setIfInBounds_toArray, List.set_cons_zero, List.set_cons_succ])
  refine wpAnyH_take (i := 4) (oi := { dst := some 59, op := Op.move (Operand.tmp 1), type := 2, pos := "l09_ber.go:80", after := #[{ on := 2, ground := Ground.guard }], guard := some (2, false) }) (v := ?_) rfl (by kernel_rfl) (by kernel_rfl) (by kernel_rfl) (fun _ _ _ h => h) (Or.inl ⟨by rfl, ?_⟩) (by assumption) ?_
  rotate_left
  · intro w hSw; (try dsimp only at hSw); go_simp; (try with_reducible rfl)
  (try simp only [Act.put, List.setIfInBounds_toArray, List.set_cons_zero, List.set_cons_succ])
  refine wpAnyH_take (i := 5) (oi := { dst := some 60, op := Op.move (Operand.tmp 8), type := 2, pos := "l09_ber.go:80", after := #[{ on := 2, ground := Ground.guard }], guard := some (2, false) }) (v := ?_) rfl (by kernel_rfl) (by kernel_rfl) (by kernel_rfl) (fun _ _ _ h => h) (Or.inl ⟨by rfl, ?_⟩) (by assumption) ?_
  rotate_left
  · intro w hSw; (try dsimp only at hSw); go_simp; (try with_reducible rfl)
  (try simp only [Act.put, List.setIfInBounds_toArray, List.set_cons_zero, List.set_cons_succ])
  refine wpAnyH_take (i := 6) (oi := { dst := some 61, op := Op.slice 9 (Operand.tmp 58) (some (Operand.tmp 59)) (some (Operand.tmp 60)) none, type := 9, pos := "l09_ber.go:80", after := #[{ on := 3, ground := Ground.data }, { on := 4, ground := Ground.data }, { on := 5, ground := Ground.data }, { on := 2, ground := Ground.guard }], guard := some (2, false) }) (v := ?_) rfl (by kernel_rfl) (by kernel_rfl) (by kernel_rfl) (fun _ _ _ h => h) (Or.inl ⟨by rfl, ?_⟩) (by assumption) ?_
  rotate_left
  · intro w hSw; (try dsimp only at hSw); go_simp; (try with_reducible rfl)
  (try simp only [Act.put, List.setIfInBounds_toArray, List.set_cons_zero, List.set_cons_succ])
  refine wpAnyH_take (i := 7) (oi := { dst := some 62, op := Op.move (Operand.tmp 5), type := 2, pos := "l09_ber.go:80", after := #[{ on := 2, ground := Ground.guard }], guard := some (2, false) }) (v := ?_) rfl (by kernel_rfl) (by kernel_rfl) (by kernel_rfl) (fun _ _ _ h => h) (Or.inl ⟨by rfl, ?_⟩) (by assumption) ?_
  rotate_left
  · intro w hSw; (try dsimp only at hSw); go_simp; (try with_reducible rfl)
  (try simp only [Act.put, List.setIfInBounds_toArray, List.set_cons_zero, List.set_cons_succ])
  refine wpAnyH_ready (rs := [8]) (by kernel_rfl) (by simp) ?_
  refine AllReadyH.cons (o := { dst := some 63, op := Op.call { callee := Callee.value (Operand.func 35), args := #[Operand.tmp 62], argTypes := #[2] }, type := 9, pos := "l09_ber.go:80", after := #[{ on := 7, ground := Ground.data }, { on := 2, ground := Ground.chain }, { on := 2, ground := Ground.guard }], guard := some (2, false) }) rfl (fun K hK => ?_) (AllReadyH.nil)
  go_simp
  refine (CL.out _).mono ?_
  rintro e w2 ⟨rfl, hb⟩
  have D2 : Below W1.heap.size W1 w2 := BD.trans (hb.mono BD.size)
  clear hb
  clear hHeld
  refine hK.out _ _ ?_ (fun hHeld => ?_)
  · (try dsimp only)
    first | exact SK.out _ (by assumption) | exact SK.out _ BD | exact SK.out _ (more' (by assumption) _) | exact SK.out _ (more' BD _)
  clear hK K
  (try simp only [Act.put, List.setIfInBounds_toArray, List.set_cons_zero, List.set_cons_succ])
  refine wpAnyH_take (i := 9) (oi := { dst := some 64, op := Op.binOp BinOp.neq 9 (Operand.tmp 61) (Operand.tmp 63) 9, type := 4, pos := "l09_ber.go:80", after := #[{ on := 6, ground := Ground.data }, { on := 8, ground := Ground.data }, { on := 2, ground := Ground.guard }], guard := some (2, false) }) (v := ?_) rfl (by kernel_rfl) (by kernel_rfl) (by kernel_rfl) (fun _ _ _ h => h) (Or.inl ⟨by rfl, ?_⟩) (by assumption) ?_
  rotate_left
  · intro w hSw; (try dsimp only at hSw); go_simp; (try with_reducible rfl)
  (try simp only [Act.put, List.setIfInBounds_toArray, List.set_cons_zero, List.set_cons_succ])
  refine wpAnyH_take (i := 10) (oi := { dst := some 65, op := Op.pick (Operand.tmp 57) (Operand.const (Value.bool true)) (Operand.tmp 64), type := 4, pos := "l09_ber.go:80", after := #[{ on := 2, ground := Ground.data }, { on := 9, ground := Ground.data }], guard := none }) (v := ?_) rfl (by kernel_rfl) (by kernel_rfl) (by kernel_rfl) (fun _ _ _ h => h) (Or.inl ⟨by rfl, ?_⟩) (by assumption) ?_
  rotate_left
  · intro w hSw; (try dsimp only at hSw); go_simp; (try with_reducible rfl)
  (try simp only [Act.put, List.setIfInBounds_toArray, List.set_cons_zero, List.set_cons_succ])
  refine wpAnyH_done (by kernel_rfl) ?_ _
  clear SK
  have B2 := b1.trans (D2.mono b1.size)
  have T2 := Lib.hid (T1.out.below D2)
  clear BD hHeld D2 T1
  have rf0 := T2.out.soft 0; have rz0 := T2.out.cell 0 rfl
  have rf1 := T2.out.soft 1; have rz1 := T2.out.cell 1 rfl
  have rf2 := T2.out.soft 2; have rz2 := T2.out.cell 2 rfl
  have TE := (((T2.out.set 0 (.int .i64 0)).set 1 (.int .i64 0)).set 2 (.int .i64 3))
  have rj0 := TE.cell 0 rfl
  have rj1 := TE.cell 1 rfl
  have rj2 := TE.cell 2 rfl
  clear TE
  have BE := Lib.hid (((B2.setCell (p := ⟨w.heap.size, 0, none⟩) (by show w.heap.size ≤ w.heap.size; omega) (.int .i64 0)).setCell (p := ⟨w.heap.size, 1, none⟩) (by show w.heap.size ≤ w.heap.size; omega) (.int .i64 0)).setCell (p := ⟨w.heap.size, 2, none⟩) (by show w.heap.size ≤ w.heap.size; omega) (.int .i64 3))
  go_wp2
  refine bodyPost_ret (v := .agg #[.int .i64 0, .int .i64 0, .int .i64 3]) (by simp [results, Try.results37, go_sem, rj0, rj1, rj2]) rfl ?_
  exact ⟨by first | (rw [HR.out]; done) | (rw [HR.out]; rfl), BE.out⟩
set_option maxRecDepth 100000 in
set_option maxHeartbeats 2000000 in
theorem getLen_2ok (t : ByteArray) (k : Nat) (w : World) (ht : t.size ≤ 8000) (hk : k ≤ 8001) (h : k < t.size) (h1 : t[k].toNat = 129) (h2 : k + 1 < t.size) (h3 : ¬ t[k + 1].toNat < 128) :
    Calls Try.prog 37 #[.string t, .int .i64 (k : Int)] w fun e w' => e = lenAgg (lenR t k) ∧ Below w.heap.size w w' := by
  have HR := Lib.hid (lenR_2ok h h1 h2 h3)
  have HC := cmp_2 t k h2 h1 h3
  have g0 : (k : Int) < (t.size : Int) := by omega
  have c1 := t[k].toNat_lt
  have c2 := t[k + 1].toNat_lt
  have v0 : (t[k].toNat : Int) = 129 := by omega
  have g4 : (k : Int) + 1 < (t.size : Int) := by omega
  have g5 : (k : Int) + 2 ≤ (t.size : Int) := by omega
  have g3 : decide ((4000 : Int) < (t[k + 1].toNat : Int)) = false := decide_eq_false (by omega)
  have s1 : (0 : Int) ≤ (k : Int) + 1 + 1 := by omega
  have s2 : (k : Int) ≤ (k : Int) + 1 + 1 := by omega
  have s3 : (k : Int) + 1 + 1 ≤ (t.size : Int) := by omega
  have s4 : ((k : Int) + 1 + 1).toNat = k + 2 := by omega
  clear h1
  have CL := Lib.hid (fun W => lengthBytes_any t[k + 1].toNat W (by omega))
  go_enter Try.func37, Try.ntmps37
  go_wp2_with fail
  refine wp_world (fun W => Below w.heap.size w W ∧ Blk W w.heap.size [.int .i64 0, .int .i64 0, .int .i64 0]) ⟨more' (Below.refl _ _) _, Blk.new _ _ _⟩ ?_
  rintro W1 ⟨b1, t1⟩
  have T1 := Lib.hid t1; clear t1
  have SK : Hid (∀ Z' : World, Below W1.heap.size W1 Z' → Below W1.heap.size W1 Z') := Lib.hid (fun Z' h => h)
  have BD : Below W1.heap.size W1 W1.drew := (Below.refl _ _).drew
  refine wp_region_held_drew (S := (fun Z' => Below W1.heap.size W1 Z')) (by kernel_rfl) ?_ (fun hHeld => ?_)
  · (try dsimp only)
    first | exact SK.out _ (by assumption) | exact SK.out _ BD | exact SK.out _ (more' (by assumption) _) | exact SK.out _ (more' BD _)
  refine wpAnyH_take (i := 0) (oi := { dst := some 55, op := Op.move (Operand.tmp 5), type := 2, pos := "l09_ber.go:80", after := #[], guard := none }) (v := ?_) rfl (by kernel_rfl) (by kernel_rfl) (by kernel_rfl) (fun _ _ _ h => h) (Or.inl ⟨by rfl, ?_⟩) (by assumption) ?_
  rotate_left
  · intro w hSw; (try dsimp only at hSw); go_simp; (try with_reducible rfl)
  (try simp only [Act.put, List.setIfInBounds_toArray, List.set_cons_zero, List.set_cons_succ])
  refine wpAnyH_take (i := 1) (oi := { dst := some 56, op := Op.binOp BinOp.gtr 2 (Operand.tmp 55) (Operand.const (Value.int IntKind.i64 4000)) 2, type := 4, pos := "l09_ber.go:80", after := #[{ on := 0, ground := Ground.data }], guard := none }) (v := ?_) rfl (by kernel_rfl) (by kernel_rfl) (by kernel_rfl) (fun _ _ _ h => h) (Or.inl ⟨by rfl, ?_⟩) (by assumption) ?_
  rotate_left
  · intro w hSw; (try dsimp only at hSw); go_simp; (try with_reducible rfl)
  (try simp only [Act.put, List.setIfInBounds_toArray, List.set_cons_zero, List.set_cons_succ])
  refine wpAnyH_take (i := 2) (oi := { dst := some 57, op := Op.move (Operand.tmp 56), type := 4, pos := "l09_ber.go:80", after := #[{ on := 1, ground := Ground.data }], guard := none }) (v := ?_) rfl (by kernel_rfl) (by kernel_rfl) (by kernel_rfl) (fun _ _ _ h => h) (Or.inl ⟨by rfl, ?_⟩) (by assumption) ?_
  rotate_left
  · intro w hSw; (try dsimp only at hSw); go_simp; (try with_reducible rfl)
  (try simp only [Act.put, List.setIfInBounds_toArray, List.set_cons_zero, List.set_cons_succ])
  refine wpAnyH_take (i := 3) (oi := { dst := some 58, op := Op.move (Operand.tmp 0), type := 9, pos := "l09_ber.go:80", after := #[{ on := 2, ground := Ground.guard }], guard := some (2, false) }) (v := ?_) rfl (by kernel_rfl) (by kernel_rfl) (by kernel_rfl) (fun _ _ _ h => h) (Or.inl ⟨by rfl, ?_⟩) (by assumption) ?_
  rotate_left
  · intro w hSw; (try dsimp only at hSw); go_simp; (try with_reducible rfl)
  (try simp only [Act.put, List.setIfInBounds_toArray, List.set_cons_zero, List.set_cons_succ])
  refine wpAnyH_take (i := 4) (oi := { dst := some 59, op := Op.move (Operand.tmp 1), type := 2, pos := "l09_ber.go:80", after := #[{ on := 2, ground := Ground.guard }], guard := some (2, false) }) (v := ?_) rfl (by kernel_rfl) (by kernel_rfl) (by kernel_rfl) (fun _ _ _ h => h) (Or.inl ⟨by rfl, ?_⟩) (by assumption) ?_
  rotate_left
  · intro w hSw; (try dsimp only at hSw); go_simp; (try with_reducible rfl)
  (try simp only [Act.put, List.setIfInBounds_toArray, List.set_cons_zero, List.set_cons_succ])
  refine wpAnyH_take (i := 5) (oi := { dst := some 60, op := Op.move (Operand.tmp 8), type := 2, pos := "l09_ber.go:80", after := #[{ on := 2, ground := Ground.guard }], guard := some (2, false) }) (v := ?_) rfl (by kernel_rfl) (by kernel_rfl) (by kernel_rfl) (fun _ _ _ h => h) (Or.inl ⟨by rfl, ?_⟩) (by assumption) ?_
  rotate_left
  · intro w hSw; (try dsimp only at hSw); go_simp; (try with_reducible rfl)
  (try simp only [Act.put, List.setIfInBounds_toArray, List.set_cons_zero, List.set_cons_succ])
  refine wpAnyH_take (i := 6) (oi := { dst := some 61, op := Op.slice 9 (Operand.tmp 58) (some (Operand.tmp 59)) (some (Operand.tmp 60)) none, type := 9, pos := "l09_ber.go:80", after := #[{ on := 3, ground := Ground.data }, { on := 4, ground := Ground.data }, { on := 5, ground := Ground.data }, { on := 2, ground := Ground.guard }], guard := some (2, false) }) (v := ?_) rfl (by kernel_rfl) (by kernel_rfl) (by kernel_rfl) (fun _ _ _ h => h) (Or.inl ⟨by rfl, ?_⟩) (by assumption) ?_
  rotate_left
  · intro w hSw; (try dsimp only at hSw); go_simp; (try with_reducible rfl)
  (try simp only [Act.put, List.setIfInBounds_toArray, List.set_cons_zero, List.set_cons_succ])
  refine wpAnyH_take (i := 7) (oi := { dst := some 62, op := Op.move (Operand.tmp 5), type := 2, pos := "l09_ber.go:80", after := #[{ on := 2, ground := Ground.guard }], guard := some (2, false) }) (v := ?_) rfl (by kernel_rfl) (by kernel_rfl) (by kernel_rfl) (fun _ _ _ h => h) (Or.inl ⟨by rfl, ?_⟩) (by assumption) ?_
  rotate_left
  · intro w hSw; (try dsimp only at hSw); go_simp; (try with_reducible rfl)
  (try simp only [Act.put, List.setIfInBounds_toArray, List.set_cons_zero, List.set_cons_succ])
  refine wpAnyH_ready (rs := [8]) (by kernel_rfl) (by simp) ?_
  refine AllReadyH.cons (o := { dst := some 63, op := Op.call { callee := Callee.value (Operand.func 35), args := #[Operand.tmp 62], argTypes := #[2] }, type := 9, pos := "l09_ber.go:80", after := #[{ on := 7, ground := Ground.data }, { on := 2, ground := Ground.chain }, { on := 2, ground := Ground.guard }], guard := some (2, false) }) rfl (fun K hK => ?_) (AllReadyH.nil)
  go_simp
  refine (CL.out _).mono ?_
  rintro e w2 ⟨rfl, hb⟩
  have D2 : Below W1.heap.size W1 w2 := BD.trans (hb.mono BD.size)
  clear hb
  clear hHeld
  refine hK.out _ _ ?_ (fun hHeld => ?_)
  · (try dsimp only)
    first | exact SK.out _ (by assumption) | exact SK.out _ BD | exact SK.out _ (more' (by assumption) _) | exact SK.out _ (more' BD _)
  clear hK K
  (try simp only [Act.put, List.setIfInBounds_toArray, List.set_cons_zero, List.set_cons_succ])
  refine wpAnyH_take (i := 9) (oi := { dst := some 64, op := Op.binOp BinOp.neq 9 (Operand.tmp 61) (Operand.tmp 63) 9, type := 4, pos := "l09_ber.go:80", after := #[{ on := 6, ground := Ground.data }, { on := 8, ground := Ground.data }, { on := 2, ground := Ground.guard }], guard := some (2, false) }) (v := ?_) rfl (by kernel_rfl) (by kernel_rfl) (by kernel_rfl) (fun _ _ _ h => h) (Or.inl ⟨by rfl, ?_⟩) (by assumption) ?_
  rotate_left
  · intro w hSw; (try dsimp only at hSw); go_simp; (try with_reducible rfl)
  (try simp only [Act.put, List.setIfInBounds_toArray, List.set_cons_zero, List.set_cons_succ])
  refine wpAnyH_take (i := 10) (oi := { dst := some 65, op := Op.pick (Operand.tmp 57) (Operand.const (Value.bool true)) (Operand.tmp 64), type := 4, pos := "l09_ber.go:80", after := #[{ on := 2, ground := Ground.data }, { on := 9, ground := Ground.data }], guard := none }) (v := ?_) rfl (by kernel_rfl) (by kernel_rfl) (by kernel_rfl) (fun _ _ _ h => h) (Or.inl ⟨by rfl, ?_⟩) (by assumption) ?_
  rotate_left
  · intro w hSw; (try dsimp only at hSw); go_simp; (try with_reducible rfl)
  (try simp only [Act.put, List.setIfInBounds_toArray, List.set_cons_zero, List.set_cons_succ])
  refine wpAnyH_done (by kernel_rfl) ?_ _
  clear SK
  have B2 := b1.trans (D2.mono b1.size)
  have T2 := Lib.hid (T1.out.below D2)
  clear BD hHeld D2 T1
  have rf0 := T2.out.soft 0; have rz0 := T2.out.cell 0 rfl
  have rf1 := T2.out.soft 1; have rz1 := T2.out.cell 1 rfl
  have rf2 := T2.out.soft 2; have rz2 := T2.out.cell 2 rfl
  have TE := (((T2.out.set 0 (.int .i64 (t[k + 1].toNat : Int))).set 1 (.int .i64 ((k : Int) + 1 + 1))).set 2 (.int .i64 0))
  have rj0 := TE.cell 0 rfl
  have rj1 := TE.cell 1 rfl
  have rj2 := TE.cell 2 rfl
  clear TE
  have BE := Lib.hid (((B2.setCell (p := ⟨w.heap.size, 0, none⟩) (by show w.heap.size ≤ w.heap.size; omega) (.int .i64 (t[k + 1].toNat : Int))).setCell (p := ⟨w.heap.size, 1, none⟩) (by show w.heap.size ≤ w.heap.size; omega) (.int .i64 ((k : Int) + 1 + 1))).setCell (p := ⟨w.heap.size, 2, none⟩) (by show w.heap.size ≤ w.heap.size; omega) (.int .i64 0))
  go_wp2
  refine bodyPost_ret (v := .agg #[.int .i64 (t[k + 1].toNat : Int), .int .i64 ((k : Int) + 1 + 1), .int .i64 0]) (by simp [results, Try.results37, go_sem, rj0, rj1, rj2]) rfl ?_
  exact ⟨by first | (rw [HR.out]; done) | (rw [HR.out]; rfl), BE.out⟩
set_option maxRecDepth 100000 in
set_option maxHeartbeats 2000000 in
theorem getLen_2short (t : ByteArray) (k : Nat) (w : World) (ht : t.size ≤ 8000) (hk : k ≤ 8001) (h : k < t.size) (h1 : t[k].toNat = 129) (h2 : ¬ k + 1 < t.size) :
    Calls Try.prog 37 #[.string t, .int .i64 (k : Int)] w fun e w' => e = lenAgg (lenR t k) ∧ Below w.heap.size w w' := by
  have HR := Lib.hid (lenR_2short h h1 h2)
  have g0 : (k : Int) < (t.size : Int) := by omega
  have c1 := t[k].toNat_lt
  have v0 : (t[k].toNat : Int) = 129 := by omega
  have g5 : (t.size : Int) < (k : Int) + 2 := by omega
  clear h1
  go_enter Try.func37, Try.ntmps37
  go_wp2
  exact bodyPost_ret (v := .agg #[.int .i64 0, .int .i64 0, .int .i64 4]) (by simp [results, Try.results37, go_sem]) rfl ⟨by first | (rw [HR.out]; done) | (rw [HR.out]; rfl), more' (Below.refl _ _) _⟩
set_option maxRecDepth 100000 in
set_option maxHeartbeats 2000000 in
theorem getLen_3big (t : ByteArray) (k : Nat) (w : World) (ht : t.size ≤ 8000) (hk : k ≤ 8001) (h : k < t.size) (h1 : t[k].toNat = 130) (h2 : k + 2 < t.size) (h3 : 4000 < t[k + 1].toNat * 256 + t[k + 2].toNat) :
    Calls Try.prog 37 #[.string t, .int .i64 (k : Int)] w fun e w' => e = lenAgg (lenR t k) ∧ Below w.heap.size w w' := by
  have HR := Lib.hid (lenR_3bad h h1 h2 (.inr h3))
  have g0 : (k : Int) < (t.size : Int) := by omega
  have c1 := t[k].toNat_lt
  have c2 := t[k + 1].toNat_lt
  have c3 := t[k + 2].toNat_lt
  have v0 : (t[k].toNat : Int) = 130 := by omega
  have g4 : (k : Int) + 1 < (t.size : Int) := by omega
  have g5 : (k : Int) + 2 < (t.size : Int) := by omega
  have g6 : (k : Int) + 3 ≤ (t.size : Int) := by omega
  have vn : (t[k + 1].toNat : Int) * 256 + (t[k + 2].toNat : Int) = ((t[k + 1].toNat * 256 + t[k + 2].toNat : Nat) : Int) := by omega
  generalize t[k + 1].toNat * 256 + t[k + 2].toNat = q at *
  have h5' : decide ((4000 : Int) < (q : Int)) = true := decide_eq_true (by omega)
  clear h1
  go_enter Try.func37, Try.ntmps37
  go_wp2_with fail
  refine wp_world (fun W => Below w.heap.size w W ∧ Blk W w.heap.size [.int .i64 0, .int .i64 0, .int .i64 0]) ⟨more' (Below.refl _ _) _, Blk.new _ _ _⟩ ?_
  rintro W1 ⟨b1, t1⟩
  have T1 := Lib.hid t1; clear t1
  have SK : Hid (∀ Z' : World, Below W1.heap.size W1 Z' → Below W1.heap.size W1 Z') := Lib.hid (fun Z' h => h)
  have BD : Below W1.heap.size W1 W1.drew := (Below.refl _ _).drew
  refine wp_region_held_drew (S := (fun Z' => Below W1.heap.size W1 Z')) (by kernel_rfl) ?_ (fun hHeld => ?_)
  · (try dsimp only)
    first | exact SK.out _ (by assumption) | exact SK.out _ BD | exact SK.out _ (more' (by assumption) _) | exact SK.out _ (more' BD _)
  refine wpAnyH_take (i := 0) (oi := { dst := some 55, op := Op.move (Operand.tmp 5), type := 2, pos := "l09_ber.go:80", after := #[], guard := none }) (v := ?_) rfl (by kernel_rfl) (by kernel_rfl) (by kernel_rfl) (fun _ _ _ h => h) (Or.inl ⟨by rfl, ?_⟩) (by assumption) ?_
  rotate_left
  · intro w hSw; (try dsimp only at hSw); go_simp; (try with_reducible rfl)
  (try simp only [Act.put, List.setIfInBounds_toArray, List.set_cons_zero, List.set_cons_succ])
  refine wpAnyH_take (i := 1) (oi := { dst := some 56, op := Op.binOp BinOp.gtr 2 (Operand.tmp 55) (Operand.const (Value.int IntKind.i64 4000)) 2, type := 4, pos := "l09_ber.go:80", after := #[{ on := 0, ground := Ground.data }], guard := none }) (v := ?_) rfl (by kernel_rfl) (by kernel_rfl) (by kernel_rfl) (fun _ _ _ h => h) (Or.inl ⟨by rfl, ?_⟩) (by assumption) ?_
  rotate_left
  · intro w hSw; (try dsimp only at hSw); go_simp; (try with_reducible rfl)
  (try simp only [Act.put, List.setIfInBounds_toArray, List.set_cons_zero, List.set_cons_succ])
  refine wpAnyH_take (i := 2) (oi := { dst := some 57, op := Op.move (Operand.tmp 56), type := 4, pos := "l09_ber.go:80", after := #[{ on := 1, ground := Ground.data }], guard := none }) (v := ?_) rfl (by kernel_rfl) (by kernel_rfl) (by kernel_rfl) (fun _ _ _ h => h) (Or.inl ⟨by rfl, ?_⟩) (by assumption) ?_
  rotate_left
  · intro w hSw; (try dsimp only at hSw); go_simp; (try with_reducible rfl)
  (try simp only [Act.put, List.setIfInBounds_toArray, List.set_cons_zero, List.set_cons_succ])
  refine wpAnyH_take (i := 3) (oi := { dst := some 58, op := Op.move (Operand.tmp 0), type := 9, pos := "l09_ber.go:80", after := #[{ on := 2, ground := Ground.guard }], guard := some (2, false) }) (v := undef) rfl (by kernel_rfl) (by kernel_rfl) (by kernel_rfl) (fun _ _ _ h => h) (Or.inr ⟨by rfl, rfl⟩) (by assumption) ?_
  (try simp only [Act.put, List.setIfInBounds_toArray, List.set_cons_zero, List.set_cons_succ])
  refine wpAnyH_take (i := 4) (oi := { dst := some 59, op := Op.move (Operand.tmp 1), type := 2, pos := "l09_ber.go:80", after := #[{ on := 2, ground := Ground.guard }], guard := some (2, false) }) (v := undef) rfl (by kernel_rfl) (by kernel_rfl) (by kernel_rfl) (fun _ _ _ h => h) (Or.inr ⟨by rfl, rfl⟩) (by assumption) ?_
  (try simp only [Act.put, List.setIfInBounds_toArray, List.set_cons_zero, List.set_cons_succ])
  refine wpAnyH_take (i := 5) (oi := { dst := some 60, op := Op.move (Operand.tmp 8), type := 2, pos := "l09_ber.go:80", after := #[{ on := 2, ground := Ground.guard }], guard := some (2, false) }) (v := undef) rfl (by kernel_rfl) (by kernel_rfl) (by kernel_rfl) (fun _ _ _ h => h) (Or.inr ⟨by rfl, rfl⟩) (by assumption) ?_
  (try simp only [Act.put, List.setIfInBounds_toArray, List.set_cons_zero, List.set_cons_succ])
  refine wpAnyH_take (i := 6) (oi := { dst := some 61, op := Op.slice 9 (Operand.tmp 58) (some (Operand.tmp 59)) (some (Operand.tmp 60)) none, type := 9, pos := "l09_ber.go:80", after := #[{ on := 3, ground := Ground.data }, { on := 4, ground := Ground.data }, { on := 5, ground := Ground.data }, { on := 2, ground := Ground.guard }], guard := some (2, false) }) (v := undef) rfl (by kernel_rfl) (by kernel_rfl) (by kernel_rfl) (fun _ _ _ h => h) (Or.inr ⟨by rfl, rfl⟩) (by assumption) ?_
  (try simp only [Act.put, List.setIfInBounds_toArray, List.set_cons_zero, List.set_cons_succ])
  refine wpAnyH_take (i := 7) (oi := { dst := some 62, op := Op.move (Operand.tmp 5), type := 2, pos := "l09_ber.go:80", after := #[{ on := 2, ground := Ground.guard }], guard := some (2, false) }) (v := undef) rfl (by kernel_rfl) (by kernel_rfl) (by kernel_rfl) (fun _ _ _ h => h) (Or.inr ⟨by rfl, rfl⟩) (by assumption) ?_
  (try simp only [Act.put, List.setIfInBounds_toArray, List.set_cons_zero, List.set_cons_succ])
  refine wpAnyH_take (i := 8) (oi := { dst := some 63, op := Op.call { callee := Callee.value (Operand.func 35), args := #[Operand.tmp 62], argTypes := #[2] }, type := 9, pos := "l09_ber.go:80", after := #[{ on := 7, ground := Ground.data }, { on := 2, ground := Ground.chain }, { on := 2, ground := Ground.guard }], guard := some (2, false) }) (v := undef) rfl (by kernel_rfl) (by kernel_rfl) (by kernel_rfl) (fun _ _ _ h => h) (Or.inr ⟨by rfl, rfl⟩) (by assumption) ?_
  (try simp only [Act.put, List.setIfInBounds_toArray, List.set_cons_zero, List.set_cons_succ])
  refine wpAnyH_take (i := 9) (oi := { dst := some 64, op := Op.binOp BinOp.neq 9 (Operand.tmp 61) (Operand.tmp 63) 9, type := 4, pos := "l09_ber.go:80", after := #[{ on := 6, ground := Ground.data }, { on := 8, ground := Ground.data }, { on := 2, ground := Ground.guard }], guard := some (2, false) }) (v := undef) rfl (by kernel_rfl) (by kernel_rfl) (by kernel_rfl) (fun _ _ _ h => h) (Or.inr ⟨by rfl, rfl⟩) (by assumption) ?_
  (try simp only [Act.put, List.setIfInBounds_toArray, List.set_cons_zero, List.set_cons_succ])
  refine wpAnyH_take (i := 10) (oi := { dst := some 65, op := Op.pick (Operand.tmp 57) (Operand.const (Value.bool true)) (Operand.tmp 64), type := 4, pos := "l09_ber.go:80", after := #[{ on := 2, ground := Ground.data }, { on := 9, ground := Ground.data }], guard := none }) (v := ?_) rfl (by kernel_rfl) (by kernel_rfl) (by kernel_rfl) (fun _ _ _ h => h) (Or.inl ⟨by rfl, ?_⟩) (by assumption) ?_
  rotate_left
  · intro w hSw; (try dsimp only at hSw); go_simp; (try with_reducible rfl)
  (try simp only [Act.put, List.setIfInBounds_toArray, List.set_cons_zero, List.set_cons_succ])
  refine wpAnyH_done (by kernel_rfl) ?_ _
  clear SK
  have D2 := BD; have D9 := BD; have T9 := T1.out.below BD
  have B2 := b1.trans (D2.mono b1.size)
  have T2 := Lib.hid (T1.out.below D2)
  clear BD hHeld D2 T1
  clear D9 T9
  generalize W1.drew = W2 at *
  have rf0 := T2.out.soft 0; have rz0 := T2.out.cell 0 rfl
  have rf1 := T2.out.soft 1; have rz1 := T2.out.cell 1 rfl
  have rf2 := T2.out.soft 2; have rz2 := T2.out.cell 2 rfl
  have TE := (((T2.out.set 0 (.int .i64 0)).set 1 (.int .i64 0)).set 2 (.int .i64 3))
  have rj0 := TE.cell 0 rfl
  have rj1 := TE.cell 1 rfl
  have rj2 := TE.cell 2 rfl
  clear TE
  have BE := Lib.hid (((B2.setCell (p := ⟨w.heap.size, 0, none⟩) (by show w.heap.size ≤ w.heap.size; omega) (.int .i64 0)).setCell (p := ⟨w.heap.size, 1, none⟩) (by show w.heap.size ≤ w.heap.size; omega) (.int .i64 0)).setCell (p := ⟨w.heap.size, 2, none⟩) (by show w.heap.size ≤ w.heap.size; omega) (.int .i64 3))
  go_wp2
  refine bodyPost_ret (v := .agg #[.int .i64 0, .int .i64 0, .int .i64 3]) (by simp [results, Try.results37, go_sem, rj0, rj1, rj2]) rfl ?_
  exact ⟨by first | (rw [HR.out]; done) | (rw [HR.out]; rfl), BE.out⟩
set_option maxRecDepth 100000 in
set_option maxHeartbeats 2000000 in
theorem getLen_3small (t : ByteArray) (k : Nat) (w : World) (ht : t.size ≤ 8000) (hk : k ≤ 8001) (h : k < t.size) (h1 : t[k].toNat = 130) (h2 : k + 2 < t.size) (h3 : t[k + 1].toNat * 256 + t[k + 2].toNat < 256) :
    Calls Try.prog 37 #[.string t, .int .i64 (k : Int)] w fun e w' => e = lenAgg (lenR t k) ∧ Below w.heap.size w w' := by
  have HR := Lib.hid (lenR_3bad h h1 h2 (.inl h3))
  have HC := cmp_3bad t k h2 h3
  have g0 : (k : Int) < (t.size : Int) := by omega
  have c1 := t[k].toNat_lt
  have c2 := t[k + 1].toNat_lt
  have c3 := t[k + 2].toNat_lt
  have v0 : (t[k].toNat : Int) = 130 := by omega
  have g4 : (k : Int) + 1 < (t.size : Int) := by omega
  have g5 : (k : Int) + 2 < (t.size : Int) := by omega
  have g6 : (k : Int) + 3 ≤ (t.size : Int) := by omega
  have vn : (t[k + 1].toNat : Int) * 256 + (t[k + 2].toNat : Int) = ((t[k + 1].toNat * 256 + t[k + 2].toNat : Nat) : Int) := by omega
  generalize t[k + 1].toNat * 256 + t[k + 2].toNat = q at *
  have h5' : decide ((4000 : Int) < (q : Int)) = false := decide_eq_false (by omega)
  have s1 : (0 : Int) ≤ (k : Int) + 1 + 2 := by omega
  have s2 : (k : Int) ≤ (k : Int) + 1 + 2 := by omega
  have s3 : (k : Int) + 1 + 2 ≤ (t.size : Int) := by omega
  have s4 : ((k : Int) + 1 + 2).toNat = k + 3 := by omega
  clear h1
  have CL := Lib.hid (fun W => lengthBytes_any q W (by omega))
  go_enter Try.func37, Try.ntmps37
  go_wp2_with fail
  refine wp_world (fun W => Below w.heap.size w W ∧ Blk W w.heap.size [.int .i64 0, .int .i64 0, .int .i64 0]) ⟨more' (Below.refl _ _) _, Blk.new _ _ _⟩ ?_
  rintro W1 ⟨b1, t1⟩
  have T1 := Lib.hid t1; clear t1
  have SK : Hid (∀ Z' : World, Below W1.heap.size W1 Z' → Below W1.heap.size W1 Z') := Lib.hid (fun Z' h => h)
  have BD : Below W1.heap.size W1 W1.drew := (Below.refl _ _).drew
  refine wp_region_held_drew (S := (fun Z' => Below W1.heap.size W1 Z')) (by kernel_rfl) ?_ (fun hHeld => ?_)
  · (try dsimp only)
    first | exact SK.out _ (by assumption) | exact SK.out _ BD | exact SK.out _ (more' (by assumption) _) | exact SK.out _ (more' BD _)
  refine wpAnyH_take (i := 0) (oi := { dst := some 55, op := Op.move (Operand.tmp 5), type := 2, pos := "l09_ber.go:80", after := #[], guard := none }) (v := ?_) rfl (by kernel_rfl) (by kernel_rfl) (by kernel_rfl) (fun _ _ _ h => h) (Or.inl ⟨by rfl, ?_⟩) (by assumption) ?_
  rotate_left
  · intro w hSw; (try dsimp only at hSw); go_simp; (try with_reducible rfl)
  (try simp only [Act.put, List.setIfInBounds_toArray, List.set_cons_zero, List.set_cons_succ])
  refine wpAnyH_take (i := 1) (oi := { dst := some 56, op := Op.binOp BinOp.gtr 2 (Operand.tmp 55) (Operand.const (Value.int IntKind.i64 4000)) 2, type := 4, pos := "l09_ber.go:80", after := #[{ on := 0, ground := Ground.data }], guard := none }) (v := ?_) rfl (by kernel_rfl) (by kernel_rfl) (by kernel_rfl) (fun _ _ _ h => h) (Or.inl ⟨by rfl, ?_⟩) (by assumption) ?_
  rotate_left
  · intro w hSw; (try dsimp only at hSw); go_simp; (try with_reducible rfl)
  (try simp only [Act.put, List.setIfInBounds_toArray, List.set_cons_zero, List.set_cons_succ])
  refine wpAnyH_take (i := 2) (oi := { dst := some 57, op := Op.move (Operand.tmp 56), type := 4, pos := "l09_ber.go:80", after := #[{ on := 1, ground := Ground.data }], guard := none }) (v := ?_) rfl (by kernel_rfl) (by kernel_rfl) (by kernel_rfl) (fun _ _ _ h => h) (Or.inl ⟨by rfl, ?_⟩) (by assumption) ?_
  rotate_left
  · intro w hSw; (try dsimp only at hSw); go_simp; (try with_reducible rfl)
  (try simp only [Act.put, List.setIfInBounds_toArray, List.set_cons_zero, List.set_cons_succ])
  refine wpAnyH_take (i := 3) (oi := { dst := some 58, op := Op.move (Operand.tmp 0), type := 9, pos := "l09_ber.go:80", after := #[{ on := 2, ground := Ground.guard }], guard := some (2, false) }) (v := ?_) rfl (by kernel_rfl) (by kernel_rfl) (by kernel_rfl) (fun _ _ _ h => h) (Or.inl ⟨by rfl, ?_⟩) (by assumption) ?_
  rotate_left
  · intro w hSw; (try dsimp only at hSw); go_simp; (try with_reducible rfl)
  (try simp only [Act.put, List.setIfInBounds_toArray, List.set_cons_zero, List.set_cons_succ])
  refine wpAnyH_take (i := 4) (oi := { dst := some 59, op := Op.move (Operand.tmp 1), type := 2, pos := "l09_ber.go:80", after := #[{ on := 2, ground := Ground.guard }], guard := some (2, false) }) (v := ?_) rfl (by kernel_rfl) (by kernel_rfl) (by kernel_rfl) (fun _ _ _ h => h) (Or.inl ⟨by rfl, ?_⟩) (by assumption) ?_
  rotate_left
  · intro w hSw; (try dsimp only at hSw); go_simp; (try with_reducible rfl)
  (try simp only [Act.put, List.setIfInBounds_toArray, List.set_cons_zero, List.set_cons_succ])
  refine wpAnyH_take (i := 5) (oi := { dst := some 60, op := Op.move (Operand.tmp 8), type := 2, pos := "l09_ber.go:80", after := #[{ on := 2, ground := Ground.guard }], guard := some (2, false) }) (v := ?_) rfl (by kernel_rfl) (by kernel_rfl) (by kernel_rfl) (fun _ _ _ h => h) (Or.inl ⟨by rfl, ?_⟩) (by assumption) ?_
  rotate_left
  · intro w hSw; (try dsimp only at hSw); go_simp; (try with_reducible rfl)
  (try simp only [Act.put, List.setIfInBounds_toArray, List.set_cons_zero, List.set_cons_succ])
  refine wpAnyH_take (i := 6) (oi := { dst := some 61, op := Op.slice 9 (Operand.tmp 58) (some (Operand.tmp 59)) (some (Operand.tmp 60)) none, type := 9, pos := "l09_ber.go:80", after := #[{ on := 3, ground := Ground.data }, { on := 4, ground := Ground.data }, { on := 5, ground := Ground.data }, { on := 2, ground := Ground.guard }], guard := some (2, false) }) (v := ?_) rfl (by kernel_rfl) (by kernel_rfl) (by kernel_rfl) (fun _ _ _ h => h) (Or.inl ⟨by rfl, ?_⟩) (by assumption) ?_
  rotate_left
  · intro w hSw; (try dsimp only at hSw); go_simp; (try with_reducible rfl)
  (try simp only [Act.put, List.setIfInBounds_toArray, List.set_cons_zero, List.set_cons_succ])
  refine wpAnyH_take (i := 7) (oi := { dst := some 62, op := Op.move (Operand.tmp 5), type := 2, pos := "l09_ber.go:80", after := #[{ on := 2, ground := Ground.guard }], guard := some (2, false) }) (v := ?_) rfl (by kernel_rfl) (by kernel_rfl) (by kernel_rfl) (fun _ _ _ h => h) (Or.inl ⟨by rfl, ?_⟩) (by assumption) ?_
  rotate_left
  · intro w hSw; (try dsimp only at hSw); go_simp; (try with_reducible rfl)
  (try simp only [Act.put, List.setIfInBounds_toArray, List.set_cons_zero, List.set_cons_succ])
  refine wpAnyH_ready (rs := [8]) (by kernel_rfl) (by simp) ?_
  refine AllReadyH.cons (o := { dst := some 63, op := Op.call { callee := Callee.value (Operand.func 35), args := #[Operand.tmp 62], argTypes := #[2] }, type := 9, pos := "l09_ber.go:80", after := #[{ on := 7, ground := Ground.data }, { on := 2, ground := Ground.chain }, { on := 2, ground := Ground.guard }], guard := some (2, false) }) rfl (fun K hK => ?_) (AllReadyH.nil)
  go_simp
  refine (CL.out _).mono ?_
  rintro e w2 ⟨rfl, hb⟩
  have D2 : Below W1.heap.size W1 w2 := BD.trans (hb.mono BD.size)
  clear hb
  clear hHeld
  refine hK.out _ _ ?_ (fun hHeld => ?_)
  · (try dsimp only)
    first | exact SK.out _ (by assumption) | exact SK.out _ BD | exact SK.out _ (more' (by assumption) _) | exact SK.out _ (more' BD _)
  clear hK K
  (try simp only [Act.put, List.setIfInBounds_toArray, List.set_cons_zero, List.set_cons_succ])
  refine wpAnyH_take (i := 9) (oi := { dst := some 64, op := Op.binOp BinOp.neq 9 (Operand.tmp 61) (Operand.tmp 63) 9, type := 4, pos := "l09_ber.go:80", after := #[{ on := 6, ground := Ground.data }, { on := 8, ground := Ground.data }, { on := 2, ground := Ground.guard }], guard := some (2, false) }) (v := ?_) rfl (by kernel_rfl) (by kernel_rfl) (by kernel_rfl) (fun _ _ _ h => h) (Or.inl ⟨by rfl, ?_⟩) (by assumption) ?_
  rotate_left
  · intro w hSw; (try dsimp only at hSw); go_simp; (try with_reducible rfl)
  (try simp only [Act.put, List.setIfInBounds_toArray, List.set_cons_zero, List.set_cons_succ])
  refine wpAnyH_take (i := 10) (oi := { dst := some 65, op := Op.pick (Operand.tmp 57) (Operand.const (Value.bool true)) (Operand.tmp 64), type := 4, pos := "l09_ber.go:80", after := #[{ on := 2, ground := Ground.data }, { on := 9, ground := Ground.data }], guard := none }) (v := ?_) rfl (by kernel_rfl) (by kernel_rfl) (by kernel_rfl) (fun _ _ _ h => h) (Or.inl ⟨by rfl, ?_⟩) (by assumption) ?_
  rotate_left
  · intro w hSw; (try dsimp only at hSw); go_simp; (try with_reducible rfl)
  (try simp only [Act.put, List.setIfInBounds_toArray, List.set_cons_zero, List.set_cons_succ])
  refine wpAnyH_done (by kernel_rfl) ?_ _
  clear SK
  have B2 := b1.trans (D2.mono b1.size)
  have T2 := Lib.hid (T1.out.below D2)
  clear BD hHeld D2 T1
  have rf0 := T2.out.soft 0; have rz0 := T2.out.cell 0 rfl
  have rf1 := T2.out.soft 1; have rz1 := T2.out.cell 1 rfl
  have rf2 := T2.out.soft 2; have rz2 := T2.out.cell 2 rfl
  have TE := (((T2.out.set 0 (.int .i64 0)).set 1 (.int .i64 0)).set 2 (.int .i64 3))
  have rj0 := TE.cell 0 rfl
  have rj1 := TE.cell 1 rfl
  have rj2 := TE.cell 2 rfl
  clear TE
  have BE := Lib.hid (((B2.setCell (p := ⟨w.heap.size, 0, none⟩) (by show w.heap.size ≤ w.heap.size; omega) (.int .i64 0)).setCell (p := ⟨w.heap.size, 1, none⟩) (by show w.heap.size ≤ w.heap.size; omega) (.int .i64 0)).setCell (p := ⟨w.heap.size, 2, none⟩) (by show w.heap.size ≤ w.heap.size; omega) (.int .i64 3))
  go_wp2
  refine bodyPost_ret (v := .agg #[.int .i64 0, .int .i64 0, .int .i64 3]) (by simp [results, Try.results37, go_sem, rj0, rj1, rj2]) rfl ?_
  exact ⟨by first | (rw [HR.out]; done) | (rw [HR.out]; rfl), BE.out⟩
set_option maxRecDepth 100000 in
set_option maxHeartbeats 2000000 in
theorem getLen_3ok (t : ByteArray) (k : Nat) (w : World) (ht : t.size ≤ 8000) (hk : k ≤ 8001) (h : k < t.size) (h1 : t[k].toNat = 130) (h2 : k + 2 < t.size) (h3 : ¬ (t[k + 1].toNat * 256 + t[k + 2].toNat < 256 ∨ 4000 < t[k + 1].toNat * 256 + t[k + 2].toNat)) :
    Calls Try.prog 37 #[.string t, .int .i64 (k : Int)] w fun e w' => e = lenAgg (lenR t k) ∧ Below w.heap.size w w' := by
  have HR := Lib.hid (lenR_3ok h h1 h2 h3)
  have HC := cmp_3 t k h2 h1 (fun x => h3 (.inl x))
  have g0 : (k : Int) < (t.size : Int) := by omega
  have c1 := t[k].toNat_lt
  have c2 := t[k + 1].toNat_lt
  have c3 := t[k + 2].toNat_lt
  have v0 : (t[k].toNat : Int) = 130 := by omega
  have g4 : (k : Int) + 1 < (t.size : Int) := by omega
  have g5 : (k : Int) + 2 < (t.size : Int) := by omega
  have g6 : (k : Int) + 3 ≤ (t.size : Int) := by omega
  have vn : (t[k + 1].toNat : Int) * 256 + (t[k + 2].toNat : Int) = ((t[k + 1].toNat * 256 + t[k + 2].toNat : Nat) : Int) := by omega
  generalize t[k + 1].toNat * 256 + t[k + 2].toNat = q at *
  have h5' : decide ((4000 : Int) < (q : Int)) = false := decide_eq_false (by omega)
  have s1 : (0 : Int) ≤ (k : Int) + 1 + 2 := by omega
  have s2 : (k : Int) ≤ (k : Int) + 1 + 2 := by omega
  have s3 : (k : Int) + 1 + 2 ≤ (t.size : Int) := by omega
  have s4 : ((k : Int) + 1 + 2).toNat = k + 3 := by omega
  clear h1
  have CL := Lib.hid (fun W => lengthBytes_any q W (by omega))
  go_enter Try.func37, Try.ntmps37
  go_wp2_with fail
  refine wp_world (fun W => Below w.heap.size w W ∧ Blk W w.heap.size [.int .i64 0, .int .i64 0, .int .i64 0]) ⟨more' (Below.refl _ _) _, Blk.new _ _ _⟩ ?_
  rintro W1 ⟨b1, t1⟩
  have T1 := Lib.hid t1; clear t1
  have SK : Hid (∀ Z' : World, Below W1.heap.size W1 Z' → Below W1.heap.size W1 Z') := Lib.hid (fun Z' h => h)
  have BD : Below W1.heap.size W1 W1.drew := (Below.refl _ _).drew
  refine wp_region_held_drew (S := (fun Z' => Below W1.heap.size W1 Z')) (by kernel_rfl) ?_ (fun hHeld => ?_)
  · (try dsimp only)
    first | exact SK.out _ (by assumption) | exact SK.out _ BD | exact SK.out _ (more' (by assumption) _) | exact SK.out _ (more' BD _)
  refine wpAnyH_take (i := 0) (oi := { dst := some 55, op := Op.move (Operand.tmp 5), type := 2, pos := "l09_ber.go:80", after := #[], guard := none }) (v := ?_) rfl (by kernel_rfl) (by kernel_rfl) (by kernel_rfl) (fun _ _ _ h => h) (Or.inl ⟨by rfl, ?_⟩) (by assumption) ?_
  rotate_left
  · intro w hSw; (try dsimp only at hSw); go_simp; (try with_reducible rfl)
  (try simp only [Act.put, List.setIfInBounds_toArray, List.set_cons_zero, List.set_cons_succ])
  refine wpAnyH_take (i := 1) (oi := { dst := some 56, op := Op.binOp BinOp.gtr 2 (Operand.tmp 55) (Operand.const (Value.int IntKind.i64 4000)) 2, type := 4, pos := "l09_ber.go:80", after := #[{ on := 0, ground := Ground.data }], guard := none }) (v := ?_) rfl (by kernel_rfl) (by kernel_rfl) (by kernel_rfl) (fun _ _ _ h => h) (Or.inl ⟨by rfl, ?_⟩) (by assumption) ?_
  rotate_left
  · intro w hSw; (try dsimp only at hSw); go_simp; (try with_reducible rfl)
  (try simp only [Act.put, List.setIfInBounds_toArray, List.set_cons_zero, List.set_cons_succ])
  refine wpAnyH_take (i := 2) (oi := { dst := some 57, op := Op.move (Operand.tmp 56), type := 4, pos := "l09_ber.go:80", after := #[{ on := 1, ground := Ground.data }], guard := none }) (v := ?_) rfl (by kernel_rfl) (by kernel_rfl) (by kernel_rfl) (fun _ _ _ h => h) (Or.inl ⟨by rfl, ?_⟩) (by assumption) ?_
  rotate_left
  · intro w hSw; (try dsimp only at hSw); go_simp; (try with_reducible rfl)
  (try simp only [Act.put, List.setIfInBounds_toArray, List.set_cons_zero, List.set_cons_succ])
  refine wpAnyH_take (i := 3) (oi := { dst := some 58, op := Op.move (Operand.tmp 0), type := 9, pos := "l09_ber.go:80", after := #[{ on := 2, ground := Ground.guard }], guard := some (2, false) }) (v := ?_) rfl (by kernel_rfl) (by kernel_rfl) (by kernel_rfl) (fun _ _ _ h => h) (Or.inl ⟨by rfl, ?_⟩) (by assumption) ?_
  rotate_left
  · intro w hSw; (try dsimp only at hSw); go_simp; (try with_reducible rfl)
  (try simp only [Act.put, List.setIfInBounds_toArray, List.set_cons_zero, List.set_cons_succ])
  refine wpAnyH_take (i := 4) (oi := { dst := some 59, op := Op.move (Operand.tmp 1), type := 2, pos := "l09_ber.go:80", after := #[{ on := 2, ground := Ground.guard }], guard := some (2, false) }) (v := ?_) rfl (by kernel_rfl) (by kernel_rfl) (by kernel_rfl) (fun _ _ _ h => h) (Or.inl ⟨by rfl, ?_⟩) (by assumption) ?_
  rotate_left
  · intro w hSw; (try dsimp only at hSw); go_simp; (try with_reducible rfl)
  (try simp only [Act.put, List.setIfInBounds_toArray, List.set_cons_zero, List.set_cons_succ])
  refine wpAnyH_take (i := 5) (oi := { dst := some 60, op := Op.move (Operand.tmp 8), type := 2, pos := "l09_ber.go:80", after := #[{ on := 2, ground := Ground.guard }], guard := some (2, false) }) (v := ?_) rfl (by kernel_rfl) (by kernel_rfl) (by kernel_rfl) (fun _ _ _ h => h) (Or.inl ⟨by rfl, ?_⟩) (by assumption) ?_
  rotate_left
  · intro w hSw; (try dsimp only at hSw); go_simp; (try with_reducible rfl)
  (try simp only [Act.put, List.setIfInBounds_toArray, List.set_cons_zero, List.set_cons_succ])
  refine wpAnyH_take (i := 6) (oi := { dst := some 61, op := Op.slice 9 (Operand.tmp 58) (some (Operand.tmp 59)) (some (Operand.tmp 60)) none, type := 9, pos := "l09_ber.go:80", after := #[{ on := 3, ground := Ground.data }, { on := 4, ground := Ground.data }, { on := 5, ground := Ground.data }, { on := 2, ground := Ground.guard }], guard := some (2, false) }) (v := ?_) rfl (by kernel_rfl) (by kernel_rfl) (by kernel_rfl) (fun _ _ _ h => h) (Or.inl ⟨by rfl, ?_⟩) (by assumption) ?_
  rotate_left
  · intro w hSw; (try dsimp only at hSw); go_simp; (try with_reducible rfl)
  (try simp only [Act.put, List.setIfInBounds_toArray, List.set_cons_zero, List.set_cons_succ])
  refine wpAnyH_take (i := 7) (oi := { dst := some 62, op := Op.move (Operand.tmp 5), type := 2, pos := "l09_ber.go:80", after := #[{ on := 2, ground := Ground.guard }], guard := some (2, false) }) (v := ?_) rfl (by kernel_rfl) (by kernel_rfl) (by kernel_rfl) (fun _ _ _ h => h) (Or.inl ⟨by rfl, ?_⟩) (by assumption) ?_
  rotate_left
  · intro w hSw; (try dsimp only at hSw); go_simp; (try with_reducible rfl)
  (try simp only [Act.put, List.setIfInBounds_toArray, List.set_cons_zero, List.set_cons_succ])
  refine wpAnyH_ready (rs := [8]) (by kernel_rfl) (by simp) ?_
  refine AllReadyH.cons (o := { dst := some 63, op := Op.call { callee := Callee.value (Operand.func 35), args := #[Operand.tmp 62], argTypes := #[2] }, type := 9, pos := "l09_ber.go:80", after := #[{ on := 7, ground := Ground.data }, { on := 2, ground := Ground.chain }, { on := 2, ground := Ground.guard }], guard := some (2, false) }) rfl (fun K hK => ?_) (AllReadyH.nil)
  go_simp
  refine (CL.out _).mono ?_
  rintro e w2 ⟨rfl, hb⟩
  have D2 : Below W1.heap.size W1 w2 := BD.trans (hb.mono BD.size)
  clear hb
  clear hHeld
  refine hK.out _ _ ?_ (fun hHeld => ?_)
  · (try dsimp only)
    first | exact SK.out _ (by assumption) | exact SK.out _ BD | exact SK.out _ (more' (by assumption) _) | exact SK.out _ (more' BD _)
  clear hK K
  (try simp only [Act.put, List.setIfInBounds_toArray, List.set_cons_zero, List.set_cons_succ])
  refine wpAnyH_take (i := 9) (oi := { dst := some 64, op := Op.binOp BinOp.neq 9 (Operand.tmp 61) (Operand.tmp 63) 9, type := 4, pos := "l09_ber.go:80", after := #[{ on := 6, ground := Ground.data }, { on := 8, ground := Ground.data }, { on := 2, ground := Ground.guard }], guard := some (2, false) }) (v := ?_) rfl (by kernel_rfl) (by kernel_rfl) (by kernel_rfl) (fun _ _ _ h => h) (Or.inl ⟨by rfl, ?_⟩) (by assumption) ?_
  rotate_left
  · intro w hSw; (try dsimp only at hSw); go_simp; (try with_reducible rfl)
  (try simp only [Act.put, List.setIfInBounds_toArray, List.set_cons_zero, List.set_cons_succ])
  refine wpAnyH_take (i := 10) (oi := { dst := some 65, op := Op.pick (Operand.tmp 57) (Operand.const (Value.bool true)) (Operand.tmp 64), type := 4, pos := "l09_ber.go:80", after := #[{ on := 2, ground := Ground.data }, { on := 9, ground := Ground.data }], guard := none }) (v := ?_) rfl (by kernel_rfl) (by kernel_rfl) (by kernel_rfl) (fun _ _ _ h => h) (Or.inl ⟨by rfl, ?_⟩) (by assumption) ?_
  rotate_left
  · intro w hSw; (try dsimp only at hSw); go_simp; (try with_reducible rfl)
  (try simp only [Act.put, List.setIfInBounds_toArray, List.set_cons_zero, List.set_cons_succ])
  refine wpAnyH_done (by kernel_rfl) ?_ _
  clear SK
  have B2 := b1.trans (D2.mono b1.size)
  have T2 := Lib.hid (T1.out.below D2)
  clear BD hHeld D2 T1
  have rf0 := T2.out.soft 0; have rz0 := T2.out.cell 0 rfl
  have rf1 := T2.out.soft 1; have rz1 := T2.out.cell 1 rfl
  have rf2 := T2.out.soft 2; have rz2 := T2.out.cell 2 rfl
  have TE := (((T2.out.set 0 (.int .i64 (q : Int))).set 1 (.int .i64 ((k : Int) + 1 + 2))).set 2 (.int .i64 0))
  have rj0 := TE.cell 0 rfl
  have rj1 := TE.cell 1 rfl
  have rj2 := TE.cell 2 rfl
  clear TE
  have BE := Lib.hid (((B2.setCell (p := ⟨w.heap.size, 0, none⟩) (by show w.heap.size ≤ w.heap.size; omega) (.int .i64 (q : Int))).setCell (p := ⟨w.heap.size, 1, none⟩) (by show w.heap.size ≤ w.heap.size; omega) (.int .i64 ((k : Int) + 1 + 2))).setCell (p := ⟨w.heap.size, 2, none⟩) (by show w.heap.size ≤ w.heap.size; omega) (.int .i64 0))
  go_wp2
  refine bodyPost_ret (v := .agg #[.int .i64 (q : Int), .int .i64 ((k : Int) + 1 + 2), .int .i64 0]) (by simp [results, Try.results37, go_sem, rj0, rj1, rj2]) rfl ?_
  exact ⟨by first | (rw [HR.out]; done) | (rw [HR.out]; rfl), BE.out⟩
set_option maxRecDepth 100000 in
set_option maxHeartbeats 2000000 in
theorem getLen_3short (t : ByteArray) (k : Nat) (w : World) (ht : t.size ≤ 8000) (hk : k ≤ 8001) (h : k < t.size) (h1 : t[k].toNat = 130) (h2 : ¬ k + 2 < t.size) :
    Calls Try.prog 37 #[.string t, .int .i64 (k : Int)] w fun e w' => e = lenAgg (lenR t k) ∧ Below w.heap.size w w' := by
  have HR := Lib.hid (lenR_3short h h1 h2)
  have g0 : (k : Int) < (t.size : Int) := by omega
  have c1 := t[k].toNat_lt
  have v0 : (t[k].toNat : Int) = 130 := by omega
  have g5 : (t.size : Int) < (k : Int) + 3 := by omega
  clear h1
  go_enter Try.func37, Try.ntmps37
  go_wp2
  exact bodyPost_ret (v := .agg #[.int .i64 0, .int .i64 0, .int .i64 4]) (by simp [results, Try.results37, go_sem]) rfl ⟨by first | (rw [HR.out]; done) | (rw [HR.out]; rfl), more' (Below.refl _ _) _⟩
set_option maxRecDepth 100000 in
set_option maxHeartbeats 2000000 in
theorem getLen_no8 (t : ByteArray) (k : Nat) (w : World) (ht : t.size ≤ 8000) (hk : k ≤ 8001) (h : k < t.size) (h1 : t[k].toNat = 128) :
    Calls Try.prog 37 #[.string t, .int .i64 (k : Int)] w fun e w' => e = lenAgg (lenR t k) ∧ Below w.heap.size w w' := by
  have HR := Lib.hid (lenR_no h (by omega) (by omega) (by omega))
  have g0 : (k : Int) < (t.size : Int) := by omega
  have c1 := t[k].toNat_lt
  have v0 : (t[k].toNat : Int) = 128 := by omega
  clear h1
  go_enter Try.func37, Try.ntmps37
  go_wp2
  exact bodyPost_ret (v := .agg #[.int .i64 0, .int .i64 0, .int .i64 3]) (by simp [results, Try.results37, go_sem]) rfl ⟨by first | (rw [HR.out]; done) | (rw [HR.out]; rfl), more' (Below.refl _ _) _⟩
set_option maxRecDepth 100000 in
set_option maxHeartbeats 2000000 in
theorem getLen_no (t : ByteArray) (k : Nat) (w : World) (ht : t.size ≤ 8000) (hk : k ≤ 8001) (h : k < t.size) (h1 : 130 < t[k].toNat) :
    Calls Try.prog 37 #[.string t, .int .i64 (k : Int)] w fun e w' => e = lenAgg (lenR t k) ∧ Below w.heap.size w w' := by
  have HR := Lib.hid (lenR_no h (by omega) (by omega) (by omega))
  have g0 : (k : Int) < (t.size : Int) := by omega
  have c1 := t[k].toNat_lt
  have v1 : ((t[k].toNat : Int) == 128) = false := by rw [beq_eq_false_iff_ne]; omega
  have v2 : (2 : Int) < (t[k].toNat : Int) - 128 := by omega
  clear h1
  go_enter Try.func37, Try.ntmps37
  go_wp2
  exact bodyPost_ret (v := .agg #[.int .i64 0, .int .i64 0, .int .i64 3]) (by simp [results, Try.results37, go_sem]) rfl ⟨by first | (rw [HR.out]; done) | (rw [HR.out]; rfl), more' (Below.refl _ _) _⟩
theorem getLength_any (t : ByteArray) (k : Nat) (w : World) (ht : t.size ≤ 8000) (hk : k ≤ 8001)  :
    Calls Try.prog 37 #[.string t, .int .i64 (k : Int)] w fun e w' => e = lenAgg (lenR t k) ∧ Below w.heap.size w w' := by
  by_cases h : k < t.size
  rotate_left
  · exact getLen_end t k w ht hk h
  by_cases h1 : t[k].toNat < 128
  · exact getLen_1 t k w ht hk h h1
  by_cases h2 : t[k].toNat = 129
  · by_cases h3 : k + 1 < t.size
    · by_cases h4 : t[k + 1].toNat < 128
      · exact getLen_2bad t k w ht hk h h2 h3 h4
      · exact getLen_2ok t k w ht hk h h2 h3 h4
    · exact getLen_2short t k w ht hk h h2 h3
  by_cases h3 : t[k].toNat = 130
  · by_cases h4 : k + 2 < t.size
    · by_cases h5 : 4000 < t[k + 1].toNat * 256 + t[k + 2].toNat
      · exact getLen_3big t k w ht hk h h3 h4 h5
      by_cases h6 : t[k + 1].toNat * 256 + t[k + 2].toNat < 256
      · exact getLen_3small t k w ht hk h h3 h4 h6
      · exact getLen_3ok t k w ht hk h h3 h4 (fun x => by rcases x with x | x <;> contradiction)
    · exact getLen_3short t k w ht hk h h3 h4
  by_cases h4 : t[k].toNat = 128
  · exact getLen_no8 t k w ht hk h h4
  · exact getLen_no t k w ht hk h (by omega)
end Go.Proofs.Ytohcdpoffpnfhaa
