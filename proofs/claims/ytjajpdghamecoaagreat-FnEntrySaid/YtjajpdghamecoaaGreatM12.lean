/- Merged texts: SetF, OutR, Del, VDrop, EntLaw, Lw, LwE, Held2, StepS. -/
import Derived.Test.YtjajpdghamecoaaGreatM11
import Derived.Test.YtjajpdghamecoaaGreatM6
import Derived.Shelf.SlicesG.Delete
import Derived.Sort.OwnSorted
import Derived.Test.YtjajpdghamecoaaGreatM2
import Derived.Deep.RegionHeld
/- An attribute is set by one walk over attributes in order: plain facts. -/
namespace Go.Proofs.YtjajpdghamecoaaGreat
open Go.RowKit

section
variable (T : List AttrV) (nm : ByteArray) (X : List ByteArray)
/-- the new attribute has been laid (or there is none to lay) -/
def doneB (i : Nat) : Bool := decide (X = []) || (T.take i).any (fun a => !nameLt a (nm, X))
/-- what has been laid -/
def accL (i : Nat) : List AttrV := if doneB T nm X i = true then setL (T.take i) nm X else T.take i
variable {T nm X}
theorem setL_snoc (L : List AttrV) (a : AttrV) : setL (L ++ [a]) nm X = (L.filter (fun b => nameLt b (nm, X)) ++ if nameLt a (nm, X) = true then [a] else []) ++ (if X = [] then [] else [(nm, X)]) ++ (L.filter (fun b => nameLt (nm, X) b) ++ if nameLt (nm, X) a = true then [a] else []) := by
  unfold setL
  rw [List.filter_append, List.filter_append]
  congr 2
  · congr 2
    simp only [List.filter_cons, List.filter_nil]
  · congr 1
    simp only [List.filter_cons, List.filter_nil]
theorem not_done {i : Nat} (h : doneB T nm X i = false) : X ≠ [] ∧ ∀ a ∈ T.take i, nameLt a (nm, X) = true := by
  unfold doneB at h
  rw [Bool.or_eq_false_iff] at h
  refine ⟨by simpa using h.1, fun a ha => ?_⟩
  have := List.any_eq_false.1 h.2 a ha
  simpa using this
theorem done_succ (i : Nat) (hi : i < T.length) : doneB T nm X (i + 1) = (doneB T nm X i || !nameLt T[i] (nm, X)) := by
  unfold doneB
  rw [List.take_succ_eq_append_getElem hi, List.any_append, Bool.or_assoc]
  simp
theorem filter_lt {i : Nat} (h : ∀ a ∈ T.take i, nameLt a (nm, X) = true) : (T.take i).filter (fun b => nameLt b (nm, X)) = T.take i ∧ (T.take i).filter (fun b => nameLt (nm, X) b) = [] := by
  refine ⟨List.filter_eq_self.2 h, List.filter_eq_nil_iff.2 fun a ha hb => ?_⟩
  have := nameLt_trans _ _ _ (h a ha) hb
  rw [nameLt_irrefl] at this; cases this
theorem lt_not {a b : AttrV} (h : nameLt a b = true) : nameLt b a = false := by
  cases h1 : nameLt b a with
  | false => rfl
  | true =>
    have := nameLt_trans _ _ _ h h1
    rw [nameLt_irrefl] at this; cases this
theorem same_not {a : AttrV} (h : a.1 = nm) : nameLt a (nm, X) = false ∧ nameLt (nm, X) a = false := by
  unfold nameLt; simp only; rw [h, less_irrefl]; exact ⟨rfl, rfl⟩
theorem acc_a {i : Nat} (hi : i < T.length) (hd : doneB T nm X i = false) (h : nameLt (nm, X) T[i] = true) : accL T nm X (i + 1) = accL T nm X i ++ [(nm, X)] ++ [T[i]] ∧ doneB T nm X (i + 1) = true := by
  have h1 := lt_not h
  have hd' : doneB T nm X (i + 1) = true := by rw [done_succ i hi, h1]; simp
  refine ⟨?_, hd'⟩
  obtain ⟨hX, hA⟩ := not_done hd
  obtain ⟨f1, f2⟩ := filter_lt hA
  unfold accL
  rw [if_pos hd', if_neg (by rw [hd]; simp), List.take_succ_eq_append_getElem hi, setL_snoc, f1, f2, h1, h, if_neg hX]
  simp
theorem acc_b {i : Nat} (hi : i < T.length) (hd : doneB T nm X i = false) (h : T[i].1 = nm) : accL T nm X (i + 1) = accL T nm X i ++ [(nm, X)] ∧ doneB T nm X (i + 1) = true := by
  obtain ⟨h1, h2⟩ := same_not (X := X) h
  have hd' : doneB T nm X (i + 1) = true := by rw [done_succ i hi, h1]; simp
  refine ⟨?_, hd'⟩
  obtain ⟨hX, hA⟩ := not_done hd
  obtain ⟨f1, f2⟩ := filter_lt hA
  unfold accL
  rw [if_pos hd', if_neg (by rw [hd]; simp), List.take_succ_eq_append_getElem hi, setL_snoc, f1, f2, h1, h2, if_neg hX]
  simp
theorem acc_c {i : Nat} (hi : i < T.length) (hd : doneB T nm X i = false) (h : nameLt (nm, X) T[i] = false) (hn : T[i].1 ≠ nm) : accL T nm X (i + 1) = accL T nm X i ++ [T[i]] ∧ doneB T nm X (i + 1) = false := by
  have h1 : nameLt T[i] (nm, X) = true := by
    rcases nameLt_total (a := T[i]) (b := (nm, X)) hn with h' | h'
    · exact h'
    · rw [h] at h'; cases h'
  have hd' : doneB T nm X (i + 1) = false := by rw [done_succ i hi, h1, hd]; rfl
  refine ⟨?_, hd'⟩
  unfold accL
  rw [if_neg (by rw [hd']; simp), if_neg (by rw [hd]; simp), List.take_succ_eq_append_getElem hi]
theorem acc_d {i : Nat} (hi : i < T.length) (hd : doneB T nm X i = true) (h : T[i].1 = nm) : accL T nm X (i + 1) = accL T nm X i ∧ doneB T nm X (i + 1) = true := by
  obtain ⟨h1, h2⟩ := same_not (X := X) h
  have hd' : doneB T nm X (i + 1) = true := by rw [done_succ i hi, hd]; rfl
  refine ⟨?_, hd'⟩
  unfold accL
  rw [if_pos hd', if_pos hd, List.take_succ_eq_append_getElem hi, setL_snoc, h1, h2]
  unfold setL
  simp
theorem acc_e {i : Nat} (hs : incB nameLt T = true) (hi : i < T.length) (hd : doneB T nm X i = true) (hn : T[i].1 ≠ nm) : accL T nm X (i + 1) = accL T nm X i ++ [T[i]] ∧ doneB T nm X (i + 1) = true := by
  have hd' : doneB T nm X (i + 1) = true := by rw [done_succ i hi, hd]; rfl
  refine ⟨?_, hd'⟩
  have hp : ∀ a ∈ T.take i, nameLt a T[i] = true := fun a ha => by
    obtain ⟨j, hj, rfl⟩ := List.getElem_of_mem ha
    rw [List.length_take] at hj
    rw [List.getElem_take]
    exact inc_far nameLt_trans hs j i (by omega) hi (by omega)
  unfold accL
  rw [if_pos hd', if_pos hd, List.take_succ_eq_append_getElem hi, setL_snoc]
  rcases nameLt_total (a := T[i]) (b := (nm, X)) hn with h | h
  · have hA : ∀ a ∈ T.take i, nameLt a (nm, X) = true := fun a ha => nameLt_trans _ _ _ (hp a ha) h
    have hX : X = [] := by
      unfold doneB at hd
      rw [Bool.or_eq_true] at hd
      rcases hd with hd | hd
      · simpa using hd
      · obtain ⟨a, ha, hb⟩ := List.any_eq_true.1 hd
        rw [hA a ha] at hb; cases hb
    obtain ⟨f1, f2⟩ := filter_lt hA
    unfold setL
    rw [f1, f2, h, lt_not h, if_pos hX]
    simp
  · unfold setL
    rw [h, lt_not h]
    simp
theorem acc_end1 (hd : doneB T nm X T.length = true) : accL T nm X T.length = setL T nm X := by
  unfold accL; rw [if_pos hd, List.take_length]
theorem acc_end0 (hd : doneB T nm X T.length = false) : accL T nm X T.length ++ [(nm, X)] = setL T nm X := by
  obtain ⟨hX, hA⟩ := not_done hd
  obtain ⟨f1, f2⟩ := filter_lt hA
  unfold accL; rw [if_neg (by rw [hd]; simp)]
  rw [List.take_length] at f1 f2 ⊢
  unfold setL
  rw [f1, f2, if_neg hX]; simp
theorem acc_zero : accL T nm X 0 = [] ∧ doneB T nm X 0 = decide (X = []) := by
  have h : doneB T nm X 0 = decide (X = []) := by unfold doneB; simp
  refine ⟨?_, h⟩
  unfold accL
  split
  · rename_i h1
    rw [h] at h1
    unfold setL; simp at h1; simp [h1]
  · simp
theorem acc_len (i : Nat) : (accL T nm X i).length ≤ T.length + 1 := by
  unfold accL
  split
  · have := setL_len (T.take i) nm X
    rw [List.length_take] at this; omega
  · rw [List.length_take]; omega
end
/-- pairs stand for attributes, their texts in rows of their own -/
def LaidV (w : World) (B : Nat) (P : List PairV) (A : List AttrV) : Prop := P.length = A.length ∧ ∀ i (h : i < A.length) (h' : i < P.length), P[i].1 = A[i].1 ∧ IsSl P[i].2 ∧ w.ownsRow B 9 1 P[i].2 A[i].2.length (ss A[i].2)
theorem LaidV.below {w w' : World} {B : Nat} {P : List PairV} {A : List AttrV} (h : LaidV w B P A) (hb : Below w.heap.size w w') : LaidV w' B P A :=
  ⟨h.1, fun i a b => by obtain ⟨q1, q2, q3⟩ := h.2 i a b; exact ⟨q1, q2, own_below q3 hb⟩⟩
theorem LaidV.mono {w : World} {B B' : Nat} {P : List PairV} {A : List AttrV} (h : LaidV w B P A) (hB : B' ≤ B) : LaidV w B' P A :=
  ⟨h.1, fun i a b => by obtain ⟨q1, q2, q3⟩ := h.2 i a b; exact ⟨q1, q2, own_mono q3 hB⟩⟩
theorem LaidV.far {w w' : World} {B B' m : Nat} {P : List PairV} {A : List AttrV} {v : Value} {ys : List Value} (h : LaidV w B P A) (hv : w.ownsRow B' 48 2 v m ys) (hg : w.grownBy w' v.ownBlock) : LaidV w' B P A :=
  ⟨h.1, fun i a b => by obtain ⟨q1, q2, q3⟩ := h.2 i a b; exact ⟨q1, q2, own_far q3 hv hg⟩⟩
theorem LaidV.cellOut {w : World} {B R j : Nat} {x : Value} {P : List PairV} {A : List AttrV} (h : LaidV w B P A) (hR : R < B) : LaidV (w.setCell ⟨R, j, none⟩ x) B P A :=
  ⟨h.1, fun i a b => by obtain ⟨q1, q2, q3⟩ := h.2 i a b; exact ⟨q1, q2, own_cellOut q3 hR⟩⟩
theorem LaidV.snoc {w : World} {B : Nat} {P : List PairV} {A : List AttrV} (h : LaidV w B P A) {a : AttrV} {v : Value} (hs : IsSl v) (ho : w.ownsRow B 9 1 v a.2.length (ss a.2)) : LaidV w B (P ++ [(a.1, v)]) (A ++ [a]) := by
  refine ⟨by simp [h.1], fun i p q => ?_⟩
  by_cases e : i < A.length
  · obtain ⟨q1, q2, q3⟩ := h.2 i e (by rw [h.1]; exact e)
    rw [List.getElem_append_left e, List.getElem_append_left (by rw [h.1]; exact e)]
    exact ⟨q1, q2, q3⟩
  · have e' : i = A.length := by simp at p; omega
    subst e'
    have e2 : (A ++ [a])[A.length] = a := by simp
    have e3 : (P ++ [(a.1, v)])[A.length] = (a.1, v) := by
      rw [List.getElem_append_right (by rw [h.1]; exact Nat.le_refl _)]; simp [h.1]
    rw [e2, e3]
    exact ⟨rfl, hs, ho⟩
/-- attributes in a row of the call's own -/
def AttrsRow (w : World) (B : Nat) (v : Value) (A : List AttrV) : Prop := ∃ P : List PairV, w.ownsRow B 48 2 v A.length (ps P) ∧ LaidV w B P A
theorem AttrsRow.attrs {w : World} {B n cap : Nat} {uo : Option Addr} {T : List AttrV} (h : AttrsRow w B (.slice uo n cap) T) : AttrsAt w uo T := by
  obtain ⟨P, h2, h1, h4⟩ := h
  by_cases hT : T = []
  · exact .inl hT
  have hT' : 0 < T.length := List.length_pos_iff.2 hT
  rcases h2.2 with ⟨_, h0⟩ | ⟨g, cap', cur, e, hg, hk, _⟩
  · omega
  · injection e with e1 e2 e3
    subst e1; subst e2; subst e3
    refine .inr ⟨g, 0, rfl, (Array.getElem?_eq_some_iff.1 hk).1, fun i hi => ?_⟩
    have hiP : i < P.length := by omega
    obtain ⟨q1, ⟨vo, m, vc, q2⟩, q4⟩ := h4 i hi hiP
    rw [q2] at q4
    obtain rfl : m = T[i].2.length := by obtain ⟨_, _, e⟩ := own_slice q4; injection e
    have c0 := h2.cellAt (i * 2) (by omega)
    have c1 := h2.cellAt (i * 2 + 1) (by omega)
    obtain ⟨p0, p1⟩ := ps_get P i hiP
    rw [p0, q1] at c0; rw [p1, q2] at c1
    rw [Nat.zero_add]
    refine ⟨c0, vo, vc, c1, own_strs q4, own_cap q4, fun e => ?_⟩
    subst e
    rcases q4.2 with ⟨q, _⟩ | ⟨k, cp, cur, q, _⟩
    · injection q
    · injection q with q; cases q
theorem AttrsRow.below {w w' : World} {B : Nat} {v : Value} {A : List AttrV} (h : AttrsRow w B v A) (hb : Below w.heap.size w w') : AttrsRow w' B v A := by
  obtain ⟨P, h1, h2⟩ := h
  exact ⟨P, own_below h1 hb, h2.below hb⟩
theorem AttrsRow.mono {w : World} {B B' : Nat} {v : Value} {A : List AttrV} (h : AttrsRow w B v A) (hB : B' ≤ B) : AttrsRow w B' v A := by
  obtain ⟨P, h1, h2⟩ := h
  exact ⟨P, own_mono h1 hB, h2.mono hB⟩
theorem AttrsRow.cellOut {w : World} {B R j : Nat} {x v : Value} {A : List AttrV} (h : AttrsRow w B v A) (hR : R < B) : AttrsRow (w.setCell ⟨R, j, none⟩ x) B v A := by
  obtain ⟨P, h1, h2⟩ := h
  exact ⟨P, own_cellOut h1 hR, h2.cellOut hR⟩
end Go.Proofs.YtjajpdghamecoaaGreat
/- Results of ValueAdd and its like: what they are, and that two that are alike compare true. -/
namespace Go.Proofs.YtjajpdghamecoaaGreat
open Go.RowKit
attribute [local go_sem ↓] Go.wp_at_zero Go.wp_at_succ

abbrev OutR := Int × RdnL × List AttrV
/-- a result of the program -/
def ImplOut (w : World) (r : OutR) (e : Ending) (w' : World) : Prop :=
  (∃ vo vc uo uc, e = .returned (.agg #[.slice vo r.2.1.length vc, .slice uo r.2.2.length uc, .int .i64 r.1]) ∧ w'.ownsRow w.heap.size 97 2 (.slice vo r.2.1.length vc) r.2.1.length (rs r.2.1) ∧ AttrsOwn w' w.heap.size (.slice uo r.2.2.length uc) r.2.2) ∧ Below w.heap.size w w'
/-- a result of the specification -/
def SpecOut (w : World) (r : OutR) (e : Ending) (w' : World) : Prop :=
  (∃ vo vc uo uc, e = .returned (.agg #[.slice vo r.2.1.length vc, .slice uo r.2.2.length uc, .int .i64 r.1]) ∧ w'.ownsRow w.heap.size 97 2 (.slice vo r.2.1.length vc) r.2.1.length (rs r.2.1) ∧ AttrsRow w' w.heap.size (.slice uo r.2.2.length uc) r.2.2) ∧ Below w.heap.size w w'
/-- it is no greater than an entry may be, and a little -/
def Small (r : OutR) : Prop := r.2.1.length ≤ 6 ∧ cntA r.2.2 r.2.2.length ≤ 800 ∧ FitsA r.2.2
noncomputable def addR (d : RdnL) (l : List AttrV) (nm val : ByteArray) : OutR :=
  if vcode (rightB d l) nm val ≠ 0 then (vcode (rightB d l) nm val, [], [])
  else if 0 ≤ findI (likeV val) (attrOfL d l nm) then (7, [], [])
  else if (attrOfL d l nm).length = 4 ∨ lackB d l nm = true then (9, [], [])
  else (0, d, setL l nm (sortN (attrOfL d l nm ++ [val])))
theorem small_fail (c : Int) : Small (c, [], []) := ⟨by simp, by simp [cntA], by simp [FitsA]⟩
theorem attrsOwn_nil (w : World) (B : Nat) : AttrsOwn w B (.slice none 0 0) [] := ⟨[], rfl, ⟨rfl, .inl ⟨rfl, rfl⟩⟩, fun i h => by simp at h, List.Pairwise.nil⟩
theorem implOut_fail {w w' : World} {c : Int} (hb : Below w.heap.size w w') : ImplOut w (c, [], []) (.returned (failV c)) w' :=
  ⟨⟨none, 0, none, 0, rfl, ⟨rfl, .inl ⟨rfl, rfl⟩⟩, attrsOwn_nil _ _⟩, hb⟩
theorem specOut_fail {w w' : World} {c : Int} (hb : Below w.heap.size w w') : SpecOut w (c, [], []) (.returned (failV c)) w' :=
  ⟨⟨none, 0, none, 0, rfl, ⟨rfl, .inl ⟨rfl, rfl⟩⟩, [], ⟨rfl, .inl ⟨rfl, rfl⟩⟩, rfl, fun i h => by simp at h⟩, hb⟩
theorem cntA_small (T : List AttrV) (n m : Nat) (h1 : T.length ≤ n) (h2 : ∀ a ∈ T, a.2.length ≤ m) : cntA T T.length ≤ n * (1 + m) := by
  unfold cntA
  rw [List.take_length]
  have : ∀ L : List AttrV, (∀ a ∈ L, a.2.length ≤ m) → (L.map fun a => 1 + a.2.length).sum ≤ L.length * (1 + m) := fun L hL => by
    induction L with
    | nil => simp
    | cons a L ih =>
      have h1 := hL a (by simp)
      have h2 := ih (fun b hb => hL b (List.mem_cons_of_mem _ hb))
      simp only [List.map_cons, List.sum_cons, List.length_cons, Nat.add_mul, Nat.one_mul]
      omega
  exact Nat.le_trans (this T h2) (Nat.mul_le_mul_right _ h1)
theorem right_dn {d : RdnL} {l : List AttrV} (h : rightB d l = true) : d.length ≤ 6 := by
  unfold rightB dnB at h
  simp only [Bool.and_eq_true, decide_eq_true_eq] at h
  exact h.1.1.1
theorem small_set {d : RdnL} {l : List AttrV} {nm : ByteArray} {V : List ByteArray} (hr : rightB d l = true) (hf : FitsA l) (hn : nm.size ≤ 1048576) (hV : FitsV V) (h5 : V.length ≤ 12) : Small (0, d, setL l nm V) := by
  have h8 := right_eight hr
  refine ⟨right_dn hr, ?_, setL_fits hf (by omega) hn hV⟩
  have := cntA_small (setL l nm V) 9 12 (by have := setL_len l nm V; omega) (fun a ha => by
    rcases mem_setL.1 ha with ⟨h1, _⟩ | ⟨_, rfl⟩
    · have := h8.2 a h1; omega
    · exact h5)
  exact Nat.le_trans this (by omega)
theorem sortN_fits {V : List ByteArray} (h : FitsV V) : FitsV (sortN V) := ⟨by rw [sortN_len]; exact h.1, fun s hs => h.2 s ((sortN_perm V).mem_iff.1 hs)⟩
theorem addR_small {d : RdnL} {l : List AttrV} {nm val : ByteArray} (hf : FitsA l) : Small (addR d l nm val) := by
  unfold addR
  split
  · exact small_fail _
  · rename_i hc
    obtain ⟨z1, z2, z3, _, _⟩ := vcode_zero (by simpa using hc)
    split
    · exact small_fail _
    · split
      · exact small_fail _
      · have h4 := attrOf_four (d := d) (l := l) nm
        exact small_set z1 hf (by omega) (sortN_fits (fits_snoc (attrOf_fits hf nm) (by omega) (by omega))) (by rw [sortN_len]; simp; omega)
theorem ValueAdd_out (ao bo : Option Addr) (d : RdnL) (l : List AttrV) (ca cb : Nat) (nm val : ByteArray) (w : World) (hd : DnAt w ao d) (hl : AttrsAt w bo l) (hfd : Fits d) (hfl : FitsA l) (hn : nm.size ≤ maxLen) (hv : val.size ≤ maxLen) :
    Calls Tryz.prog 9 #[.agg #[.slice ao d.length ca, .slice bo l.length cb], .string nm, .string val] w (ImplOut w (addR d l nm val)) := by
  refine (ValueAdd_any ao bo d l ca cb nm val w hd hl hfd hfl hn hv).mono ?_
  rintro e w' ⟨h, hb⟩
  unfold addR
  rcases h with ⟨h1, rfl⟩ | ⟨h1, h2, rfl⟩ | ⟨h1, h2, h3, rfl⟩ | ⟨h1, h2, h3, h4, L, hp, ha, v, u, rfl, ho, hA⟩
  · rw [if_pos h1]; exact implOut_fail hb
  · rw [if_neg (by simpa using h1), if_pos h2]; exact implOut_fail hb
  · rw [if_neg (by simpa using h1), if_neg (by omega), if_pos h3]; exact implOut_fail hb
  · rw [if_neg (by simpa using h1), if_neg (by omega), if_neg (by simp [h3, h4])]
    obtain rfl := sorted_is hp ha (add_diff (vcode_zero h1).1 h2)
    obtain ⟨vo, vc, rfl⟩ := own_slice ho
    obtain ⟨uo, uc, rfl⟩ : ∃ uo uc, u = .slice uo (setL l nm (sortN (attrOfL d l nm ++ [val]))).length uc := by obtain ⟨P, _, q, _⟩ := hA; exact own_slice q
    exact ⟨⟨vo, vc, uo, uc, rfl, ho, hA⟩, hb⟩
set_option maxRecDepth 100000 in
set_option maxHeartbeats 1000000 in
theorem eqEntryOut_same (vo uo xo yo : Option Addr) (cv cu cx cy : Nat) (c : Int) (D : RdnL) (T : List AttrV) (w : World) (h1 : DnAt w vo D) (h2 : AttrsAt w uo T) (h3 : DnAt w xo D) (h4 : AttrsAt w yo T) (hD : D.length ≤ 1048576) (hT : FitsA T) :
    Calls Tryz.prog 32 #[.agg #[.slice vo D.length cv, .slice uo T.length cu, .int .i64 c], .agg #[.slice xo D.length cx, .slice yo T.length cy, .int .i64 c]] w fun e w' => e = .returned (.bool true) ∧ Below w.heap.size w w' := by
  have H1 := Lib.hid h1; have H2 := Lib.hid h2; have H3 := Lib.hid h3; have H4 := Lib.hid h4; have HT := Lib.hid hT; clear h1 h2 h3 h4 hT
  go_enter Tryz.func32, Tryz.ntmps32
  go_wp2_with fail
  refine calls_any' (fun W => Below w.heap.size w W ∧ Three W w.heap.size 30 (.slice vo D.length cv) (.slice uo T.length cu) (.int .i64 c) ∧ Three W (w.heap.size + 1) 30 (.slice xo D.length cx) (.slice yo T.length cy) (.int .i64 c)) ⟨more (more (Below.refl _ _) _) _, (heap_alloc_old _ _ (by simp)).trans (heap_alloc_new w _), threeNext w _ 30 _ _ _⟩ ?_
  rintro W ⟨hbW, t0, t1⟩
  refine (eqEntry_any vo uo xo yo D T cv cu cx cy W (H1.out.below hbW) (H2.out.below hbW) (H3.out.below hbW) (H4.out.below hbW) hD HT.out).mono ?_
  rintro e w1 ⟨rfl, hb1⟩
  have B1 := Lib.hid (hbW.trans (hb1.mono hbW.size)); have T0 := Lib.hid (t0.below hb1); have T1 := Lib.hid (t1.below hb1)
  clear hbW t0 t1 hb1
  obtain ⟨⟨_, _, k2⟩, _⟩ := T0.out.cells
  obtain ⟨⟨_, _, q2⟩, _⟩ := T1.out.cells
  have hc : (c != c) = false := by simp
  go_wp2
  go_ret
  exact ⟨rfl, B1.out⟩
end Go.Proofs.YtjajpdghamecoaaGreat
/- slices.Delete at texts, laid; one text of a row of the call's own is taken out. -/
namespace Go.Proofs
open Go.Shelf
def Tryz.laysDel_ren : Go.Shelf.Ren := ⟨fun | 46 => 51 | n => n, fun | 0 => 0 | 3 => 3 | 4 => 4 | 25 => 36 | 26 => 9 | n => n, fun | n => n⟩
theorem Tryz.laysDel : Go.Proofs.SlLaysN.n46 Tryz.prog Tryz.laysDel_ren := {
  mixed := by kernel_rfl
  f46 := ⟨Tryz.f51.name, by kernel_rfl, Tryz.func51.trans (congrArg some (by kernel_rfl))⟩
  t0 := Tryz.underlying0
  a0 := Tryz.isAgg0
  z0 := Tryz.sizeOf0
  v0 := Tryz.zeroValue0
  t3 := Tryz.underlying3
  a3 := Tryz.isAgg3
  z3 := Tryz.sizeOf3
  v3 := Tryz.zeroValue3
  t4 := Tryz.underlying4
  a4 := Tryz.isAgg4
  z4 := Tryz.sizeOf4
  v4 := Tryz.zeroValue4
  t25 := Tryz.underlying36
  a25 := Tryz.isAgg36
  z25 := Tryz.sizeOf36
  v25 := Tryz.zeroValue36
  t26 := Tryz.underlying9
  a26 := Tryz.isAgg9
  z26 := Tryz.sizeOf9
  v26 := Tryz.zeroValue9
  i26 := by kernel_rfl }
namespace YtjajpdghamecoaaGreat
open Go.RowKit Go.Sort
attribute [local go_sem ↓] Go.wp_at_zero Go.wp_at_succ

def eraseV (V : List ByteArray) (i : Nat) : List ByteArray := V.take i ++ V.drop (i + 1)
theorem eraseV_len {V : List ByteArray} {i : Nat} (h : i < V.length) : (eraseV V i).length = V.length - 1 := by unfold eraseV; rw [List.length_append, List.length_take, List.length_drop]; omega
theorem eraseV_mem {V : List ByteArray} {i : Nat} {s : ByteArray} (h : s ∈ eraseV V i) : s ∈ V := by
  unfold eraseV at h
  rcases List.mem_append.1 h with h | h
  · exact List.mem_of_mem_take h
  · exact List.mem_of_mem_drop h
theorem grown_put {w : World} {g q : Nat} (d : Array (List UInt8)) : w.grownBy (putRow encStr (Sort.ahead w q) g 0 d) (some g) := by
  refine ⟨rfl, rfl, rfl, by simp [Sort.ahead], fun k hk hne => ?_⟩
  have hkg : g ≠ k := fun e => hne (by rw [e])
  simp [putRow, mapBlock, Sort.ahead, Array.getElem?_modify, hkg]
theorem Delete_any (B g cap i : Nat) (V : List ByteArray) (w : World) (hown : w.ownsRow B 9 1 (.slice (some ⟨g, 0, none⟩) V.length cap) V.length (ss V)) (hi : i < V.length) (hb : V.length ≤ 1000000) :
    Calls Tryz.prog 51 #[.slice (some ⟨g, 0, none⟩) V.length cap, .int .i64 (i : Int), .int .i64 ((i : Int) + 1)] w fun e w' => e = .returned (.slice (some ⟨g, 0, none⟩) (V.length - 1) cap) ∧ StrsAt w' (some ⟨g, 0, none⟩) (eraseV V i) ∧ w.grownBy w' (some g) := by
  rcases hown.2 with ⟨h0, _⟩ | ⟨g', cap', cur, e, _, hk, hc1, hc2, hc3, hc4⟩
  · cases h0
  · injection e with e1 _ e3
    injection e1 with e1
    injection e1 with e1
    subst e1; subst e3
    have hH : Holds encStr w g 0 (V.map fun s : ByteArray => s.data.toList).toArray := by
      refine holds_of_block hk ?_
      rw [List.length_map, ← Nat.mul_one V.length, hc4]
      unfold ss
      rw [List.map_map]
      rfl
    have hc := AnyG.slices_Delete_string Tryz.laysDel g 0 cap i (i + 1) (V.map fun s : ByteArray => s.data.toList) w hH (by simpa using hc1) (by unfold maxLen at hc2; exact hc2) (by omega) (by rw [List.length_map]; omega)
    rw [List.length_map, show V.length - (i + 1 - i) = V.length - 1 by omega] at hc
    have hc' : Calls Tryz.prog 51 #[.slice (some ⟨g, 0, none⟩) V.length cap, .int .i64 (i : Int), .int .i64 (((i + 1 : Nat)) : Int)] w _ := hc
    rw [show (((i + 1 : Nat)) : Int) = (i : Int) + 1 by omega] at hc'
    refine hc'.mono ?_
    rintro e w' ⟨he, q, rfl⟩
    refine ⟨he, ?_, grown_put _⟩
    have hsz : ((V.map fun s : ByteArray => s.data.toList).take i ++ (V.map fun s : ByteArray => s.data.toList).drop (i + 1) ++ List.replicate (i + 1 - i) []).toArray.size = ((V.map fun s : ByteArray => s.data.toList).toArray).size := by
      simp; omega
    have hP := holds_putRow encStr (Sort.ahead w q) g 0 _ _ (holds_ahead encStr w q g 0 _ hH) hsz
    have hgl : g < w.heap.size := (Array.getElem?_eq_some_iff.1 hk).1
    refine .inr ⟨g, 0, rfl, by simp [Sort.ahead]; exact hgl, fun j hj => ?_⟩
    have hl := eraseV_len hi
    have hj' : j < V.length - 1 := by omega
    have := (hP j (by rw [hsz]; simp; omega)).1
    rw [this]
    congr 1
    have e : ((V.map fun s : ByteArray => s.data.toList).take i ++ (V.map fun s : ByteArray => s.data.toList).drop (i + 1) ++ List.replicate (i + 1 - i) []) = (eraseV V i).map (fun s : ByteArray => s.data.toList) ++ [[]] := by
      unfold eraseV
      rw [List.map_append, List.map_take, List.map_drop, show i + 1 - i = 1 by omega]; rfl
    rw [e, getElem!_pos _ _ (by simp; omega)]
    simp only [List.getElem_toArray]
    rw [List.getElem_append_left (by simpa using hj), List.getElem_map]
    try rfl
end YtjajpdghamecoaaGreat
end Go.Proofs
/- ValueDrop: the whole of the program's text. -/
namespace Go.Proofs.YtjajpdghamecoaaGreat
open Go.RowKit
attribute [local go_sem ↓] Go.wp_at_zero Go.wp_at_succ

noncomputable def dropR (d : RdnL) (l : List AttrV) (nm val : ByteArray) : OutR :=
  if vcode (rightB d l) nm val ≠ 0 then (vcode (rightB d l) nm val, [], [])
  else if findI (likeV val) (attrOfL d l nm) < 0 then (6, [], [])
  else (0, d, setL l nm (sortN (eraseV (attrOfL d l nm) (findI (likeV val) (attrOfL d l nm)).toNat)))
theorem findI_at {α : Type} {p : α → Bool} {l : List α} (h : ¬ findI p l < 0) : ∃ k, k < l.length ∧ findI p l = (k : Int) := by
  unfold findI at h ⊢
  cases hf : l.findIdx? p with
  | none => rw [hf] at h; simp at h
  | some i =>
    rw [List.findIdx?_eq_some_iff_getElem] at hf
    exact ⟨i, hf.1, rfl⟩
theorem erase_fits {V : List ByteArray} (h : FitsV V) (i : Nat) : FitsV (eraseV V i) := by
  refine ⟨?_, fun s hs => h.2 s (eraseV_mem hs)⟩
  have := h.1
  unfold eraseV; rw [List.length_append, List.length_take, List.length_drop]; omega
theorem erase_diff {V : List ByteArray} (h : Diff V) (i : Nat) : Diff (eraseV V i) := by
  refine List.Pairwise.sublist ?_ h
  unfold eraseV
  have h1 : (V.take i ++ V.drop (i + 1)).Sublist (V.take i ++ V.drop i) := by
    refine List.Sublist.append (List.Sublist.refl _) ?_
    rw [← List.drop_drop]
    exact List.drop_sublist _ _
  rwa [List.take_append_drop] at h1
theorem dropR_small {d : RdnL} {l : List AttrV} {nm val : ByteArray} (hf : FitsA l) : Small (dropR d l nm val) := by
  unfold dropR
  split
  · exact small_fail _
  · rename_i hc
    obtain ⟨z1, z2, z3, _, _⟩ := vcode_zero (by simpa using hc)
    split
    · exact small_fail _
    · have h4 := attrOf_four (d := d) (l := l) nm
      refine small_set z1 hf (by omega) (sortN_fits (erase_fits (attrOf_fits hf nm) _)) ?_
      rw [sortN_len]; unfold eraseV; rw [List.length_append, List.length_take, List.length_drop]; omega
/-- withValues of values of different norms -/
theorem withV_any (ao bo vo : Option Addr) (d : RdnL) (l : List AttrV) (V : List ByteArray) (ca cb vc : Nat) (nm : ByteArray) (w : World) (hd : DnAt w ao d) (hl : AttrsAt w bo l) (hfd : Fits d) (hfl : FitsA l) (hr : rightB d l = true) (h8 : l.length ≤ 8) (hn : nm.size ≤ 1048576) (hv : ValsAt w vo vc V) (hfv : FitsV V) (h12 : V.length ≤ 12) (hD : Diff V) :
    Calls Tryz.prog 50 #[.agg #[.slice ao d.length ca, .slice bo l.length cb], .string nm, .slice vo V.length vc] w (GivesE w d (setL l nm (sortN V))) := by
  by_cases h0 : V.length = 0
  · have hV : V = [] := List.length_eq_zero_iff.1 h0
    subst hV
    exact withNone_any ao bo vo d l ca cb vc nm w hd hl hfd hfl hr h8 hn
  · refine (withSome_any ao bo vo d l V ca cb vc nm w hd hl hfd hfl hr h8 hn hv hfv h12 (by omega)).mono ?_
    rintro e w' ⟨L, hp, ha, hg⟩
    rw [← sorted_is hp ha hD]
    exact hg
set_option maxRecDepth 100000 in
set_option maxHeartbeats 1000000 in
theorem ValueDrop_out (ao bo : Option Addr) (d : RdnL) (l : List AttrV) (ca cb : Nat) (nm val : ByteArray) (w : World) (hd : DnAt w ao d) (hl : AttrsAt w bo l) (hfd : Fits d) (hfl : FitsA l) (hn : nm.size ≤ maxLen) (hv : val.size ≤ maxLen) :
    Calls Tryz.prog 11 #[.agg #[.slice ao d.length ca, .slice bo l.length cb], .string nm, .string val] w (ImplOut w (dropR d l nm val)) := by
  have HD := Lib.hid hd; have HL := Lib.hid hl; have FD := Lib.hid hfd; have FL := Lib.hid hfl; have Hn := Lib.hid hn; have Hv := Lib.hid hv; clear hd hl hfd hfl
  have HOc : Hid (vcode (rightB d l) nm val ≠ 0 → dropR d l nm val = (vcode (rightB d l) nm val, [], [])) := Lib.hid (fun h => by unfold dropR; rw [if_pos h])
  have HO6 : Hid (vcode (rightB d l) nm val = 0 → findI (likeV val) (attrOfL d l nm) < 0 → dropR d l nm val = (6, [], [])) := Lib.hid (fun h h' => by unfold dropR; rw [if_neg (by simpa using h), if_pos h'])
  have HO0 : Hid (vcode (rightB d l) nm val = 0 → ∀ k : Nat, findI (likeV val) (attrOfL d l nm) = (k : Int) → dropR d l nm val = (0, d, setL l nm (sortN (eraseV (attrOfL d l nm) k)))) := Lib.hid (fun h k h' => by unfold dropR; rw [if_neg (by simpa using h), if_neg (by omega), h']; rfl)
  go_enter Tryz.func11, Tryz.ntmps11
  go_wp2_with fail
  refine calls_any' (fun W => Below w.heap.size w W ∧ Two W w.heap.size 26 (.slice ao d.length ca) (.slice bo l.length cb) ∧ Three W (w.heap.size + 1) 30 (.slice none 0 0) (.slice none 0 0) (.int .i64 0)) ⟨more (more (Below.refl _ _) _) _, (twoNew w 26 _ _).alloc _, threeNext w _ 30 _ _ _⟩ ?_
  rintro W ⟨hbW, t0, t1⟩
  refine (valueCode_any ao bo d l ca cb nm val W (HD.out.below hbW) (HL.out.below hbW) FD.out FL.out Hn.out Hv.out).mono ?_
  rintro e w1 ⟨rfl, hb1⟩
  have B1 := Lib.hid (hbW.trans (hb1.mono hbW.size)); have T1 := Lib.hid (t0.below hb1); have U1 := Lib.hid (t1.below hb1)
  clear hbW t0 t1 hb1
  obtain ⟨⟨p0, p1⟩, _⟩ := T1.out.cells
  obtain ⟨⟨k0, k1, k2⟩, f0, f1, f2⟩ := U1.out.cells
  by_cases hc : vcode (rightB d l) nm val = 0
  · rw [hc]
    have HC := Lib.hid hc; clear hc
    clear k0 k1 k2 f0 f1 f2
    go_wp2_with fail
    clear p0 p1
    refine (AttrOf_any ao bo d l ca cb nm w1 (HD.out.below B1.out) (HL.out.below B1.out) FD.out FL.out Hn.out).mono ?_
    rintro e w2 ⟨⟨v2, rfl, o2⟩, b2⟩
    obtain ⟨vo, vc, rfl⟩ := own_slice o2
    have B2 := Lib.hid (B1.out.trans (b2.mono B1.out.size)); have T2 := Lib.hid (T1.out.below b2); have U2 := Lib.hid (U1.out.below b2); have O2 := Lib.hid o2
    have FV := Lib.hid (attrOf_fits (d := d) FL.out nm)
    have hw1 := T1.out.lt
    have hw1' := U1.out.lt
    have HW12 : w1.heap.size ≤ w2.heap.size := b2.size
    clear b2 o2 B1 T1 U1
    go_wp2_with fail
    refine (normIndex_any vo _ vc val w2 (own_strs O2.out) FV.out Hv.out).mono ?_
    rintro e w3 ⟨rfl, b3⟩
    have B3 := Lib.hid (B2.out.trans (b3.mono B2.out.size)); have T3 := Lib.hid (T2.out.below b3); have U3 := Lib.hid (U2.out.below b3); have O3 := Lib.hid (own_below O2.out b3)
    have HW13 : w1.heap.size ≤ w3.heap.size := Nat.le_trans HW12 b3.size
    clear b3 B2 T2 U2 O2
    obtain ⟨⟨k0, k1, k2⟩, f0, f1, f2⟩ := U3.out.cells
    by_cases hi : findI (likeV val) (attrOfL d l nm) < 0
    · obtain ⟨⟨q0, q1, q2⟩, _⟩ := (((U3.out.set0 (.slice none 0 0)).set1 (.slice none 0 0)).set2 (.int .i64 6)).cells
      have HO := Lib.hid (HO6.out HC.out hi)
      clear HO6 HO0 HOc
      generalize hqe : findI (likeV val) (attrOfL d l nm) = q
      rw [hqe] at hi
      clear hqe
      go_wp2_with fail
      refine bodyPost_ret (v := failV 6) (by simp [results, Tryz.results11, go_sem, q0, q1, q2, failV]) rfl ?_
      rw [HO.out]
      exact implOut_fail (below_three B3.out _ _ _)
    · obtain ⟨k, hk, hke⟩ := findI_at hi
      have HO := Lib.hid (HO0.out HC.out k hke)
      clear HO6 HO0 HOc
      rw [hke]
      clear hi hke
      have hlv := FV.out.1
      obtain ⟨z1, z2, z3, _, _⟩ := vcode_zero HC.out
      have HZ1 := Lib.hid z1
      have h8 := (right_eight z1).1
      have hv4 := attrOf_four (d := d) (l := l) nm
      have HDf : Hid (Diff (attrOfL d l nm)) := Lib.hid (by rw [attrOf_yes z1]; exact inc_diff (vals_inc z1 nm))
      clear z1
      obtain ⟨g, rfl⟩ : ∃ g, vo = some ⟨g, 0, none⟩ := by
        rcases O3.out.2 with ⟨_, h0⟩ | ⟨g, _, _, e, _⟩
        · omega
        · injection e with e; exact ⟨g, e⟩
      have hw4 : w1.heap.size ≤ w3.heap.size := HW13
      have SK : Hid (∀ Z : World, Below w1.heap.size w3 Z → (Z.cell? ⟨w.heap.size, 0, none⟩ = some (.slice ao d.length ca) ∧ Z.cell? ⟨w.heap.size, 1, none⟩ = some (.slice bo l.length cb))) :=
        Lib.hid (fun Z h => ⟨(h.cell (p := ⟨w.heap.size, 0, none⟩) hw1).trans T3.out.cells.1.1, (h.cell (p := ⟨w.heap.size, 1, none⟩) hw1).trans T3.out.cells.1.2⟩)
      have hb0 : Below w1.heap.size w3 w3 := Below.refl _ _
      have hbd := hb0.drew
      have HDel : Hid (Calls Tryz.prog 51 #[.slice (some ⟨g, 0, none⟩) (attrOfL d l nm).length vc, .int .i64 (k : Int), .int .i64 ((k : Int) + 1)] w3.drew fun e w' => e = .returned (.slice (some ⟨g, 0, none⟩) ((attrOfL d l nm).length - 1) vc) ∧ StrsAt w' (some ⟨g, 0, none⟩) (eraseV (attrOfL d l nm) k) ∧ Below w1.heap.size w3 w') :=
        Lib.hid ((Delete_any w1.heap.size g vc k (attrOfL d l nm) w3.drew O3.out hk (by omega)).mono fun e w' ⟨h1, h2, h3⟩ => ⟨h1, h2, hbd.grown h3 hw4 (fun j hj => by injection hj with hj; subst hj; exact (O3.out.lt _ rfl).1)⟩)
      have HEl := Lib.hid (eraseV_len hk)
      have HOc := Lib.hid (own_cap O3.out)
      have HWV : Hid (∀ X : World, Below w1.heap.size w3 X → StrsAt X (some ⟨g, 0, none⟩) (eraseV (attrOfL d l nm) k) →
          Calls Tryz.prog 50 #[.agg #[.slice ao d.length ca, .slice bo l.length cb], .string nm, .slice (some ⟨g, 0, none⟩) ((attrOfL d l nm).length - 1) vc] X fun e w' => ∃ v u, e = .returned (.agg #[v, u]) ∧ w'.ownsRow w1.heap.size 97 2 v d.length (rs d) ∧ AttrsOwn w' w1.heap.size u (setL l nm (sortN (eraseV (attrOfL d l nm) k))) ∧ Below w1.heap.size w3 w') :=
        Lib.hid (fun X hX hs => by
          have hXb : Below w.heap.size w X := B3.out.trans (hX.mono (by omega))
          have := withV_any ao bo (some ⟨g, 0, none⟩) d l (eraseV (attrOfL d l nm) k) ca cb vc nm X (HD.out.below hXb) (HL.out.below hXb) FD.out FL.out HZ1.out h8 (by omega) ⟨hs, by rw [HEl.out]; have := HOc.out; omega, fun e => by cases e⟩ (erase_fits FV.out k) (by rw [HEl.out]; omega) (erase_diff HDf.out k)
          rw [HEl.out] at this
          have hXs : w1.heap.size ≤ X.heap.size := Nat.le_trans hw4 hX.size
          exact this.mono fun e w' ⟨⟨v, u, h3, h4, h5⟩, h6⟩ => ⟨v, u, h3, own_mono h4 hXs, h5.mono hXs, hX.trans (h6.mono hXs)⟩)
      have HDel' := Lib.hid HDel.out; have HWV' := Lib.hid HWV.out
      clear HDel HWV k0 k1 k2 f0 f1 f2
      generalize setL l nm (sortN (eraseV (attrOfL d l nm) k)) = T at *
      generalize eraseV (attrOfL d l nm) k = EV at *
      have hk' : k < (attrOfL d l nm).length := hk
      have hvl : (attrOfL d l nm).length ≤ 4 := hv4
      generalize (attrOfL d l nm).length = n at *
      have g0 : ¬ (k : Int) < 0 := by omega
      have hwr : IntKind.i64.wrap ((k : Int) + 1) = (k : Int) + 1 := IntWalk.i64_in _ (by omega)
      go_wp2_with fail
      refine wp_region_held_drew (S := (fun Z => Z.cell? ⟨w.heap.size, 0, none⟩ = some (.slice ao d.length ca) ∧ Z.cell? ⟨w.heap.size, 1, none⟩ = some (.slice bo l.length cb))) (by kernel_rfl) ?_ (fun hHeld => ?_)
      · (try dsimp only)
        first | exact SK.out _ (by assumption) | exact hS7 _ _ _
      refine wpAnyH_take (i := 0) (oi := { dst := some 27, op := Op.load 26 (Operand.tmp 3), type := 26, pos := "l03_entry.go:187", after := #[], guard := none }) (v := ?_) rfl (by kernel_rfl) (by kernel_rfl) (by kernel_rfl) (fun _ _ _ h => h) (Or.inl ⟨by rfl, ?_⟩) (by assumption) ?_
      rotate_left
      · intro w hSw; (try dsimp only at hSw); go_simp; (try with_reducible rfl)
      (try simp only [Act.put, List.setIfInBounds_toArray, List.set_cons_zero, List.set_cons_succ])
      refine wpAnyH_take (i := 1) (oi := { dst := some 28, op := Op.move (Operand.tmp 1), type := 9, pos := "l03_entry.go:187", after := #[], guard := none }) (v := ?_) rfl (by kernel_rfl) (by kernel_rfl) (by kernel_rfl) (fun _ _ _ h => h) (Or.inl ⟨by rfl, ?_⟩) (by assumption) ?_
      rotate_left
      · intro w hSw; (try dsimp only at hSw); go_simp; (try with_reducible rfl)
      (try simp only [Act.put, List.setIfInBounds_toArray, List.set_cons_zero, List.set_cons_succ])
      refine wpAnyH_take (i := 2) (oi := { dst := some 29, op := Op.move (Operand.tmp 8), type := 36, pos := "l03_entry.go:187", after := #[], guard := none }) (v := ?_) rfl (by kernel_rfl) (by kernel_rfl) (by kernel_rfl) (fun _ _ _ h => h) (Or.inl ⟨by rfl, ?_⟩) (by assumption) ?_
      rotate_left
      · intro w hSw; (try dsimp only at hSw); go_simp; (try with_reducible rfl)
      (try simp only [Act.put, List.setIfInBounds_toArray, List.set_cons_zero, List.set_cons_succ])
      refine wpAnyH_take (i := 3) (oi := { dst := some 30, op := Op.move (Operand.tmp 9), type := 3, pos := "l03_entry.go:187", after := #[], guard := none }) (v := ?_) rfl (by kernel_rfl) (by kernel_rfl) (by kernel_rfl) (fun _ _ _ h => h) (Or.inl ⟨by rfl, ?_⟩) (by assumption) ?_
      rotate_left
      · intro w hSw; (try dsimp only at hSw); go_simp; (try with_reducible rfl)
      (try simp only [Act.put, List.setIfInBounds_toArray, List.set_cons_zero, List.set_cons_succ])
      refine wpAnyH_take (i := 4) (oi := { dst := some 31, op := Op.move (Operand.tmp 9), type := 3, pos := "l03_entry.go:187", after := #[], guard := none }) (v := ?_) rfl (by kernel_rfl) (by kernel_rfl) (by kernel_rfl) (fun _ _ _ h => h) (Or.inl ⟨by rfl, ?_⟩) (by assumption) ?_
      rotate_left
      · intro w hSw; (try dsimp only at hSw); go_simp; (try with_reducible rfl)
      (try simp only [Act.put, List.setIfInBounds_toArray, List.set_cons_zero, List.set_cons_succ])
      refine wpAnyH_take (i := 5) (oi := { dst := some 32, op := Op.binOp BinOp.add 3 (Operand.tmp 31) (Operand.const (Value.int IntKind.i64 1)) 3, type := 3, pos := "l03_entry.go:187", after := #[{ on := 4, ground := Ground.data }], guard := none }) (v := ?_) rfl (by kernel_rfl) (by kernel_rfl) (by kernel_rfl) (fun _ _ _ h => h) (Or.inl ⟨by rfl, ?_⟩) (by assumption) ?_
      rotate_left
      · intro w hSw; (try dsimp only at hSw); go_simp; (try with_reducible rfl)
      (try simp only [Act.put, List.setIfInBounds_toArray, List.set_cons_zero, List.set_cons_succ])
      refine wpAnyH_ready (rs := [6]) (by kernel_rfl) (by simp) ?_
      refine AllReadyH.cons (o := { dst := some 33, op := Op.call { callee := Callee.value (Operand.func 51), args := #[Operand.tmp 29, Operand.tmp 30, Operand.tmp 32], argTypes := #[36, 3, 3] }, type := 36, pos := "l03_entry.go:187", after := #[{ on := 2, ground := Ground.data }, { on := 3, ground := Ground.data }, { on := 5, ground := Ground.data }], guard := none }) rfl (fun K hK => ?_) (AllReadyH.nil)
      go_simp
      refine HDel'.out.mono ?_
      rintro e w5 ⟨rfl, s5, hb5⟩
      have S5 := Lib.hid s5; clear s5
      clear hHeld
      refine hK.out _ _ ?_ (fun hHeld => ?_)
      · (try dsimp only)
        first | exact SK.out _ (by assumption) | exact hS7 _ _ _
      clear hK K
      (try simp only [Act.put, List.setIfInBounds_toArray, List.set_cons_zero, List.set_cons_succ])
      refine wpAnyH_ready (rs := [7]) (by kernel_rfl) (by simp) ?_
      refine AllReadyH.cons (o := { dst := some 34, op := Op.call { callee := Callee.value (Operand.func 50), args := #[Operand.tmp 27, Operand.tmp 28, Operand.tmp 33], argTypes := #[26, 9, 36] }, type := 26, pos := "l03_entry.go:187", after := #[{ on := 0, ground := Ground.data }, { on := 1, ground := Ground.data }, { on := 6, ground := Ground.data }, { on := 6, ground := Ground.chain }], guard := none }) rfl (fun K hK => ?_) (AllReadyH.nil)
      go_simp
      refine (HWV'.out w5 hb5 S5.out).mono ?_
      rintro e w6 ⟨v6, u6, rfl, ho6, ha6, hb6⟩
      obtain ⟨d0, dc, rfl⟩ := own_slice ho6
      obtain ⟨a0, ac, rfl⟩ : ∃ a0 ac, u6 = .slice a0 T.length ac := (by obtain ⟨P, _, h2, _⟩ := ha6; exact own_slice h2)
      have O6 := Lib.hid ho6; have A6 := Lib.hid ha6
      have U6 := Lib.hid (show Three w6 (w.heap.size + 1) 30 (.slice none 0 0) (.slice none 0 0) (.int .i64 0) from (hb6.block (w.heap.size + 1) hw1').trans U3.out)
      clear ho6 ha6
      obtain ⟨⟨k0, k1, k2⟩, f0, f1, f2⟩ := U6.out.cells
      have T6 := Lib.hid (show Two w6 w.heap.size 26 (.slice ao d.length ca) (.slice bo l.length cb) from (hb6.block w.heap.size hw1).trans T3.out)
      have hS7 : ∀ x y z : Value, (((w6.setCell ⟨w.heap.size + 1, 0, none⟩ x).setCell ⟨w.heap.size + 1, 1, none⟩ y).setCell ⟨w.heap.size + 1, 2, none⟩ z).cell? ⟨w.heap.size, 0, none⟩ = some (.slice ao d.length ca) ∧ (((w6.setCell ⟨w.heap.size + 1, 0, none⟩ x).setCell ⟨w.heap.size + 1, 1, none⟩ y).setCell ⟨w.heap.size + 1, 2, none⟩ z).cell? ⟨w.heap.size, 1, none⟩ = some (.slice bo l.length cb) := fun x y z => (((T6.out.far (by omega) x).far (by omega) y).far (by omega) z).cells.1
      clear hHeld
      refine hK.out _ _ ?_ (fun hHeld => ?_)
      · (try dsimp only)
        first | exact SK.out _ (by assumption) | exact hS7 _ _ _
      clear hK K
      (try simp only [Act.put, List.setIfInBounds_toArray, List.set_cons_zero, List.set_cons_succ])
      refine wpAnyH_take (i := 8) (oi := { dst := some 35, op := Op.build 30 #[(0, Operand.tmp 34)], type := 30, pos := "l03_entry.go:187", after := #[{ on := 7, ground := Ground.data }], guard := none }) (v := ?_) rfl (by kernel_rfl) (by kernel_rfl) (by kernel_rfl) (fun _ _ _ h => h) (Or.inl ⟨by rfl, ?_⟩) (by assumption) ?_
      rotate_left
      · intro w hSw; (try dsimp only at hSw); go_simp; (try with_reducible rfl)
      (try simp only [Act.put, List.setIfInBounds_toArray, List.set_cons_zero, List.set_cons_succ])
      refine wpAnyH_ready (rs := [9]) (by kernel_rfl) (by simp) ?_
      refine AllReadyH.cons (o := { dst := none, op := Op.store 30 (Operand.tmp 6) (Operand.tmp 35), type := 0, pos := "l03_entry.go:187", after := #[{ on := 8, ground := Ground.data }, { on := 7, ground := Ground.chain }, { on := 0, ground := Ground.phase }, { on := 1, ground := Ground.phase }, { on := 2, ground := Ground.phase }, { on := 3, ground := Ground.phase }, { on := 4, ground := Ground.phase }, { on := 5, ground := Ground.phase }, { on := 6, ground := Ground.phase }, { on := 7, ground := Ground.phase }, { on := 8, ground := Ground.phase }], guard := none }) rfl (fun K hK => ?_) (AllReadyH.nil)
      go_simp
      clear hHeld
      refine hK.out _ _ ?_ (fun hHeld => ?_)
      · (try dsimp only)
        first | exact SK.out _ (by assumption) | exact hS7 _ _ _
      clear hK K
      (try simp only [Act.put, List.setIfInBounds_toArray, List.set_cons_zero, List.set_cons_succ])
      refine wpAnyH_done (by kernel_rfl) ?_ _
      obtain ⟨⟨q0, q1, q2⟩, _⟩ := (((U6.out.set0 (.slice d0 d.length dc)).set1 (.slice a0 T.length ac)).set2 (.int .i64 0)).cells
      have B6 := Lib.hid (B3.out.trans (hb6.mono (by omega)))
      clear k0 k1 k2 f0 f1 f2 hS7 SK hbd hb0 hb5 hb6 hHeld
      go_wp2_with fail
      refine bodyPost_ret (v := .agg #[.slice d0 d.length dc, .slice a0 T.length ac, .int .i64 0]) (by simp [results, Tryz.results11, go_sem, q0, q1, q2]) rfl ?_
      rw [HO.out]
      refine ⟨⟨d0, dc, a0, ac, rfl, ?_, ?_⟩, below_three B6.out _ _ _⟩
      · exact own_mono (own_cellOut (own_cellOut (own_cellOut O6.out (by omega)) (by omega)) (by omega)) (by omega)
      · exact (((A6.out.cellOut (by omega)).cellOut (by omega)).cellOut (by omega)).mono (by omega)
  · obtain ⟨⟨q0, q1, q2⟩, _⟩ := (((U1.out.set0 (.slice none 0 0)).set1 (.slice none 0 0)).set2 (.int .i64 (vcode (rightB d l) nm val))).cells
    have HO := Lib.hid (HOc.out hc)
    have hc' : (vcode (rightB d l) nm val != 0) = true := by simpa using hc
    clear hc HO6 HO0 HOc
    generalize hce : vcode (rightB d l) nm val = c at *
    clear hce
    go_wp2_with fail
    refine bodyPost_ret (v := failV c) (by simp [results, Tryz.results11, go_sem, q0, q1, q2, failV]) rfl ?_
    rw [HO.out]
    exact implOut_fail (below_three B1.out _ _ _)
end Go.Proofs.YtjajpdghamecoaaGreat
/- What FnEntry says, as plain facts. -/
namespace Go.Proofs.YtjajpdghamecoaaGreat
open Go.RowKit

theorem nmL_pos {nm : ByteArray} (h : nmL nm = true) : True := trivial
theorem right_attr {d : RdnL} {l : List AttrV} (h : rightB d l = true) {a : AttrV} (ha : a ∈ l) : attrB a = true := by
  unfold rightB attrsB at h
  simp only [Bool.and_eq_true, List.all_eq_true] at h
  exact h.2.1.2 a ha
theorem atN_mem {l : List AttrV} {a : AttrV} (hp : ∀ i j (hi : i < l.length) (hj : j < l.length), i < j → l[i].1 ≠ l[j].1) (ha : a ∈ l) : valsOf l a.1 = a.2 := by
  obtain ⟨i, hi, rfl⟩ := List.getElem_of_mem ha
  have : atN l l[i].1 = some i := by
    unfold atN
    rw [List.findIdx?_eq_some_iff_getElem]
    exact ⟨hi, by simp, fun j hj => by simpa using hp j i (by omega) hi hj⟩
  obtain ⟨_, _, h2, _⟩ := atN_some this
  exact h2
theorem inc_apart {l : List AttrV} (h : incB nameLt l = true) : ∀ i j (hi : i < l.length) (hj : j < l.length), i < j → l[i].1 ≠ l[j].1 := fun i j hi hj hij =>
  nameLt_ne (inc_far nameLt_trans h i j hi hj hij)
theorem valsOf_none {l : List AttrV} {nm : ByteArray} (h : ∀ a ∈ l, a.1 ≠ nm) : valsOf l nm = [] := by
  cases ha : atN l nm with
  | none => exact (atN_none ha).2
  | some i =>
    obtain ⟨hi, h1, _, _⟩ := atN_some ha
    exact absurd h1 (h _ (List.getElem_mem hi))
/-- the values of the attribute that was set -/
theorem valsOf_setL {l : List AttrV} (h : incB nameLt l = true) (nm : ByteArray) (V : List ByteArray) : valsOf (setL l nm V) nm = V := by
  by_cases hV : V = []
  · subst hV
    exact valsOf_none fun a ha => by
      rcases mem_setL.1 ha with ⟨_, h1⟩ | ⟨h1, _⟩
      · exact h1
      · exact absurd rfl h1
  · exact atN_mem (a := (nm, V)) (inc_apart (inc_setL h nm V)) (mem_setL.2 (.inr ⟨hV, rfl⟩))
/-- set twice: the last counts -/
theorem setL_setL {l : List AttrV} (h : incB nameLt l = true) (nm : ByteArray) (V W : List ByteArray) : setL (setL l nm V) nm W = setL l nm W := by
  have h1 := inc_setL (inc_setL h nm V) nm W
  have h2 := inc_setL h nm W
  refine inc_unique nameLt_irrefl nameLt_trans h1 h2 ?_
  have nd : ∀ L : List AttrV, incB nameLt L = true → L.Nodup := fun L hL => by
    rw [List.nodup_iff_pairwise_ne]
    exact (inc_pair hL).imp fun h e => by subst e; rw [nameLt_irrefl] at h; cases h
  rw [List.perm_ext_iff_of_nodup (nd _ h1) (nd _ h2)]
  intro a
  rw [mem_setL, mem_setL, mem_setL]
  constructor
  · rintro (⟨h3 | ⟨_, rfl⟩, h4⟩ | h3)
    · exact .inl h3
    · exact absurd rfl h4
    · exact .inr h3
  · rintro (⟨h3, h4⟩ | h3)
    · exact .inl ⟨.inl ⟨h3, h4⟩, h4⟩
    · exact .inr h3
/-- an attribute set to what it was -/
theorem setL_self {l : List AttrV} (h : incB nameLt l = true) (hne : ∀ a ∈ l, a.2 ≠ []) (nm : ByteArray) : setL l nm (valsOf l nm) = l := by
  have h1 := inc_setL h nm (valsOf l nm)
  refine inc_unique nameLt_irrefl nameLt_trans h1 h ?_
  have nd : ∀ L : List AttrV, incB nameLt L = true → L.Nodup := fun L hL => by
    rw [List.nodup_iff_pairwise_ne]
    exact (inc_pair hL).imp fun h e => by subst e; rw [nameLt_irrefl] at h; cases h
  rw [List.perm_ext_iff_of_nodup (nd _ h1) (nd _ h)]
  intro a
  rw [mem_setL]
  constructor
  · rintro (⟨h3, _⟩ | ⟨h3, rfl⟩)
    · exact h3
    · cases hat : atN l nm with
      | none => rw [(atN_none hat).2] at h3; exact absurd rfl h3
      | some i =>
        obtain ⟨hi, e1, e2, _⟩ := atN_some hat
        rw [e2, ← e1]; exact List.getElem_mem hi
  · intro ha
    by_cases e : a.1 = nm
    · right
      have e2 := atN_mem (inc_apart h) ha
      rw [e] at e2
      refine ⟨by rw [e2]; exact hne a ha, ?_⟩
      rw [e2, ← e]
    · exact .inl ⟨ha, e⟩
theorem filter_three {α : Type} (p q r : α → Bool) (h1 : ∀ a, p a = true → q a = false ∧ r a = false) (h2 : ∀ a, q a = true → r a = false) (l : List α) : (l.filter p).length + (l.filter q).length + (l.filter r).length ≤ l.length := by
  induction l with
  | nil => simp
  | cons a l ih =>
    simp only [List.filter_cons]
    cases hp : p a
    · cases hq : q a
      · cases hr : r a <;> simp <;> omega
      · have := h2 a hq
        rw [this]; simp; omega
    · obtain ⟨e1, e2⟩ := h1 a hp
      rw [e1, e2]; simp; omega
/-- the length of what is set -/
theorem setL_le {l : List AttrV} {nm : ByteArray} {V : List ByteArray} (hin : ∃ a ∈ l, a.1 = nm) : (setL l nm V).length ≤ l.length := by
  obtain ⟨a, ha, e⟩ := hin
  have hno : ∀ b c : AttrV, nameLt b c = true → nameLt c b = false := fun b c hb => by
    cases hx : nameLt c b with
    | false => rfl
    | true => have := nameLt_trans _ _ _ hb hx; rw [nameLt_irrefl] at this; cases this
  have h3 := filter_three (fun b : AttrV => nameLt b (nm, V)) (fun b => nameLt (nm, V) b) (fun b => decide (b.1 = nm)) (fun b hb => ⟨hno _ _ hb, decide_eq_false (nameLt_ne hb)⟩) (fun b hb => decide_eq_false (fun e => nameLt_ne hb e.symm)) l
  have h4 : 0 < (l.filter (fun b => decide (b.1 = nm))).length := List.length_pos_iff.2 (fun h => by
    have : a ∈ l.filter (fun b => decide (b.1 = nm)) := List.mem_filter.2 ⟨ha, decide_eq_true e⟩
    rw [h] at this; simp at this)
  unfold setL
  rw [List.length_append, List.length_append]
  have : (if V = [] then ([] : List AttrV) else [(nm, V)]).length ≤ 1 := by split <;> simp
  omega
/-- what is set well is right -/
theorem right_setL {d : RdnL} {l : List AttrV} {nm : ByteArray} {V : List ByteArray} (hr : rightB d l = true) (hn : nmL nm = true) (h8 : (setL l nm V).length ≤ 8) (hV : V ≠ [] → valsB V = true) : rightB d (setL l nm V) = true := by
  have hinc := inc_setL (right_inc hr) nm V
  have hall : (setL l nm V).all attrB = true := by
    rw [List.all_eq_true]
    intro a ha
    rcases mem_setL.1 ha with ⟨h1, _⟩ | ⟨h1, rfl⟩
    · exact right_attr hr h1
    · unfold attrB; rw [hn, hV h1]; rfl
  unfold rightB attrsB at hr ⊢
  simp only [Bool.and_eq_true, decide_eq_true_eq] at hr ⊢
  exact ⟨hr.1, ⟨h8, hall⟩, hinc⟩
theorem right_vals {d : RdnL} {l : List AttrV} (hr : rightB d l = true) (nm : ByteArray) : (valsOf l nm).all valB = true ∧ (valsOf l nm).length ≤ 4 ∧ incB normLt (valsOf l nm) = true := by
  refine ⟨?_, ?_, vals_inc hr nm⟩
  · rw [List.all_eq_true]; exact fun v hv => by
      cases ha : atN l nm with
      | none => rw [(atN_none ha).2] at hv; simp at hv
      | some i =>
        obtain ⟨hi, _, h2, _⟩ := atN_some ha
        rw [h2] at hv
        have := right_attr hr (List.getElem_mem hi)
        unfold attrB valsB at this
        simp only [Bool.and_eq_true, List.all_eq_true] at this
        exact this.2.1.2 v hv
  · have := attrOf_four (d := d) (l := l) nm
    rwa [attrOf_yes hr] at this
theorem valsB_sort {V : List ByteArray} (hall : V.all valB = true) (h1 : 1 ≤ V.length) (h4 : V.length ≤ 4) (hd : Diff V) : valsB (sortN V) = true := by
  have hl := sortN_len V
  have ha : (sortN V).all valB = true := by
    rw [List.all_eq_true] at hall ⊢
    exact fun s hs => hall s ((sortN_perm V).mem_iff.1 hs)
  unfold valsB
  simp only [Bool.and_eq_true, decide_eq_true_eq]
  exact ⟨⟨⟨by omega, by omega⟩, ha⟩, incB_norm (sortN_inc hd)⟩
theorem sortN_sorted {V : List ByteArray} (h : incB normLt V = true) : sortN V = V :=
  inc_unique normLt_irrefl normLt_trans (incB_norm (sortN_inc (inc_diff h))) h (sortN_perm V)
theorem lack_in {d : RdnL} {l : List AttrV} {nm : ByteArray} {V : List ByteArray} (hr : rightB d l = true) (hk : lackB d l nm = false) : (setL l nm V).length ≤ 8 := by
  have h8 := (right_eight hr).1
  unfold lackB at hk
  rw [attrOf_yes hr] at hk
  by_cases h : l.length = 8
  · rw [decide_eq_true h, Bool.true_and] at hk
    have hne : valsOf l nm ≠ [] := fun e => by rw [e] at hk; cases hk
    have hin : ∃ a ∈ l, a.1 = nm := by
      cases ha : atN l nm with
      | none => exact absurd (atN_none ha).2 hne
      | some i =>
        obtain ⟨hi, h1, _, _⟩ := atN_some ha
        exact ⟨_, List.getElem_mem hi, h1⟩
    have := setL_le (V := V) hin
    omega
  · have := setL_len l nm V
    omega
theorem find_is {α : Type} {p : α → Bool} {l : List α} {k : Nat} (h : findI p l = (k : Int)) : ∃ hk : k < l.length, p l[k] = true := by
  unfold findI at h
  cases hf : l.findIdx? p with
  | none => rw [hf] at h; simp only at h; omega
  | some i =>
    rw [hf] at h
    simp only at h
    have e : i = k := by omega
    subst e
    rw [List.findIdx?_eq_some_iff_getElem] at hf
    exact ⟨hf.1, hf.2.1⟩
theorem find_mem {V : List ByteArray} {val : ByteArray} (h : val ∈ V) : 0 ≤ findI (likeV val) V := by
  apply Classical.byContradiction
  intro hn
  have := findI_miss (by omega : findI (likeV val) V < 0) val h
  unfold likeV normEq at this
  simp at this
/-- where the value stands, and that it alone is left out -/
theorem erase_add {V : List ByteArray} {val : ByteArray} {k : Nat} (hinc : incB normLt V = true) (hm : findI (likeV val) V < 0) (hk : findI (likeV val) (sortN (V ++ [val])) = (k : Int)) : eraseV (sortN (V ++ [val])) k = V := by
  have hD : Diff (V ++ [val]) := by
    unfold Diff
    rw [List.pairwise_append]
    exact ⟨inc_diff hinc, by simp, fun a ha b hb => by simp at hb; subst hb; exact findI_miss hm a ha⟩
  have hi := sortN_inc hD
  -- the element at k is the value
  obtain ⟨hk1, hk2⟩ := find_is hk
  have hmem : (sortN (V ++ [val]))[k] ∈ V ++ [val] := (sortN_perm _).mem_iff.1 (List.getElem_mem hk1)
  have hval : (sortN (V ++ [val]))[k] = val := by
    rcases List.mem_append.1 hmem with h | h
    · have := findI_miss hm _ h; rw [hk2] at this; cases this
    · simpa using h
  have hsplit : sortN (V ++ [val]) = (sortN (V ++ [val])).take k ++ val :: (sortN (V ++ [val])).drop (k + 1) := by
    have h1 := List.take_append_drop k (sortN (V ++ [val]))
    rw [List.drop_eq_getElem_cons hk1, hval] at h1
    exact h1.symm
  have hperm : (eraseV (sortN (V ++ [val])) k).Perm V := by
    have h1 : (val :: eraseV (sortN (V ++ [val])) k).Perm (val :: V) := by
      refine (List.Perm.trans ?_ (sortN_perm (V ++ [val]))).trans (List.perm_append_comm (l₁ := V) (l₂ := [val]))
      unfold eraseV
      refine List.perm_middle.symm.trans ?_
      rw [← hsplit]
    exact List.Perm.cons_inv h1
  refine inc_unique normLt_irrefl normLt_trans (incB_norm ?_) hinc hperm
  refine List.Pairwise.sublist ?_ hi
  unfold eraseV
  have h1 : ((sortN (V ++ [val])).take k ++ (sortN (V ++ [val])).drop (k + 1)).Sublist ((sortN (V ++ [val])).take k ++ (sortN (V ++ [val])).drop k) := by
    refine List.Sublist.append (List.Sublist.refl _) ?_
    rw [← List.drop_drop]
    exact List.drop_sublist _ _
  rwa [List.take_append_drop] at h1
/-- a value that was added: it is there, it was not, and dropping it restores the entry -/
theorem add_back {d D : RdnL} {l T : List AttrV} {nm val : ByteArray} (h : addR d l nm val = (0, D, T)) : D = d ∧ rightB d l = true ∧ rightB d T = true ∧ hasB d T nm val = true ∧ hasB d l nm val = false ∧ dropR d T nm val = (0, d, l) := by
  unfold addR at h
  split at h
  · rename_i hc; injection h with h _; exact absurd h hc
  · rename_i hc
    have hc0 : vcode (rightB d l) nm val = 0 := by simpa using hc
    split at h
    · cases h
    · rename_i hi
      split at h
      · cases h
      · rename_i hf
        obtain ⟨z1, z2, z3, z4, z5⟩ := vcode_zero hc0
        rw [attrOf_yes z1] at hi hf h
        have hm : findI (likeV val) (valsOf l nm) < 0 := by omega
        obtain ⟨v1, v2, v3⟩ := right_vals z1 nm
        have hD : Diff (valsOf l nm ++ [val]) := by
          unfold Diff
          rw [List.pairwise_append]
          exact ⟨inc_diff v3, by simp, fun a ha b hb => by simp at hb; subst hb; exact findI_miss hm a ha⟩
        have hl4 : (valsOf l nm).length ≠ 4 := fun e => hf (.inl e)
        have hlack : lackB d l nm = false := by
          cases hx : lackB d l nm with
          | false => rfl
          | true => exact absurd (.inr hx) hf
        injection h with _ h
        injection h with e1 e2
        subst e1; subst e2
        have hvB : valsB (sortN (valsOf l nm ++ [val])) = true := valsB_sort (by rw [List.all_append, v1]; simp [z5]) (by simp) (by simp; omega) hD
        have hT := right_setL (V := sortN (valsOf l nm ++ [val])) z1 z4 (lack_in z1 hlack) (fun _ => hvB)
        have hvT := valsOf_setL (right_inc z1) nm (sortN (valsOf l nm ++ [val]))
        have hfnd : 0 ≤ findI (likeV val) (sortN (valsOf l nm ++ [val])) := find_mem ((sortN_perm _).mem_iff.2 (by simp))
        refine ⟨rfl, z1, hT, ?_, ?_, ?_⟩
        · unfold hasB; rw [attrOf_yes hT, hvT]; exact decide_eq_true hfnd
        · unfold hasB; rw [attrOf_yes z1]; exact decide_eq_false (by omega)
        · obtain ⟨k, hk⟩ := Int.eq_ofNat_of_zero_le hfnd
          have hvc : vcode (rightB d (setL l nm (sortN (valsOf l nm ++ [val])))) nm val = 0 := by
            rw [hT, ← z1]; exact hc0
          unfold dropR
          rw [if_neg (by rw [hvc]; simp), attrOf_yes hT, hvT, if_neg (by omega), hk, Int.toNat_natCast, erase_add v3 hm hk, sortN_sorted v3, setL_setL (right_inc z1)]
          rw [setL_self (right_inc z1) (fun a ha e => by
            have := right_attr z1 ha
            unfold attrB valsB at this
            rw [e] at this; simp at this)]
/-- a value that was dropped is not dropped again -/
theorem drop_twice {d D : RdnL} {l T : List AttrV} {nm val : ByteArray} (h : dropR d l nm val = (0, D, T)) : D = d ∧ hasB d T nm val = false ∧ dropR d T nm val = (6, [], []) := by
  unfold dropR at h
  split at h
  · rename_i hc; injection h with h _; exact absurd h hc
  · rename_i hc
    have hc0 : vcode (rightB d l) nm val = 0 := by simpa using hc
    split at h
    · cases h
    · rename_i hi
      obtain ⟨z1, z2, z3, z4, z5⟩ := vcode_zero hc0
      rw [attrOf_yes z1] at hi h
      obtain ⟨v1, v2, v3⟩ := right_vals z1 nm
      injection h with _ h
      injection h with e1 e2
      subst e1; subst e2
      obtain ⟨k, hk, hke⟩ := findI_at hi
      rw [hke, Int.toNat_natCast]
      have hE : Diff (eraseV (valsOf l nm) k) := erase_diff (inc_diff v3) k
      obtain ⟨_, hlk⟩ := find_is hke
      have hmiss : findI (likeV val) (sortN (eraseV (valsOf l nm) k)) < 0 := by
        rw [findI_none]
        · omega
        · intro i hi'
          have hm := (sortN_perm _).mem_iff.1 (List.getElem_mem hi')
          have hd := inc_diff v3
          cases hx : likeV val (sortN (eraseV (valsOf l nm) k))[i] with
          | false => rfl
          | true =>
            exfalso
            generalize (sortN (eraseV (valsOf l nm) k))[i] = y at hm hx
            have hy : normEq y (valsOf l nm)[k] = true := by
              unfold likeV at hx hlk
              unfold normEq at hx hlk ⊢
              rw [beq_iff_eq] at hx hlk ⊢
              rw [hx, hlk]
            have hd' : Diff ((valsOf l nm).take k ++ (valsOf l nm)[k] :: (valsOf l nm).drop (k + 1)) := by rw [← List.drop_eq_getElem_cons hk, List.take_append_drop]; exact hd
            unfold Diff at hd'
            rw [List.pairwise_append] at hd'
            unfold eraseV at hm
            rcases List.mem_append.1 hm with h1 | h1
            · have := hd'.2.2 y h1 (valsOf l nm)[k] List.mem_cons_self
              rw [hy] at this; cases this
            · have := (List.pairwise_cons.1 hd'.2.1).1 y h1
              have := normEq_symm this
              rw [hy] at this; cases this
      have hln : (setL l nm (sortN (eraseV (valsOf l nm) k))).length ≤ 8 := by
        have h8 := (right_eight z1).1
        have hin : ∃ a ∈ l, a.1 = nm := by
          cases ha : atN l nm with
          | none => rw [(atN_none ha).2] at hk; simp at hk
          | some i =>
            obtain ⟨hi, h1, _, _⟩ := atN_some ha
            exact ⟨_, List.getElem_mem hi, h1⟩
        exact Nat.le_trans (setL_le hin) h8
      have hT := right_setL (V := sortN (eraseV (valsOf l nm) k)) z1 z4 hln (fun hne => valsB_sort (by
          rw [List.all_eq_true] at v1 ⊢
          exact fun s hs => v1 s (eraseV_mem hs)) (by
          have : sortN (eraseV (valsOf l nm) k) ≠ [] := hne
          have h1 := List.length_pos_iff.2 this
          rw [sortN_len] at h1; omega) (by rw [eraseV_len hk]; omega) hE)
      have hvT := valsOf_setL (right_inc z1) nm (sortN (eraseV (valsOf l nm) k))
      refine ⟨rfl, ?_, ?_⟩
      · unfold hasB; rw [attrOf_yes hT, hvT]; exact decide_eq_false (by omega)
      · unfold dropR
        have hvc : vcode (rightB d (setL l nm (sortN (eraseV (valsOf l nm) k)))) nm val = 0 := by rw [hT, ← z1]; exact hc0
        rw [if_neg (by rw [hvc]; simp), attrOf_yes hT, hvT, if_pos hmiss]
end Go.Proofs.YtjajpdghamecoaaGreat
/- Two names that are equal: what the laws' comparison returns. -/
namespace Go.Proofs.YtjajpdghamecoaaGreat
open Go.RowKit

theorem neqSame (A V : ByteArray) (W : World) : (binOp .neq 97 (.agg #[.string A, .string V]) (.agg #[.string A, .string V])).run Tryz.prog W = .ok (.bool false) W := by
  rw [neq39]; simp
set_option maxRecDepth 100000 in
set_option maxHeartbeats 1000000 in
theorem lwDn_same (ao bo : Option Addr) (d : RdnL) (ca cb : Nat) (w : World) (hda : DnAt w ao d) (hdb : DnAt w bo d) (hl : d.length ≤ 1048576) :
    Calls Tryz.prog 97 #[.slice ao d.length ca, .slice bo d.length cb] w fun e w' => e = .returned (.bool true) ∧ Below w.heap.size w w' := by
  have HA := Lib.hid hda; have HB := Lib.hid hdb; clear hda hdb
  go_enter Tryz.func97, Tryz.ntmps97
  go_wp2
  go_loopw [5] (fun i wr => ∃ k : Nat, k ≤ d.length ∧ i = .int .i64 k ∧ Below w.heap.size w wr) (fun i _ => d.length - (intOf i).toNat)
  case atStart => exact ⟨0, Nat.zero_le _, rfl, Below.refl _ _⟩
  case round =>
    obtain ⟨k, hk, rfl, hbel⟩ := hrel
    have hsz := hbel.size
    by_cases hlt : k < d.length
    · obtain ⟨p, off, rfl, hp0, hd1, hd2⟩ := HA.out.at hlt
      obtain ⟨q, off', rfl, hq0, he1, he2⟩ := HB.out.at hlt
      have hnq := neqSame d[k].1 d[k].2
      generalize d[k].1 = A at *
      generalize d[k].2 = V at *
      have SK : Hid (∀ W : World, Below w.heap.size w W → (Below w.heap.size w W ∧ W.cell? ⟨p, off + k * 2, none⟩ = some (.string A) ∧ W.cell? ⟨p, off + k * 2 + 1, none⟩ = some (.string V) ∧ W.cell? ⟨q, off' + k * 2, none⟩ = some (.string A) ∧ W.cell? ⟨q, off' + k * 2 + 1, none⟩ = some (.string V))) :=
        Lib.hid (fun W h => ⟨h, (h.cell (p := ⟨p, _, none⟩) hp0).trans hd1, (h.cell (p := ⟨p, _, none⟩) hp0).trans hd2, (h.cell (p := ⟨q, _, none⟩) hq0).trans he1, (h.cell (p := ⟨q, _, none⟩) hq0).trans he2⟩)
      have hbd := hbel.drew
      clear hd1 hd2 he1 he2
      have g1 : (0 : Int) ≤ (k : Int) := by omega
      have g2 : (k : Int) < (d.length : Int) := by omega
      go_wp2_with fail
      go_region_held3 (fun W => Below w.heap.size w W ∧ W.cell? ⟨p, off + k * 2, none⟩ = some (.string A) ∧ W.cell? ⟨p, off + k * 2 + 1, none⟩ = some (.string V) ∧ W.cell? ⟨q, off' + k * 2, none⟩ = some (.string A) ∧ W.cell? ⟨q, off' + k * 2 + 1, none⟩ = some (.string V))
        (exact SK.out _ (by assumption))
        (first | (fail "none"))
      all_goals
        go_wp2
        go_roundw
        case rel => exact ⟨k + 1, by omega, by go_num, by assumption⟩
        case measure => simp [intOf]; omega
    · go_wp2
      go_ret
      exact ⟨rfl, hbel⟩
end Go.Proofs.YtjajpdghamecoaaGreat
/- The laws' comparisons of entries: equal ones compare true. -/
namespace Go.Proofs.YtjajpdghamecoaaGreat
open Go.RowKit
attribute [local go_sem ↓] Go.wp_at_zero Go.wp_at_succ

set_option maxRecDepth 100000 in
set_option maxHeartbeats 1000000 in
theorem lwTexts_same (ao bo : Option Addr) (d : List ByteArray) (ca cb : Nat) (w : World) (hda : StrsAt w ao d) (hdb : StrsAt w bo d) (hl : d.length ≤ 1048576) :
    Calls Tryz.prog 27 #[.slice ao d.length ca, .slice bo d.length cb] w fun e w' => e = .returned (.bool true) ∧ Below w.heap.size w w' := by
  have HA := Lib.hid hda; have HB := Lib.hid hdb; clear hda hdb
  go_enter Tryz.func27, Tryz.ntmps27
  go_wp2
  go_loopw [5] (fun i wr => ∃ k : Nat, k ≤ d.length ∧ i = .int .i64 k ∧ Below w.heap.size w wr) (fun i _ => d.length - (intOf i).toNat)
  case atStart => exact ⟨0, Nat.zero_le _, rfl, Below.refl _ _⟩
  case round =>
    obtain ⟨k, hk, rfl, hbel⟩ := hrel
    have hsz := hbel.size
    by_cases hlt : k < d.length
    · obtain ⟨p, off, rfl, hp0, hd1⟩ := HA.out.at hlt
      obtain ⟨q, off', rfl, hq0, he1⟩ := HB.out.at hlt
      generalize d[k] = A at *
      have c1 := (hbel.cell (p := ⟨p, off + k, none⟩) hp0).trans hd1
      have c2 := (hbel.cell (p := ⟨q, off' + k, none⟩) hq0).trans he1
      have hkk : (A.toList == A.toList) = true := by simp
      clear hd1 he1
      have g1 : (0 : Int) ≤ (k : Int) := by omega
      have g2 : (k : Int) < (d.length : Int) := by omega
      have hbd := hbel.drew
      have c1' : wr.drew.cell? ⟨p, off + k, none⟩ = some (.string A) := c1
      have c2' : wr.drew.cell? ⟨q, off' + k, none⟩ = some (.string A) := c2
      go_wp2_with fail
      go_region_held3 (fun W => Below w.heap.size w W ∧ W.cell? ⟨p, off + k, none⟩ = some (.string A) ∧ W.cell? ⟨q, off' + k, none⟩ = some (.string A))
        (first | exact ⟨hbel, c1, c2⟩ | exact ⟨hbd, c1', c2'⟩)
        (fail "none")
      all_goals
        go_wp2
        go_roundw
        case rel => exact ⟨k + 1, by omega, by go_num, by first | exact hbel | exact hbd⟩
        case measure => simp [intOf]; omega
    · go_wp2
      go_ret
      exact ⟨rfl, hbel⟩
theorem lwTexts_from (w0 : World) (ao bo : Option Addr) (d : List ByteArray) (ca cb : Nat) (w : World) (hB : Below w0.heap.size w0 w) (hda : StrsAt w0 ao d) (hdb : StrsAt w0 bo d) (hl : d.length ≤ 1048576) :
    Calls Tryz.prog 27 #[.slice ao d.length ca, .slice bo d.length cb] w fun e w' => e = .returned (.bool true) ∧ Below w0.heap.size w0 w' :=
  (lwTexts_same ao bo d ca cb w (hda.below hB) (hdb.below hB) hl).mono fun _ _ ⟨a, b⟩ => ⟨a, hB.trans (b.mono hB.size)⟩
set_option maxRecDepth 100000 in
set_option maxHeartbeats 1000000 in
theorem lwAttrs_same (ao bo : Option Addr) (d : List AttrV) (ca cb : Nat) (w : World) (hda : AttrsAt w ao d) (hdb : AttrsAt w bo d) (hf : FitsA d) :
    Calls Tryz.prog 98 #[.slice ao d.length ca, .slice bo d.length cb] w fun e w' => e = .returned (.bool true) ∧ Below w.heap.size w w' := by
  have hl := hf.1
  have HA := Lib.hid hda; have HB := Lib.hid hdb; have HF := Lib.hid hf; clear hda hdb hf
  go_enter Tryz.func98, Tryz.ntmps98
  go_wp2
  go_loopw [5] (fun i wr => ∃ k : Nat, k ≤ d.length ∧ i = .int .i64 k ∧ Below w.heap.size w wr) (fun i _ => d.length - (intOf i).toNat)
  case atStart => exact ⟨0, Nat.zero_le _, rfl, Below.refl _ _⟩
  case round =>
    obtain ⟨k, hk, rfl, hbel⟩ := hrel
    have hsz := hbel.size
    by_cases hlt : k < d.length
    · obtain ⟨p, off, vo, vc, rfl, hp0, hd1, hd2, hv⟩ := HA.out.at hlt
      obtain ⟨q, off', uo, uc, rfl, hq0, he1, he2, hu⟩ := HB.out.at hlt
      have hz := (HF.out.at hlt).2.1
      have HV := Lib.hid hv.1; have HU := Lib.hid hu.1; clear hv hu
      generalize d[k].1 = A at *
      generalize d[k].2 = V at *
      have SK : Hid (∀ W : World, Below w.heap.size w W → (Below w.heap.size w W ∧ W.cell? ⟨p, off + k * 2, none⟩ = some (.string A) ∧ W.cell? ⟨p, off + k * 2 + 1, none⟩ = some (.slice vo V.length vc) ∧ W.cell? ⟨q, off' + k * 2, none⟩ = some (.string A) ∧ W.cell? ⟨q, off' + k * 2 + 1, none⟩ = some (.slice uo V.length uc))) :=
        Lib.hid (fun W h => ⟨h, (h.cell (p := ⟨p, _, none⟩) hp0).trans hd1, (h.cell (p := ⟨p, _, none⟩) hp0).trans hd2, (h.cell (p := ⟨q, _, none⟩) hq0).trans he1, (h.cell (p := ⟨q, _, none⟩) hq0).trans he2⟩)
      have hbd := hbel.drew
      clear hd1 hd2 he1 he2
      have g1 : (0 : Int) ≤ (k : Int) := by omega
      have g2 : (k : Int) < (d.length : Int) := by omega
      go_wp2_with fail
      go_region_held3 (fun W => Below w.heap.size w W ∧ W.cell? ⟨p, off + k * 2, none⟩ = some (.string A) ∧ W.cell? ⟨p, off + k * 2 + 1, none⟩ = some (.slice vo V.length vc) ∧ W.cell? ⟨q, off' + k * 2, none⟩ = some (.string A) ∧ W.cell? ⟨q, off' + k * 2 + 1, none⟩ = some (.slice uo V.length uc))
        (exact SK.out _ (by assumption))
        (first | (go_at_call 27; refine (lwTexts_from w _ _ V _ _ _ (by assumption) HV.out HU.out hz).mono ?_; rintro e w2 ⟨rfl, hb2⟩) | (fail "none"))
      all_goals
        go_wp2
        go_roundw
        case rel => exact ⟨k + 1, by omega, by go_num, hb2⟩
        case measure => simp [intOf]; omega
    · go_wp2
      go_ret
      exact ⟨rfl, hbel⟩
set_option maxRecDepth 100000 in
set_option maxHeartbeats 1000000 in
theorem lwEntry_same (ao bo xo yo : Option Addr) (d : RdnL) (l : List AttrV) (ca cb cx cy : Nat) (w : World) (hv1 : DnAt w ao d) (hv2 : AttrsAt w bo l) (hu1 : DnAt w xo d) (hu2 : AttrsAt w yo l) (hd : d.length ≤ 1048576) (hf : FitsA l) :
    Calls Tryz.prog 52 #[.agg #[.slice ao d.length ca, .slice bo l.length cb], .agg #[.slice xo d.length cx, .slice yo l.length cy]] w fun e w' => e = .returned (.bool true) ∧ Below w.heap.size w w' := by
  have HV1 := Lib.hid hv1; have HV2 := Lib.hid hv2; have HU1 := Lib.hid hu1; have HU2 := Lib.hid hu2; have HF := Lib.hid hf
  clear hv1 hv2 hu1 hu2 hf
  go_enter Tryz.func52, Tryz.ntmps52
  go_wp2_with fail
  refine calls_any' (fun W => Below w.heap.size w W ∧ Two W w.heap.size 26 (.slice ao d.length ca) (.slice bo l.length cb) ∧ Two W (w.heap.size + 1) 26 (.slice xo d.length cx) (.slice yo l.length cy)) ⟨more (more (Below.refl _ _) _) _, (twoNew w 26 _ _).alloc _, twoNext w _ 26 _ _⟩ ?_
  rintro W ⟨hbW, t0, t1⟩
  refine (lwDn_same ao xo d ca cx W (HV1.out.below hbW) (HU1.out.below hbW) hd).mono ?_
  rintro e w1 ⟨rfl, hb1⟩
  have B1 := Lib.hid (hbW.trans (hb1.mono hbW.size)); have T0 := Lib.hid (t0.below hb1); have T1 := Lib.hid (t1.below hb1)
  clear hbW t0 t1 hb1
  obtain ⟨⟨_, c1⟩, _⟩ := T0.out.cells
  obtain ⟨⟨_, d1⟩, _⟩ := T1.out.cells
  go_wp2_with fail
  refine (lwAttrs_same bo yo l cb cy w1 (HV2.out.below B1.out) (HU2.out.below B1.out) HF.out).mono ?_
  rintro e w2 ⟨rfl, hb2⟩
  have B2 := Lib.hid (B1.out.trans (hb2.mono B1.out.size))
  clear hb2
  go_wp2
  go_ret
  exact ⟨rfl, B2.out⟩
set_option maxRecDepth 100000 in
set_option maxHeartbeats 1000000 in
theorem lwEntryOut_same (vo uo xo yo : Option Addr) (cv cu cx cy : Nat) (c : Int) (D : RdnL) (T : List AttrV) (w : World) (h1 : DnAt w vo D) (h2 : AttrsAt w uo T) (h3 : DnAt w xo D) (h4 : AttrsAt w yo T) (hD : D.length ≤ 1048576) (hT : FitsA T) :
    Calls Tryz.prog 13 #[.agg #[.slice vo D.length cv, .slice uo T.length cu, .int .i64 c], .agg #[.slice xo D.length cx, .slice yo T.length cy, .int .i64 c]] w fun e w' => e = .returned (.bool true) ∧ Below w.heap.size w w' := by
  have H1 := Lib.hid h1; have H2 := Lib.hid h2; have H3 := Lib.hid h3; have H4 := Lib.hid h4; have HT := Lib.hid hT; clear h1 h2 h3 h4 hT
  have hc : (c == c) = true := by simp
  go_enter Tryz.func13, Tryz.ntmps13
  go_wp2_with fail
  refine calls_any' (fun W => Below w.heap.size w W) (more (more (Below.refl _ _) _) _) ?_
  rintro W hbW
  refine (lwEntry_same vo uo xo yo D T cv cu cx cy W (H1.out.below hbW) (H2.out.below hbW) (H3.out.below hbW) (H4.out.below hbW) hD HT.out).mono ?_
  rintro e w1 ⟨rfl, hb1⟩
  have B1 := Lib.hid (hbW.trans (hb1.mono hbW.size))
  clear hbW hb1
  go_wp2
  go_ret
  exact ⟨rfl, B1.out⟩
end Go.Proofs.YtjajpdghamecoaaGreat
/- A region that draws its order, where a cell that is loaded is stored anew at its end: the load may be taken first, because the store waits for what waits for the load. -/
namespace Go.Proofs.YtjajpdghamecoaaGreat
open Go Go.RowKit

section
variable {P : Program} {ops : Array Oper} {Q : Exit → Act → World → Prop} {md : Region.Mode} {S S' : World → Prop} {k : Nat}
/-- what is to hold behind an operation: S, and S' as long as number k has not come up -/
def Until (S S' : World → Prop) (k : Nat) (listed : Array Bool) (w : World) : Prop := S w ∧ (listed.getD k true = false → S' w)
def wpAnyL (P : Program) (md : Region.Mode) (ops : Array Oper) (Q : Exit → Act → World → Prop) (S S' : World → Prop) (k : Nat) : Nat → Array Bool → Act → World → Prop
  | 0, listed, a, w => Region.ready md ops listed = [] ∧ Q .normal a w
  | fuel + 1, listed, a, w =>
    (Region.ready md ops listed = [] → Q .normal a w) ∧
    ∀ i ∈ Region.ready md ops listed, wpOp P ops Q i (fun a' w' => Until S S' k (listed.setIfInBounds i true) w' ∧ wpAnyL P md ops Q S S' k fuel (listed.setIfInBounds i true) a' w') a w
theorem wpAny_of_until : ∀ (fuel : Nat) (listed : Array Bool) (a : Act) (w : World), wpAnyL P md ops Q S S' k fuel listed a w → wpAny P md ops Q fuel listed a w
  | 0, _, _, _, h => h
  | fuel + 1, _, _, _, h => ⟨h.1, fun i hi => wpOp_mono (fun a' w' h' => wpAny_of_until fuel _ a' w' h'.2) (h.2 i hi)⟩
theorem Until.step {listed : Array Bool} {i j : Nat} {w : World} (hki : i ≠ k) (h : Until S S' k ((listed.setIfInBounds i true).setIfInBounds j true) w) : Until S S' k (listed.setIfInBounds j true) w := by
  refine ⟨h.1, fun hk => h.2 ?_⟩
  by_cases hji : i = j
  · subst hji
    rw [getD_set_ne true hki] at hk ⊢
    rw [getD_set_ne true hki]; exact hk
  · rw [Array.setIfInBounds_comm _ _ hji, getD_set_ne true hki]; exact hk
/-- an operation that yields in every world that meets R is taken first; R is known behind each operation that may come before it -/
theorem wpAnyL_first {R : World → Prop} {i : Nat} {oi : Oper} {v : Value} (hi : ops[i]? = some oi) (hki : i ≠ k) (hsel : ∀ (j : Nat) (o : Oper) cs b, ops[j]? = some o → o.op ≠ .select cs b)
    (hQ : ∀ c a w, Q (.panic c) (a.put oi.dst v) w → Q (.panic c) a w) (I : Array Bool → Prop)
    (hI : ∀ (listed : Array Bool) (j : Nat), listed.getD i true = false → I listed → j ∈ Region.ready md ops listed → j ≠ i → I (listed.setIfInBounds j true) ∧ ∀ w, Until S S' k (listed.setIfInBounds j true) w → R w) :
    ∀ (fuel : Nat) (listed : Array Bool) (a : Act) (w : World), I listed →
      (∀ j oj, ops[j]? = some oj → j ≠ i → listed.getD j true = false → (∀ e ∈ oj.after, Region.binds md e = true → e.on ≠ i) → oi.apart ops oj = true) →
      i ∈ Region.ready md ops listed → YieldsIf P ops R oi v a → R w → Until S S' k (listed.setIfInBounds i true) w →
      wpAnyL P md ops Q S S' k fuel (listed.setIfInBounds i true) (a.put oi.dst v) w → wpAnyL P md ops Q S S' k (fuel + 1) listed a w := by
  intro fuel
  induction fuel with
  | zero =>
    intro listed a w _ _ hr hy hR hS H
    refine ⟨fun h => (by rw [h] at hr; cases hr), fun j hj => ?_⟩
    by_cases hji : j = i
    · subst hji; exact hy.wpOp hi hR ⟨hS, H⟩
    · have := ready_mono hj hji
      rw [H.1] at this
      cases this
  | succ fuel ih =>
    intro listed a w hIl hfree hr hy hR hS H
    refine ⟨fun h => (by rw [h] at hr; cases hr), fun j hj => ?_⟩
    by_cases hji : j = i
    · subst hji; exact hy.wpOp hi hR ⟨hS, H⟩
    · have h1 := H.2 j (ready_mono hj hji)
      obtain ⟨hjun, oj, hoj, hall⟩ := mem_ready.1 hj
      have hnot : ∀ e ∈ oj.after, Region.binds md e = true → e.on ≠ i := fun e he hb heq => by
        have h1 := hall e he hb
        have h0 := (mem_ready.1 hr).1
        rw [heq] at h1
        rcases Nat.lt_or_ge i listed.size with h' | h'
        · simp [h'] at h0 h1; rw [h0] at h1; cases h1
        · simp [Array.getElem?_eq_none h'] at h1
      have h2 := wpOp_putIf hoj (hfree j oj hoj hji hjun hnot) (fun cs b => hsel i oi cs b hi) (fun cs b => hsel j oj cs b hoj) hQ hy h1
      have hfree' : ∀ k ok, ops[k]? = some ok → k ≠ i → (listed.setIfInBounds j true).getD k true = false →
          (∀ e ∈ ok.after, Region.binds md e = true → e.on ≠ i) → oi.apart ops ok = true := fun k ok hk hki hun hno => by
        refine hfree k ok hk hki ?_ hno
        by_cases hjk : j = k
        · subst hjk; exact hjun
        · rw [getD_set_ne true hjk] at hun; exact hun
      obtain ⟨hI', hRk⟩ := hI listed j (mem_ready.1 hr).1 hIl hj hji
      refine wpOp_mono (fun a' w' h3 => ?_) h2
      have hU := h3.2.1
      have hU' := hU.step hki
      refine ⟨hU', ih (listed.setIfInBounds j true) a' w' hI' hfree' (ready_mono hr (Ne.symm hji)) h3.1 (hRk w' hU') ?_ ?_⟩
      · rw [Array.setIfInBounds_comm _ _ hji]; exact hU
      · rw [Array.setIfInBounds_comm _ _ hji]; exact h3.2.2
/-- take number i first: it yields in every world that meets S -/
theorem wpAnyL_take {i : Nat} {oi : Oper} {v : Value} {fuel : Nat} {listed : Array Bool} {a : Act} {w : World} (hi : ops[i]? = some oi) (hki : i ≠ k)
    (hs : Region.noSelect ops = true) (hf : Region.free md ops listed i = true) (hr : (Region.ready md ops listed).contains i = true)
    (hQ : ∀ c a w, Q (.panic c) (a.put oi.dst v) w → Q (.panic c) a w) (hy : YieldsIf P ops S oi v a) (hS : Until S S' k listed w)
    (h : Until S S' k (listed.setIfInBounds i true) w → wpAnyL P md ops Q S S' k fuel (listed.setIfInBounds i true) (a.put oi.dst v) w) : wpAnyL P md ops Q S S' k (fuel + 1) listed a w := by
  have hU : Until S S' k (listed.setIfInBounds i true) w := ⟨hS.1, fun hk => hS.2 (by rw [getD_set_ne true hki] at hk; exact hk)⟩
  exact wpAnyL_first (R := S) hi hki (Region.noSelect_spec hs) hQ (fun _ => True) (fun _ _ _ _ _ _ => ⟨trivial, fun _ h => h.1⟩) fuel listed a w trivial (Region.free_spec hi hf) (by simpa using hr) hy hS.1 hU (h hU)
/-- take number i first: it yields in every world that meets S'; number m waits for it, and number k for m -/
theorem wpAnyL_load {i m : Nat} {oi om ok : Oper} {v : Value} {fuel : Nat} {listed : Array Bool} {a : Act} {w : World} (hi : ops[i]? = some oi) (hki : i ≠ k)
    (hs : Region.noSelect ops = true) (hf : Region.free md ops listed i = true) (hr : (Region.ready md ops listed).contains i = true)
    (hom : ops[m]? = some om) (hok : ops[k]? = some ok) (hmi : om.after.any (fun e => Region.binds md e && (e.on == i)) = true) (hkm : ok.after.any (fun e => Region.binds md e && (e.on == m)) = true)
    (hlm : listed.getD m true = false) (hlk : listed.getD k true = false)
    (hQ : ∀ c a w, Q (.panic c) (a.put oi.dst v) w → Q (.panic c) a w) (hy : YieldsIf P ops S' oi v a) (hS : Until S S' k listed w)
    (h : Until S S' k (listed.setIfInBounds i true) w → wpAnyL P md ops Q S S' k fuel (listed.setIfInBounds i true) (a.put oi.dst v) w) : wpAnyL P md ops Q S S' k (fuel + 1) listed a w := by
  have hU : Until S S' k (listed.setIfInBounds i true) w := ⟨hS.1, fun hk => hS.2 (by rw [getD_set_ne true hki] at hk; exact hk)⟩
  have waits : ∀ {x y : Nat} {ox : Oper} {listed : Array Bool}, ops[x]? = some ox → ox.after.any (fun e => Region.binds md e && (e.on == y)) = true → listed.getD y true = false → x ∉ Region.ready md ops listed := by
    intro x y ox L hx ha hy hr
    obtain ⟨_, o, ho, hall⟩ := mem_ready.1 hr
    rw [hx] at ho
    cases ho
    obtain ⟨e, he, hb⟩ := Array.any_eq_true'.1 ha
    simp only [Bool.and_eq_true, beq_iff_eq] at hb
    have := hall e he hb.1
    rw [hb.2] at this
    rcases Nat.lt_or_ge y L.size with h' | h'
    · simp [h'] at this hy; rw [hy] at this; cases this
    · simp [Array.getElem?_eq_none h'] at this
  refine wpAnyL_first (R := S') hi hki (Region.noSelect_spec hs) hQ (fun L => L.getD m true = false ∧ L.getD k true = false) ?_ fuel listed a w ⟨hlm, hlk⟩ (Region.free_spec hi hf) (by simpa using hr) hy (hS.2 hlk) hU (h hU)
  intro L j hLi ⟨h1, h2⟩ hj hji
  have hjm : j ≠ m := fun e => waits hom hmi hLi (e ▸ hj)
  have hjk : j ≠ k := fun e => waits hok hkm h1 (e ▸ hj)
  refine ⟨⟨by rw [getD_set_ne true hjm]; exact h1, by rw [getD_set_ne true hjk]; exact h2⟩, fun w hw => hw.2 (by rw [getD_set_ne true hjk]; exact h2)⟩
theorem wpAnyL_done {listed : Array Bool} {a : Act} {w : World} (hr : Region.ready md ops listed = []) (h : Q .normal a w) :
    ∀ fuel, wpAnyL P md ops Q S S' k fuel listed a w
  | 0 => ⟨hr, h⟩
  | _ + 1 => ⟨fun _ => h, by rw [hr]; simp⟩
/-- the one operation that may come up comes up -/
theorem wpAnyL_only {i : Nat} {o : Oper} {fuel : Nat} {listed : Array Bool} {a : Act} {w : World} (hr : Region.ready md ops listed = [i]) (ho : ops[i]? = some o)
    (h : ∀ K' : Act → World → Prop, Shut (∀ a w, Until S S' k (listed.setIfInBounds i true) w → (Until S S' k (listed.setIfInBounds i true) w → wpAnyL P md ops Q S S' k fuel (listed.setIfInBounds i true) a w) → K' a w) → if Region.wanted o (yielded ops a.tmps) = true then Oper.wp P o a w K' Q else K' (a.put o.dst undef) w) :
    wpAnyL P md ops Q S S' k (fuel + 1) listed a w := by
  refine ⟨fun h0 => (by rw [hr] at h0; cases h0), fun j hj => ?_⟩
  rw [hr] at hj
  simp at hj
  subst hj
  exact wpOp_step ho (fun K' hK => h K' (fun a w hS hW => hK a w ⟨hS, hW hS⟩))
theorem wp_region_until (S S' : World → Prop) (k : Nat) {id : Nat} {a : Act} {w : World} (hm : P.follows .mixedOrders = true) (hS : S w.drew) (hS' : S' w.drew)
    (h : Until S S' k (Array.replicate ops.size false) w.drew → wpAnyL P .any ops Q S S' k ops.size (Array.replicate ops.size false) a w.drew) : (Code.region id ops true).wp P Q a w :=
  wp_region_any hm (wpAny_of_until _ _ _ _ (h ⟨hS, fun _ => hS'⟩))
end
end Go.Proofs.YtjajpdghamecoaaGreat
/- Steps of a drawn region: append(texts, texts...) . -/
namespace Go.Proofs.YtjajpdghamecoaaGreat
open Go Go.RowKit
attribute [local go_sem ↓] Go.wp_at_zero Go.wp_at_succ

theorem step_strs {ops : Array Oper} {o : Oper} {a : Act} {K : Act → World → Prop} {Q : Exit → Act → World → Prop} {E : Prop} {w0 wr : World} (B : Nat) (hgd : o.guard = none) (s x : Operand)
    (ho : o.op = .call { callee := .builtin .append, args := #[s, x], argTypes := #[36, 36] }) (v : Value) (pre : List ByteArray) (hs : a.eval s = v) (hown : wr.ownsRow B 9 1 v pre.length (ss pre))
    (ao : Option Addr) (d : List ByteArray) (c n : Nat) (hn : n = d.length) (hx : a.eval x = .slice ao n c) (hd : StrsAt wr ao d) (hc : ao = none → c = 0) (hlen : pre.length + d.length ≤ 1000000000) (hB : B ≤ wr.heap.size) (hbel : Below B w0 wr)
    (h : ∀ v' w', w'.ownsRow B 9 1 v' (pre ++ d).length (ss (pre ++ d)) → Below B w0 w' → wr.grownBy w' v.ownBlock → K (a.put o.dst v') w') :
    if Region.wanted o (yielded ops a.tmps) = true then Oper.wp Tryz.prog o a wr K Q else E := by
  have hw : Region.wanted o (yielded ops a.tmps) = true := by simp [Region.wanted, hgd]
  rw [if_pos hw]
  obtain ⟨i0, hi, hz0, hz1, hz2⟩ := info_parts Tryz.info9
  subst hn
  rcases ao with _ | ad
  · have hd0 : d = [] := by
      rcases hd with h | ⟨b, off, e, _⟩
      · exact h
      · cases e
    subst hd0
    have := hc rfl
    subst this
    have hrun := run_append_owned_none (P := Tryz.prog) (w := wr) B 36 o.type 9 i0 1 Tryz.underlying36 hi v pre.length (ss pre) hown
    unfold Oper.wp execOp
    simp only [ho, resolve, invoke, builtin, Sem.run_bind, Sem.run_pure, Result.andThen_ok, List.map_toArray, List.map_cons, List.map_nil, hs, hx]
    erw [hrun]
    exact h v wr (by rw [List.append_nil]; exact hown) hbel ⟨rfl, rfl, rfl, Nat.le_refl _, fun _ _ _ => rfl⟩
  · have hnews : ∀ j u, (ss d)[j]? = some u → wr.cell? (ad.add j) = some u := by
      rcases hd with hd | ⟨b, off, e, h2, h3⟩
      · subst hd; intro j u hu; simp [ss] at hu
      · cases e; exact strs_cells (.inr ⟨b, off, rfl, h2, h3⟩)
    refine wp_append_own _ s x 36 ho B 9 i0 _ 1 16 Tryz.underlying36 hi hz0 hz1 hz2 rfl (by decide) v pre.length (ss pre) hs hown ad d.length c (ss d) hx (by rw [ss_length]; omega) hnews (ss_one d) ?_ ?_ hB ?_
    · unfold maxLen; omega
    · omega
    · intro v' w' h1 h2 h3
      refine h v' w' ?_ (hbel.grown h2 hB (fun k hk => (hown.lt k hk).1)) h2
      rw [ss_append, List.length_append]; exact h1
end Go.Proofs.YtjajpdghamecoaaGreat
