/- Keys of names: the plain mathematics. -/
import Derived.Test.YtjajpdghamecoaaKey
import Derived.Laws.StructEq
namespace Go.Proofs.Ytjajpdghamecoaa
open Go.RowKit

/-- what is compared of a pair -/
def nrm (r : ByteArray × ByteArray) : List UInt8 × List UInt8 := (r.1.data.toList, normL r.2.data.toList)
def sameB (a b : RdnL) : Bool := decide (a.map nrm = b.map nrm)
/-- one pair of a key -/
def rkL (r : ByteArray × ByteArray) : List UInt8 := 1 :: (r.1.data.toList ++ 61 :: normL r.2.data.toList)
def keyL (d : RdnL) : List UInt8 := d.reverse.flatMap rkL
def keyS (d : RdnL) : ByteArray := ⟨(keyL d).toArray⟩

theorem pair_eq (a v a' v' : ByteArray) : ((a.toList == a'.toList) && ((normS v).toList == (normS v').toList)) = decide (nrm (a, v) = nrm (a', v')) := by
  rw [Lib.toList_data, Lib.toList_data, Lib.toList_data, Lib.toList_data, Bool.eq_iff_iff]
  simp [nrm, normS]
theorem Try.fields61 : Try.prog.underlying 61 = some (.struct (Try.prog.fieldsOf 61)) := by kernel_rfl
theorem Try.held61 : Try.prog.stoodInHeld 61 = false := by kernel_rfl
theorem neq39 (a v a' v' : ByteArray) (W : World) : (binOp .neq 61 (.agg #[.string a, .string v]) (.agg #[.string a', .string v'])).run Try.prog W = .ok (.bool (!((a.toList == a'.toList) && (v.toList == v'.toList)))) W := by
  rw [run_neq_struct, run_equalIn_agg W 9999 61 _ _ Try.fields61 Try.held61]
  simp [go_sem]
  by_cases h1 : a.toList = a'.toList
  · by_cases h2 : v.toList = v'.toList
    · rw [if_pos h1, if_pos h2]; simp [h1, h2]
    · rw [if_pos h1, if_neg h2]; simp [h2]
  · rw [if_neg h1]; simp [h1]
theorem neqNorm (a v a' v' : ByteArray) (W : World) : (binOp .neq 61 (.agg #[.string a, .string (normS v)]) (.agg #[.string a', .string (normS v')])).run Try.prog W = .ok (.bool (!decide (nrm (a, v) = nrm (a', v')))) W := by
  rw [neq39, pair_eq]

/-- bytes of a name, and of a normalized value -/
def cleanR (p : List UInt8 × List UInt8) : Prop := (1 ∉ p.1 ∧ 61 ∉ p.1) ∧ 1 ∉ p.2
theorem name_clean {s : ByteArray} (h : nmL s = true) : 1 ∉ s.data.toList ∧ 61 ∉ s.data.toList := by
  have h1 : allB s.data.toList = true := by unfold nmL at h; simp at h; exact h.2
  unfold allB at h1
  rw [List.all_eq_true] at h1
  constructor
  · intro hm; have := h1 _ hm; revert this; decide
  · intro hm; have := h1 _ hm; revert this; decide
theorem nstep_mem {o : List UInt8} {c x : UInt8} (h : x ∈ nstep o c) : x ∈ o ∨ x = low c := by
  unfold nstep at h
  split at h
  · exact .inl h
  · simpa using h
theorem nfold_mem {l : List UInt8} {x : UInt8} (h : x ∈ nfold l) : ∃ c ∈ l, x = low c := by
  have : ∀ (l o : List UInt8), x ∈ l.foldl nstep o → x ∈ o ∨ ∃ c ∈ l, x = low c := by
    intro l
    induction l with
    | nil => intro o h; exact .inl h
    | cons c l ih =>
      intro o h
      rcases ih _ h with h1 | ⟨d, hd, hx⟩
      · rcases nstep_mem h1 with h2 | h2
        · exact .inl h2
        · exact .inr ⟨c, List.mem_cons_self .., h2⟩
      · exact .inr ⟨d, List.mem_cons_of_mem _ hd, hx⟩
  rcases this l [] h with h1 | h1
  · simp at h1
  · exact h1
theorem chop_mem {o : List UInt8} {x : UInt8} (h : x ∈ chop o) : x ∈ o := by
  unfold chop at h
  split at h
  · exact List.dropLast_subset _ h
  · exact h
/-- the bytes of a normalized text are printable -/
theorem norm_plain (l : List UInt8) : ∀ x ∈ normL l, 32 ≤ x.toNat ∧ x.toNat ≤ 126 := by
  intro x hx
  unfold normL at hx
  split at hx
  · rename_i h
    obtain ⟨c, hc, rfl⟩ := nfold_mem (chop_mem hx)
    have hp := h.2
    unfold plainB at hp
    rw [List.all_eq_true] at hp
    have hp := hp c hc
    simp at hp
    by_cases hcap : 65 ≤ c.toNat ∧ c.toNat ≤ 90
    · have := low_in c hcap; omega
    · rw [low_out c hcap]; omega
  · simp at hx
theorem norm_clean (l : List UInt8) : 1 ∉ normL l := by
  intro h
  have := norm_plain l _ h
  revert this; decide
theorem clean_of {d : RdnL} (h : d.all rdnB = true) : ∀ p ∈ d.map nrm, cleanR p := by
  intro p hp
  obtain ⟨r, hr, rfl⟩ := List.mem_map.1 hp
  rw [List.all_eq_true] at h
  have := h r hr
  unfold rdnB at this
  simp at this
  exact ⟨name_clean this.1, norm_clean _⟩
def rkP (p : List UInt8 × List UInt8) : List UInt8 := 1 :: (p.1 ++ 61 :: p.2)
theorem split_at {c : UInt8} : ∀ {a b x y : List UInt8}, c ∉ a → c ∉ b → a ++ c :: x = b ++ c :: y → a = b ∧ x = y
  | [], [], _, _, _, _, h => ⟨rfl, by simpa using h⟩
  | [], b0 :: b, _, _, _, hb, h => by
    simp at h; exact absurd h.1.symm (fun e => hb (by simp [e]))
  | a0 :: a, [], _, _, ha, _, h => by
    simp at h; exact absurd h.1 (fun e => ha (by simp [e]))
  | a0 :: a, b0 :: b, x, y, ha, hb, h => by
    simp at h
    obtain ⟨h1, h2⟩ := h
    have := split_at (c := c) (fun e => ha (by simp [e])) (fun e => hb (by simp [e])) h2
    exact ⟨by rw [h1, this.1], this.2⟩
/-- of two lists of pairs with one key -/
theorem key_inj : ∀ (a b : List (List UInt8 × List UInt8)), (∀ p ∈ a, cleanR p) → (∀ p ∈ b, cleanR p) → a.flatMap rkP = b.flatMap rkP → a = b
  | [], [], _, _, _ => rfl
  | [], q :: b, _, _, h => by simp [rkP] at h
  | p :: a, [], _, _, h => by simp [rkP] at h
  | p :: a, q :: b, ha, hb, h => by
    have hp := ha p (List.mem_cons_self ..)
    have hq := hb q (List.mem_cons_self ..)
    have ha' : ∀ x ∈ a, cleanR x := fun x hx => ha x (List.mem_cons_of_mem _ hx)
    have hb' : ∀ x ∈ b, cleanR x := fun x hx => hb x (List.mem_cons_of_mem _ hx)
    simp only [List.flatMap_cons, rkP, List.cons_append, List.cons.injEq, true_and, List.append_assoc] at h
    obtain ⟨e1, h2⟩ := split_at (c := 61) hp.1.2 hq.1.2 h
    have tail : ∀ (l : List (List UInt8 × List UInt8)), l.flatMap rkP = [] ∨ ∃ t, l.flatMap rkP = 1 :: t := by
      intro l
      cases l with
      | nil => exact .inl rfl
      | cons r l => exact .inr ⟨_, rfl⟩
    have h3 : p.2 = q.2 ∧ a.flatMap rkP = b.flatMap rkP := by
      have h2' : p.2 ++ a.flatMap rkP = q.2 ++ b.flatMap rkP := h2
      rcases tail a with ea | ⟨s, ea⟩ <;> rcases tail b with eb | ⟨t, eb⟩
      · rw [ea, eb] at h2' ⊢; simpa using h2'
      · rw [ea, eb] at h2'
        exact absurd (show (1 : UInt8) ∈ p.2 by rw [show p.2 = q.2 ++ 1 :: t by simpa using h2']; simp) hp.2
      · rw [ea, eb] at h2'
        exact absurd (show (1 : UInt8) ∈ q.2 by rw [show q.2 = p.2 ++ 1 :: s by simpa using h2'.symm]; simp) hq.2
      · rw [ea, eb] at h2' ⊢
        obtain ⟨x, y⟩ := split_at (c := 1) hp.2 hq.2 h2'
        exact ⟨x, by rw [y]⟩
    have := key_inj a b ha' hb' h3.2
    rw [this, Prod.ext e1 h3.1]
theorem keyL_map (d : RdnL) : keyL d = (d.map nrm).reverse.flatMap rkP := by
  unfold keyL
  rw [← List.map_reverse, List.flatMap_map]; rfl
theorem key_same {a b : RdnL} (ha : a.all rdnB = true) (hb : b.all rdnB = true) : ((keyS a).toList == (keyS b).toList) = sameB a b := by
  rw [Lib.toList_data, Lib.toList_data, Bool.eq_iff_iff]
  simp only [beq_iff_eq, sameB, decide_eq_true_eq]
  show keyL a = keyL b ↔ _
  constructor
  · intro h
    rw [keyL_map, keyL_map] at h
    have := key_inj _ _ (fun p hp => clean_of ha p (by simpa using hp)) (fun p hp => clean_of hb p (by simpa using hp)) h
    simpa using this
  · intro h; rw [keyL_map, keyL_map, h]
theorem keyL_take (d : RdnL) (k : Nat) (h : k < d.length) : keyL (d.take (k + 1)) = rkL d[k] ++ keyL (d.take k) := by
  unfold keyL
  rw [List.take_succ_eq_append_getElem h, List.reverse_append, List.flatMap_append]; simp
theorem keyL_drop (d : RdnL) (k : Nat) (h : k < d.length) : keyL (d.drop k) = keyL (d.drop (k + 1)) ++ rkL d[k] := by
  unfold keyL
  rw [List.drop_eq_getElem_cons h, List.reverse_cons, List.flatMap_append]; simp
theorem rk_len (r : ByteArray × ByteArray) (h : r.1.size ≤ 1048576) : (rkL r).length ≤ 1048678 := by
  have := normL_len r.2.data.toList
  unfold rkL
  simp only [List.length_cons, List.length_append, size_len]; omega
theorem keyL_len (d : RdnL) (h : ∀ r ∈ d, r.1.size ≤ 1048576) : (keyL d).length ≤ d.length * 1048678 := by
  induction d with
  | nil => simp [keyL]
  | cons r d ih =>
    have h1 := ih (fun x hx => h x (List.mem_cons_of_mem _ hx))
    have h2 := rk_len r (h r (List.mem_cons_self ..))
    have e : keyL (r :: d) = keyL d ++ rkL r := by unfold keyL; simp
    rw [e, List.length_append, List.length_cons, Nat.add_mul]; omega
theorem keyS_small (d : RdnL) (h : Fits d) (h6 : d.length ≤ 6) : (keyS d).size ≤ 7000000 := by
  have := keyL_len d (fun r hr => (h.2 r hr).1)
  have e : (keyS d).size = (keyL d).length := rfl
  rw [e]; omega
theorem Fits.take {d : RdnL} (h : Fits d) (k : Nat) : Fits (d.take k) := ⟨by have := h.1; simp; omega, fun r hr => h.2 r (List.mem_of_mem_take hr)⟩
theorem Fits.drop {d : RdnL} (h : Fits d) (k : Nat) : Fits (d.drop k) := ⟨by have := h.1; simp; omega, fun r hr => h.2 r (List.mem_of_mem_drop hr)⟩
theorem normS_size (s : ByteArray) : (normS s).size ≤ 100 := by have := normL_len s.data.toList; exact this
end Go.Proofs.Ytjajpdghamecoaa
