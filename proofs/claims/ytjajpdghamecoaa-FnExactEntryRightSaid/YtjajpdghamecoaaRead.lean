/- Reading names: l02Read of the specification; DnRead. -/
import Derived.Test.YtjajpdghamecoaaRdn2
import Derived.Test.YtjajpdghamecoaaJoinD2
namespace Go.Proofs.Ytjajpdghamecoaa
open Go.RowKit
attribute [local go_sem ↓] Go.wp_at_zero Go.wp_at_succ

theorem append_rdn2 {ops : Array Oper} {rest : List Oper} {o : Oper} {a : Act} {Q : Exit → Act → World → Prop} {w0 wr : World} (B : Nat) (hgd : o.guard = none) (s x : Operand)
    (ho : o.op = .call { callee := .builtin .append, args := #[s, x], argTypes := #[23, 23] }) (v : Value) (pre : RdnL) (hs : a.eval s = v) (hown : wr.ownsRow B 61 2 v pre.length (rs pre))
    (A V : ByteArray) (hx : a.eval x = .slice (some ⟨wr.heap.size, 0, none⟩) 1 1) (hlen : pre.length ≤ 1000000000) (hB : B ≤ wr.heap.size) (hbel : Below B w0 wr)
    (h : ∀ v' w', w'.ownsRow B 61 2 v' (pre ++ [(A, V)]).length (rs (pre ++ [(A, V)])) → Below B w0 w' → (wr.alloc (.cells #[.string A, .string V] 61)).grownBy w' v.ownBlock → wpList Try.prog ops Q rest (a.put o.dst v') w') :
    wpList Try.prog ops Q (o :: rest) a (wr.alloc (.cells #[.string A, .string V] 61)) := by
  obtain ⟨i0, hi, hz0, hz1, hz2⟩ := info_parts Try.info61
  refine wpList_append_lies _ hgd s x 23 ho B 61 i0 _ 2 32 Try.underlying23 hi hz0 hz1 hz2 rfl (by decide) v pre.length (rs pre) hs (hown.alloc _) ⟨wr.heap.size, 0, none⟩ 1 1 [.string A, .string V] hx rfl (World.news_of_block (cs := #[.string A, .string V]) (t := 61) (fr := (0, 0)) (heap_alloc_new wr _)) ?_ (by omega) ?_ ?_ ?_ (wr.heap.size + 1) (by simp) ?_
  · intro u hu; simp at hu; rcases hu with rfl | rfl <;> rfl
  · unfold maxLen; omega
  · omega
  · simp; omega
  · intro g cap w' h1 h2 h3 h4
    refine h _ w' ?_ ((hbel.alloc hB _).grown h2 (by simp; omega) (fun k hk => (hown.lt k hk).1)) h2
    rw [rs_snoc]; simpa using h1
theorem cutF_part (n : Nat) : ∀ (b l : List UInt8), l.length ≤ n → ∀ x ∈ cutF b l, x.length ≤ b.length + l.length := by
  induction n with
  | zero =>
    intro b l hl x hx
    have : l = [] := List.eq_nil_of_length_eq_zero (by omega)
    subst this
    rw [cutF_nil] at hx; simp at hx; subst hx; simp
  | succ n ih =>
    intro b l hl x hx
    match l, hl, hx with
    | [], _, hx => rw [cutF_nil] at hx; simp at hx; subst hx; simp
    | [c], _, hx =>
      rw [cutF_one] at hx
      split at hx
      · simp at hx; rcases hx with rfl | rfl <;> simp
      · simp at hx; subst hx; simp
    | c :: d :: l, hl, hx =>
      rw [cutF_two] at hx
      simp only [List.length_cons] at hl ⊢
      split at hx
      · have := ih (b ++ [c, d]) l (by omega) x hx
        simp only [List.length_append, List.length_cons, List.length_nil] at this; omega
      · split at hx
        · rw [List.mem_cons] at hx
          rcases hx with rfl | hx
          · omega
          · have := ih [] (d :: l) (by simp only [List.length_cons]; omega) x hx
            simp only [List.length_cons, List.length_nil] at this; omega
        · have := ih (b ++ [c]) (d :: l) (by simp only [List.length_cons]; omega) x hx
          simp only [List.length_append, List.length_cons, List.length_nil] at this; omega
theorem cutF_count (n : Nat) : ∀ (b l : List UInt8), l.length ≤ n → (cutF b l).length ≤ l.length + 1 := by
  induction n with
  | zero =>
    intro b l hl
    have : l = [] := List.eq_nil_of_length_eq_zero (by omega)
    subst this
    rw [cutF_nil]; simp
  | succ n ih =>
    intro b l hl
    match l, hl with
    | [], _ => rw [cutF_nil]; simp
    | [c], _ => rw [cutF_one]; split <;> simp
    | c :: d :: l, hl =>
      rw [cutF_two]
      simp only [List.length_cons] at hl ⊢
      split
      · have := ih (b ++ [c, d]) l (by omega); omega
      · split
        · have := ih [] (d :: l) (by simp only [List.length_cons]; omega)
          simp only [List.length_cons] at this ⊢; omega
        · have := ih (b ++ [c]) (d :: l) (by simp only [List.length_cons]; omega)
          simp only [List.length_cons] at this; omega
def specD (l : List UInt8) : RdnL := (cutF [] l).map rdn2
theorem unesc2_len (n : Nat) : ∀ l : List UInt8, l.length ≤ n → (unesc2 l).length ≤ l.length := by
  induction n with
  | zero =>
    intro l hl
    have : l = [] := List.eq_nil_of_length_eq_zero (by omega)
    subst this; simp [unesc2]
  | succ n ih =>
    intro l hl
    match l, hl with
    | [], _ => simp [unesc2]
    | [c], _ => rw [unesc2_one]; simp
    | c :: d :: l, hl =>
      rw [unesc2_two]
      simp only [List.length_cons] at hl ⊢
      split
      · have := ih l (by omega); simp only [List.length_cons]; omega
      · have := ih (d :: l) (by simp only [List.length_cons]; omega); simp only [List.length_cons] at this ⊢; omega
theorem rdn2_len (l : List UInt8) : (rdn2 l).1.size ≤ l.length ∧ (rdn2 l).2.size ≤ l.length := by
  unfold rdn2
  split
  · refine ⟨by rw [toS_size]; exact takeWhile_len l, ?_⟩
    rw [toS_size]
    exact Nat.le_trans (unesc2_len _ _ (Nat.le_refl _)) (vlu_len l)
  · simp [toS_size]
theorem spec_fits (s : ByteArray) (hs : s.size ≤ 8000) (k : Nat) : Fits ((specD s.data.toList).take k) := by
  have hc := cutF_count _ [] s.data.toList (Nat.le_refl _)
  rw [size_len] at hc
  refine Fits.take ⟨by unfold specD; rw [List.length_map]; omega, fun r hr => ?_⟩ k
  unfold specD at hr
  obtain ⟨x, hx, rfl⟩ := List.mem_map.1 hr
  have h1 := cutF_part _ [] s.data.toList (Nat.le_refl _) x hx
  have h2 := rdn2_len x
  rw [size_len] at h1
  simp only [List.length_nil] at h1
  omega
theorem rdn1_len (l : List UInt8) : (rdn1 l).1.size ≤ l.length ∧ (rdn1 l).2.size ≤ l.length := by
  have hu : ∀ (b : Bool) (l : List UInt8), (unescF b l).length ≤ l.length := by
    intro b l
    induction l generalizing b with
    | nil => simp [unescF]
    | cons c l ih =>
      rw [unescF]
      split
      · have := ih true; rw [List.length_cons]; omega
      · have := ih false; rw [List.length_cons, List.length_cons]; omega
  exact ⟨by unfold rdn1; rw [toS_size]; exact takeWhile_len l, by unfold rdn1; rw [toS_size]; exact Nat.le_trans (hu _ _) (vlu_len l)⟩
theorem scan_fits (s : ByteArray) (hs : s.size ≤ 8000) : Fits (scanL s.data.toList) := by
  have hl := scanL_len s.data.toList
  rw [size_len] at hl
  have : ∀ n (l : List UInt8), l.length ≤ 8000 → ∀ r ∈ scanN n l, r.1.size ≤ 8000 ∧ r.2.size ≤ 8000 := by
    intro n
    induction n with
    | zero => intro l _ r hr; simp [scanN] at hr
    | succ n ih =>
      intro l hl r hr
      cases l with
      | nil => simp [scanN] at hr
      | cons c l =>
        simp only [scanN, List.mem_cons] at hr
        rcases hr with rfl | hr
        · have := rdn1_len ((c :: l).take (endF false (c :: l)))
          have h2 : ((c :: l).take (endF false (c :: l))).length ≤ (c :: l).length := List.length_take_le' ..
          omega
        · exact ih _ (by rw [List.length_drop]; omega) r hr
  refine ⟨by omega, fun r hr => ?_⟩
  have := this _ s.data.toList (by rw [size_len]; exact hs) r hr
  omega
end Go.Proofs.Ytjajpdghamecoaa
