/- Reading names: l02Cut of the specification. -/
import Derived.Test.YtjajpdghamecoaaScan3
namespace Go.Proofs.Ytjajpdghamecoaa
open Go.RowKit
attribute [local go_sem ↓] Go.wp_at_zero Go.wp_at_succ

/-- rows of different elements lie in different blocks -/
theorem own_apart {w : World} {B e e' z z' n n' : Nat} {v u : Value} {xs ys : List Value} (h : w.ownsRow B e z v n xs) (g : w.ownsRow B e' z' u n' ys) (hne : e ≠ e') : u.ownBlock = none ∨ u.ownBlock ≠ v.ownBlock := by
  rcases g.2 with ⟨rfl, _⟩ | ⟨k, cap, cur, rfl, _, hk, _⟩
  · exact .inl rfl
  · right
    rcases h.2 with ⟨rfl, _⟩ | ⟨k', cap', cur', rfl, _, hk', _⟩
    · simp [Value.ownBlock]
    · intro hh
      have : k = k' := by simpa [Value.ownBlock] using hh
      subst this
      rw [hk] at hk'
      injection hk' with hk'
      injection hk' with _ ht
      exact hne ht.symm
section
variable {ops : Array Oper} {rest : List Oper} {o : Oper} {a : Act} {Q : Exit → Act → World → Prop} {K : Act → World → Prop} {E : Prop} {w0 wr : World}
theorem append_byte2 (B : Nat) (hgd : o.guard = none) (s x : Operand)
    (ho : o.op = .call { callee := .builtin .append, args := #[s, x], argTypes := #[22, 22] }) (v : Value) (pre : List UInt8) (hs : a.eval s = v) (hown : wr.ownsRow B 5 1 v pre.length (bs pre))
    (c : UInt8) (n : Int) (hn : n = (c.toNat : Int)) (hx : a.eval x = .slice (some ⟨wr.heap.size, 0, none⟩) 1 1) (hlen : pre.length ≤ 1000000000) (hB : B ≤ wr.heap.size) (hbel : Below B w0 wr)
    (h : ∀ v' w', w'.ownsRow B 5 1 v' (pre ++ [c]).length (bs (pre ++ [c])) → Below B w0 w' → (wr.alloc (.cells #[.int .u8 n] 5)).grownBy w' v.ownBlock → wpList Try.prog ops Q rest (a.put o.dst v') w') :
    wpList Try.prog ops Q (o :: rest) a (wr.alloc (.cells #[.int .u8 n] 5)) := by
  obtain ⟨i0, hi, hz0, hz1, hz2⟩ := info_parts Try.info5
  subst hn
  refine wpList_append_own _ hgd s x 22 ho B 5 i0 (.int .u8 0) 1 1 Try.underlying22 hi hz0 hz1 hz2 rfl (by decide) v pre.length (bs pre) hs (hown.alloc _) ⟨wr.heap.size, 0, none⟩ 1 1 [.int .u8 (c.toNat : Int)] hx rfl (cell_one_new _ _ _) ?_ ?_ ?_ ?_ ?_
  · intro u hu; simp at hu; subst hu; rfl
  · unfold maxLen; omega
  · omega
  · simp; omega
  · intro v' w' h1 h2 h3
    refine h v' w' ?_ ((hbel.alloc hB _).grown h2 (by simp; omega) (fun k hk => (hown.lt k hk).1)) h2
    rw [bs_snoc]; simpa using h1
theorem step_two (B : Nat) (hgd : o.guard = none) (s x : Operand)
    (ho : o.op = .call { callee := .builtin .append, args := #[s, x], argTypes := #[22, 22] }) (v : Value) (pre : List UInt8) (hs : a.eval s = v) (hown : wr.ownsRow B 5 1 v pre.length (bs pre))
    (c d : UInt8) (hx : a.eval x = .slice (some ⟨wr.heap.size, 0, none⟩) 2 2) (hlen : pre.length ≤ 1000000000) (hB : B ≤ wr.heap.size) (hbel : Below B w0 wr)
    (h : ∀ g cap w', w'.ownsRow B 5 1 (.slice (some ⟨g, 0, none⟩) (pre.length + 2) cap) (pre ++ [c, d]).length (bs (pre ++ [c, d])) → Below B w0 w' → (wr.alloc (.cells #[.int .u8 (c.toNat : Int), .int .u8 (d.toNat : Int)] 5)).grownBy w' v.ownBlock → K (a.put o.dst (.slice (some ⟨g, 0, none⟩) (pre.length + 2) cap)) w') :
    if Region.wanted o (yielded ops a.tmps) = true then Oper.wp Try.prog o a (wr.alloc (.cells #[.int .u8 (c.toNat : Int), .int .u8 (d.toNat : Int)] 5)).drew K Q else E := by
  obtain ⟨i0, hi, hz0, hz1, hz2⟩ := info_parts Try.info5
  refine step_append_lies _ hgd s x 22 ho B 5 i0 _ 1 1 Try.underlying22 hi hz0 hz1 hz2 rfl (by decide) v pre.length (bs pre) hs ((hown.alloc _).drew) ⟨wr.heap.size, 0, none⟩ 2 2 [.int .u8 (c.toNat : Int), .int .u8 (d.toNat : Int)] hx rfl (World.news_of_block (cs := #[.int .u8 (c.toNat : Int), .int .u8 (d.toNat : Int)]) (t := 5) (fr := (0, 0)) (heap_alloc_new wr _)) ?_ (by omega) ?_ ?_ ?_ (wr.heap.size + 1) (by simp) ?_
  · intro u hu; simp at hu; rcases hu with rfl | rfl <;> rfl
  · unfold maxLen; omega
  · omega
  · simp; omega
  · intro g cap w' h1 h2 h3 h4
    have h2' : (wr.alloc (.cells #[.int .u8 (c.toNat : Int), .int .u8 (d.toNat : Int)] 5)).grownBy w' v.ownBlock := ⟨h2.os, h2.tape, h2.output, h2.size, h2.block⟩
    refine h g cap w' ?_ ((hbel.alloc hB _).grown h2' (by simp; omega) (fun k hk => (hown.lt k hk).1)) h2'
    have e : bs (pre ++ [c, d]) = bs pre ++ [.int .u8 (c.toNat : Int), .int .u8 (d.toNat : Int)] := by simp [bs]
    rw [e]; simpa using h1
end
def tss (l : List (List UInt8)) : List ByteArray := l.map toS
theorem tss_snoc (l : List (List UInt8)) (x : List UInt8) : tss (l ++ [x]) = tss l ++ [toS x] := by unfold tss; simp
theorem tss_len (l : List (List UInt8)) : (tss l).length = l.length := by unfold tss; simp
/-- what is known of the parts at byte k -/
def CutS (s : ByteArray) (outs : List (List UInt8)) (b : List UInt8) (k : Nat) : Prop := cutF [] s.data.toList = outs ++ cutF b (s.data.toList.drop k) ∧ outs.length ≤ k ∧ b.length ≤ k
theorem CutS.one {s : ByteArray} {outs : List (List UInt8)} {b : List UInt8} {k : Nat} (h : CutS s outs b k) (hk : k < s.size) (h44 : s[k] ≠ 44) (h92 : s[k] ≠ 92 ∨ k + 1 = s.size) : CutS s outs (b ++ [s[k]]) (k + 1) := by
  refine ⟨?_, by have := h.2.1; omega, by have := h.2.2; simp; omega⟩
  rw [h.1, drop_at s k hk]
  rcases he : s.data.toList.drop (k + 1) with _ | ⟨d, l⟩
  · rw [cutF_one, if_neg h44, cutF_nil]
  · have hne : s[k] ≠ 92 := by
      rcases h92 with h | h
      · exact h
      · rw [List.drop_eq_nil_of_le (by rw [size_len]; omega)] at he; cases he
    rw [cutF_two, if_neg hne, if_neg h44]
theorem CutS.comma {s : ByteArray} {outs : List (List UInt8)} {b : List UInt8} {k : Nat} (h : CutS s outs b k) (hk : k < s.size) (h44 : s[k] = 44) : CutS s (outs ++ [b]) [] (k + 1) := by
  refine ⟨?_, by have := h.2.1; simp; omega, by simp⟩
  rw [h.1, drop_at s k hk]
  rcases he : s.data.toList.drop (k + 1) with _ | ⟨d, l⟩
  · rw [cutF_one, if_pos h44, cutF_nil]; simp
  · rw [cutF_two, if_neg (by rw [h44]; decide), if_pos h44]; simp
theorem CutS.two {s : ByteArray} {outs : List (List UInt8)} {b : List UInt8} {k : Nat} (h : CutS s outs b k) (hk : k < s.size) (hk1 : k + 1 < s.size) (h92 : s[k] = 92) : CutS s outs (b ++ [s[k], s[k + 1]]) (k + 2) := by
  refine ⟨?_, by have := h.2.1; omega, by have := h.2.2; simp; omega⟩
  rw [h.1, drop_at s k hk, drop_at s (k + 1) hk1, cutF_two, if_pos h92]
theorem CutS.last {s : ByteArray} {outs : List (List UInt8)} {b : List UInt8} {k : Nat} (h : CutS s outs b k) (hk : ¬ k < s.size) : cutF [] s.data.toList = outs ++ [b] := by
  rw [h.1, List.drop_eq_nil_of_le (by rw [size_len]; omega), cutF_nil]
end Go.Proofs.Ytjajpdghamecoaa
