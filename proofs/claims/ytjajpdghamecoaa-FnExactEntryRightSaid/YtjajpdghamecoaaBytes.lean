/- Rows of bytes that a call owns, and the strings made of them. -/
import Derived.Test.YtjajpdghamecoaaName2
import Derived.Laws.BytesArg
import Derived.Laws.OwnMore
import Derived.Deep.AppendLies
namespace Go.Proofs.Ytjajpdghamecoaa
open Go.RowKit

theorem Try.size5 (w : World) : (sizeOf 5).run Try.prog w = .ok 1 w := by kernel_rfl
theorem Try.info5 : (Try.prog.info? 5).map (fun i => (i.zero, i.size, i.bytes)) = some (some (.int .u8 0), 1, 1) := by kernel_rfl
theorem add_plain (b j : Nat) : (⟨b, 0, none⟩ : Addr).add j = ⟨b, j, none⟩ := by unfold Addr.add; split <;> simp_all
theorem str22 (W : World) (a : Addr) (cap : Nat) (l : List UInt8) (n : Nat) (hn : l.length = n) (hc : ∀ j (hj : j < l.length), W.cell? (a.add j) = some (.int .u8 (l[j].toNat : Int))) :
    (convert 22 9 (.slice (some a) n cap)).run Try.prog W = .ok (.string ⟨l.toArray⟩) W := by
  subst hn
  exact run_convert_bytes_back W 22 9 5 a cap l Try.underlying22 Try.underlying5 Try.underlying9 hc
def bs (l : List UInt8) : List Value := l.map (fun c => .int .u8 (c.toNat : Int))
theorem bs_length (l : List UInt8) : (bs l).length = l.length := by simp [bs]
theorem bs_snoc (l : List UInt8) (c : UInt8) : bs (l ++ [c]) = bs l ++ [.int .u8 (c.toNat : Int)] := by simp [bs]
/-- a string made of a row of bytes that the call owns -/
theorem str_own (W : World) (base : Nat) (v : Value) (l : List UInt8) (h : W.ownsRow base 5 1 v l.length (bs l)) :
    (convert 22 9 v).run Try.prog W = .ok (.string ⟨l.toArray⟩) W := by
  rcases h.2 with ⟨rfl, hn⟩ | ⟨g, cap, cur, rfl, hb, hg, hc1, hc2, hc3, hc4⟩
  · have : l = [] := List.length_eq_zero_iff.1 hn
    subst this
    exact run_convert_bytes_nil W 22 5 Try.underlying22 Try.underlying5 0 0 9 Try.underlying9
  · refine run_convert_bytes_back W 22 9 5 ⟨g, 0, none⟩ cap l Try.underlying22 Try.underlying5 Try.underlying9 fun j hj => ?_
    exact h.cells rfl j _ (by simp [bs, List.getElem?_eq_getElem hj])
/-- one byte more behind a row of bytes that the call owns -/
theorem append_byte {ops : Array Oper} {rest : List Oper} {o : Oper} {a : Act} {Q : Exit → Act → World → Prop} {w0 wr : World} (B : Nat) (hgd : o.guard = none) (s x : Operand)
    (ho : o.op = .call { callee := .builtin .append, args := #[s, x], argTypes := #[22, 22] }) (v : Value) (pre : List UInt8) (hs : a.eval s = v) (hown : wr.ownsRow B 5 1 v pre.length (bs pre))
    (c : UInt8) (n : Int) (hn : n = (c.toNat : Int)) (hx : a.eval x = .slice (some ⟨wr.heap.size, 0, none⟩) 1 1) (hlen : pre.length ≤ 1000000000) (hB : B ≤ wr.heap.size) (hbel : Below B w0 wr)
    (h : ∀ v' w', w'.ownsRow B 5 1 v' (pre ++ [c]).length (bs (pre ++ [c])) → Below B w0 w' → B ≤ w'.heap.size → wpList Try.prog ops Q rest (a.put o.dst v') w') :
    wpList Try.prog ops Q (o :: rest) a (wr.alloc (.cells #[.int .u8 n] 5)) := by
  obtain ⟨i0, hi, hz0, hz1, hz2⟩ := info_parts Try.info5
  subst hn
  refine wpList_append_own _ hgd s x 22 ho B 5 i0 (.int .u8 0) 1 1 Try.underlying22 hi hz0 hz1 hz2 rfl (by decide) v pre.length (bs pre) hs (hown.alloc _) ⟨wr.heap.size, 0, none⟩ 1 1 [.int .u8 (c.toNat : Int)] hx rfl (cell_one_new _ _ _) ?_ ?_ ?_ ?_ ?_
  · intro u hu; simp at hu; subst hu; rfl
  · unfold maxLen; omega
  · omega
  · simp; omega
  · intro v' w' h1 h2 h3
    have hb' : Below B w0 w' := (hbel.alloc hB _).grown h2 (by simp; omega) (fun k hk => (hown.lt k hk).1)
    refine h v' w' ?_ hb' (Nat.le_trans hB (by have := h2.size; simp at this; omega))
    rw [bs_snoc]; simpa using h1
/-- the value of a row that the call owns is a slice -/
theorem own_slice {w : World} {B e z n : Nat} {v : Value} {xs : List Value} (h : w.ownsRow B e z v n xs) : ∃ ao cap, v = .slice ao n cap := by
  rcases h.2 with ⟨rfl, rfl⟩ | ⟨g, cap, cur, rfl, _⟩
  · exact ⟨none, 0, rfl⟩
  · exact ⟨_, cap, rfl⟩
/-- the last byte of such a row -/
theorem own_last {w : World} {B n cap : Nat} {ao : Option Addr} {pre : List UInt8} {c : UInt8} (h : w.ownsRow B 5 1 (.slice ao n cap) pre.length (bs pre)) (hn : n = pre.length) (hc : pre.getLast? = some c) :
    ∃ g, ao = some ⟨g, 0, none⟩ ∧ w.cell? ⟨g, n - 1, none⟩ = some (.int .u8 (c.toNat : Int)) := by
  have h0 : 0 < pre.length := by
    rcases pre with _ | ⟨x, l⟩
    · simp at hc
    · simp
  obtain ⟨g, cp, hv, _, _⟩ := h.form h0
  have e : ao = some ⟨g, 0, none⟩ := by injection hv
  subst e
  refine ⟨g, rfl, ?_⟩
  have := h.cells (g := g) rfl (n - 1) (.int .u8 (c.toNat : Int)) (by
    rw [bs, List.getElem?_map, hn, ← List.getLast?_eq_getElem?, hc]; rfl)
  rw [add_plain] at this
  exact this
theorem ret_str {a b : ByteArray} (h : a = b) : Ending.returned (.string a) = .returned (.string b) := by rw [h]
theorem size_len (s : ByteArray) : s.data.toList.length = s.size := by simp
end Go.Proofs.Ytjajpdghamecoaa
