/- PutNum: what the specification's text returns. -/
import Derived.Test.YtifcplmgdndmhaaDoorNum
namespace Go.Proofs.YtifcplmgdndmhaaDoor
open Go.RowKit

theorem ret_int' {k : IntKind} {a b : Int} (h : a = b) : Ending.returned (.int k a) = .returned (.int k b) := by rw [h]
theorem foldN_neg' (n : Int) (h : n < 0) : 2 * -(n + 1) + 1 = ((foldN n : Nat) : Int) := by unfold foldN; rw [if_pos h]; omega
theorem foldN_nonneg' (n : Int) (h : ¬ n < 0) : 2 * n = ((foldN n : Nat) : Int) := by unfold foldN; rw [if_neg h]; omega
set_option maxRecDepth 100000 in
set_option maxHeartbeats 400000 in
theorem l01Fold_any (n : Int) (w : World) (h0 : -9223372036854775808 ≤ n) (h1 : n ≤ 9223372036854775807) :
    Calls Tryd.prog 20 #[.int .i64 n] w fun e w' => e = .returned (.int .u64 (foldN n)) ∧ w = w' := by
  by_cases hn : n < 0
  · have H := Lib.hid (foldN_neg' n hn)
    go_enter Tryd.func20, Tryd.ntmps20
    go_wp2
    go_ret
    exact ⟨ret_int' (by rw [← H.out]), rfl⟩
  · have H := Lib.hid (foldN_nonneg' n hn)
    go_enter Tryd.func20, Tryd.ntmps20
    go_wp2
    go_ret
    exact ⟨ret_int' (by rw [← H.out]), rfl⟩

theorem Tryd.info5 : (Tryd.prog.info? 5).map (fun i => (i.zero, i.size, i.bytes)) = some (some (.int .u8 0), 1, 1) := by kernel_rfl
def bs (l : List UInt8) : List Value := l.map (fun c => .int .u8 (c.toNat : Int))
theorem bs_length (l : List UInt8) : (bs l).length = l.length := by simp [bs]
theorem bs_snoc (l : List UInt8) (c : UInt8) : bs (l ++ [c]) = bs l ++ [.int .u8 (c.toNat : Int)] := by simp [bs]
/-- a string made of a row of bytes that the call owns -/
theorem str_own (W : World) (base : Nat) (v : Value) (l : List UInt8) (h : W.ownsRow base 5 1 v l.length (bs l)) :
    (convert 22 9 v).run Tryd.prog W = .ok (.string ⟨l.toArray⟩) W := by
  rcases h.2 with ⟨rfl, hn⟩ | ⟨g, cap, cur, rfl, hb, hg, hc1, hc2, hc3, hc4⟩
  · have : l = [] := List.length_eq_zero_iff.1 hn
    subst this
    exact run_convert_bytes_nil W 22 5 Tryd.underlying22 Tryd.underlying5 0 0 9 Tryd.underlying9
  · refine run_convert_bytes_back W 22 9 5 ⟨g, 0, none⟩ cap l Tryd.underlying22 Tryd.underlying5 Tryd.underlying9 fun j hj => ?_
    exact h.cells rfl j _ (by simp [bs, List.getElem?_eq_getElem hj])

theorem wrap_quo (u : Nat) (h : u < 18446744073709551616) : IntKind.u64.wrap ((u : Int) / 128) = (u : Int) / 128 := by rw [IntKind.wrap_u64]; omega
/-- one byte more behind a row of bytes that the call owns -/
theorem append_byte {ops : Array Oper} {rest : List Oper} {o : Oper} {a : Act} {Q : Exit → Act → World → Prop} {w0 wr : World} (B : Nat) (hgd : o.guard = none) (s x : Operand)
    (ho : o.op = .call { callee := .builtin .append, args := #[s, x], argTypes := #[22, 22] }) (v : Value) (pre : List UInt8) (hs : a.eval s = v) (hown : wr.ownsRow B 5 1 v pre.length (bs pre))
    (c : UInt8) (n : Int) (hn : n = (c.toNat : Int)) (hx : a.eval x = .slice (some ⟨wr.heap.size, 0, none⟩) 1 1) (hlen : pre.length ≤ 1000000000) (hB : B ≤ wr.heap.size) (hbel : Below B w0 wr)
    (h : ∀ v' w', w'.ownsRow B 5 1 v' (pre ++ [c]).length (bs (pre ++ [c])) → Below B w0 w' → B ≤ w'.heap.size → wpList Tryd.prog ops Q rest (a.put o.dst v') w') :
    wpList Tryd.prog ops Q (o :: rest) a (wr.alloc (.cells #[.int .u8 n] 5)) := by
  obtain ⟨i0, hi, hz0, hz1, hz2⟩ := info_parts Tryd.info5
  subst hn
  refine wpList_append_own _ hgd s x 22 ho B 5 i0 (.int .u8 0) 1 1 Tryd.underlying22 hi hz0 hz1 hz2 rfl (by decide) v pre.length (bs pre) hs (hown.alloc _) ⟨wr.heap.size, 0, none⟩ 1 1 [.int .u8 (c.toNat : Int)] hx rfl (cell_one_new _ _ _) ?_ ?_ ?_ ?_ ?_
  · intro u hu; simp at hu; subst hu; rfl
  · unfold maxLen; omega
  · omega
  · simp; omega
  · intro v' w' h1 h2 h3
    have hb' : Below B w0 w' := (hbel.alloc hB _).grown h2 (by simp; omega) (fun k hk => (hown.lt k hk).1)
    refine h v' w' ?_ hb' (Nat.le_trans hB (by have := h2.size; simp at this; omega))
    rw [bs_snoc]; simpa using h1

set_option maxRecDepth 100000 in
set_option maxHeartbeats 400000 in
theorem SpecPutNum_any (n : Int) (w : World) (h0 : -9223372036854775808 ≤ n) (h1 : n ≤ 9223372036854775807) :
    Calls Tryd.prog 8 #[.int .i64 n] w fun e w' => e = .returned (.string (encS n)) ∧ Below w.heap.size w w' := by
  have hu0 := foldN_lt n h0 h1
  go_enter Tryd.func8, Tryd.ntmps8
  go_wp2_with (first | (go_at_call 20; refine (l01Fold_any _ _ h0 h1).mono ?_; rintro e w' ⟨rfl, rfl⟩))
  go_loopw [3, 4] (fun t v wr => ∃ (k u : Nat) (pre : List UInt8), Left (foldN n) k u pre ∧ t = .int .u64 u ∧ wr.ownsRow w.heap.size 5 1 v pre.length (bs pre) ∧ Below w.heap.size w wr) (fun t _ _ => (intOf t).toNat)
  case atStart => exact ⟨0, foldN n, [], left_start _ hu0, rfl, World.ownsRow_made _ _ 0 (Nat.le_refl _) (by unfold maxLen; omega) rfl, (Below.refl _ _).alloc (Nat.le_refl _) _⟩
  case round =>
    clear hu0
    obtain ⟨k, u, pre, hL, rfl, hown, hbel⟩ := hrel
    have HL := Lib.hid hL
    have hk9 : pre.length ≤ 9 := by have := hL.1; have := hL.2.1; omega
    have Hw := Lib.hid (wrap_quo u (left_lt hL))
    clear hL
    have hsz := hbel.size
    by_cases hu : 128 ≤ u
    · have Hv : Hid ((u : Int) % 128 + 128 = ((UInt8.ofNat (u % 128 + 128)).toNat : Int)) := Lib.hid (by simp; omega)
      go_wp2_with (first | (at_builtin; refine append_byte w.heap.size rfl _ _ rfl _ pre rfl hown (UInt8.ofNat (u % 128 + 128)) _ Hv.out rfl (by omega) hsz hbel ?_; intro v' w1 hown' hbel' hsz'))
      go_roundw
      case rel => exact ⟨k + 1, u / 128, pre ++ [UInt8.ofNat (u % 128 + 128)], left_step HL.out hu, by rw [Hw.out]; go_num, hown', hbel'⟩
      case measure => rw [Hw.out]; simp [intOf]; omega
    · have Hv : Hid ((u : Int) = ((UInt8.ofNat u).toNat : Int)) := Lib.hid (by simp; omega)
      have HE := Lib.hid (left_end HL.out hu)
      go_wp2_with (first | (at_builtin; refine append_byte w.heap.size rfl _ _ rfl _ pre rfl hown (UInt8.ofNat u) _ Hv.out rfl (by omega) hsz hbel ?_; intro v' w1 hown' hbel' hsz'; have hcv := str_own _ _ _ _ hown'; rw [HE.out] at hcv; clear hown'))
      go_ret
      exact ⟨rfl, hbel'⟩
end Go.Proofs.YtifcplmgdndmhaaDoor
