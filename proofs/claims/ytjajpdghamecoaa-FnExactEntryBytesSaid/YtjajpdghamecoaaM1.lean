/- Merged texts: Name, Name2, Bytes, NumMath, Num, NormMath, Norm, Num2, Norm2, Join, PutText, Norm3, Name3, DnMath, Dn, Dn2. -/
import Derived.Test.YtjajpdghamecoaaRows
import Derived.WalkKit
import Derived.WalkSpells
import Derived.WalkLawsBesides
import Derived.Lib.Hide
import Derived.Laws.BytesArg
import Derived.Laws.OwnMore
import Derived.Deep.AppendLies
import Derived.Laws.BitsLemmas
import Derived.Laws.Bits64b
import Derived.Lib.BufferWrite
import Derived.Deep.OwnRows
import Derived.Lib.Strings
import Derived.Below
/- What the two texts of NameRight return. -/
namespace Go.Proofs.Ytjajpdghamecoaa
open Go.RowKit

def letB (c : Int) : Bool := decide (97 ≤ c) && decide (c ≤ 122)
def digB (c : Int) : Bool := decide (48 ≤ c) && decide (c ≤ 57)
def nameB (c : Int) : Bool := letB c || digB c || (c == 95)

set_option maxHeartbeats 400000 in
theorem isLetter_any (c : Int) (w : World) :
    Calls Try.prog 121 #[.int .u8 c] w fun e w' => e = .returned (.bool (letB c)) ∧ w = w' := by
  by_cases h1 : 97 ≤ c
  all_goals by_cases h2 : c ≤ 122
  all_goals
    go_enter Try.func121, Try.ntmps121
    go_wp2
    go_ret
    exact ⟨by simp [letB, h1, h2], rfl⟩

set_option maxHeartbeats 400000 in
theorem isNameByte_any (c : Int) (w : World) :
    Calls Try.prog 122 #[.int .u8 c] w fun e w' => e = .returned (.bool (nameB c)) ∧ w = w' := by
  by_cases h1 : 97 ≤ c
  all_goals by_cases h2 : c ≤ 122
  all_goals by_cases h3 : 48 ≤ c
  all_goals by_cases h4 : c ≤ 57
  all_goals by_cases h5 : c = 95
  all_goals try omega
  all_goals
    first | (have hl : letB c = true := by simp [letB, h1, h2]) | (have hl : letB c = false := by simp [letB, h1, h2])
    first | (have h6 : (c == 95) = true := by simp [h5]) | (have h6 : (c == 95) = false := by simp [h5])
    go_enter Try.func122, Try.ntmps122
    go_wp2_with (first | (go_at_call 121; refine (isLetter_any _ _).mono ?_; rintro e w' ⟨rfl, rfl⟩))
    go_ret
    exact ⟨by simp [nameB, hl, digB, h3, h4, h6], rfl⟩
end Go.Proofs.Ytjajpdghamecoaa
/- What the two texts of NameRight return. -/
namespace Go.Proofs.Ytjajpdghamecoaa
open Go.RowKit

def allB (l : List UInt8) : Bool := l.all (fun c => nameB (c.toNat : Int))
def nmL (s : ByteArray) : Bool := decide (1 ≤ s.size) && decide (s.size ≤ 20) && letB ((s.data.toList.getD 0 0).toNat : Int) && allB s.data.toList

theorem take_snoc (s : ByteArray) (k : Nat) (h : k < s.size) : s.data.toList.take (k + 1) = s.data.toList.take k ++ [s[k]] := by
  rw [List.take_succ_eq_append_getElem (by simpa using h)]; rfl
theorem allB_snoc (l : List UInt8) (c : UInt8) : allB (l ++ [c]) = (allB l && nameB (c.toNat : Int)) := by simp [allB]
theorem getD_zero (s : ByteArray) (h : 0 < s.size) : s.data.toList.getD 0 0 = s[0] := by
  have h' : 0 < s.data.toList.length := by simpa using h
  rw [List.getD_eq_getElem?_getD, List.getElem?_eq_getElem h']; rfl
theorem mem_get (s : ByteArray) (k : Nat) (h : k < s.size) : s[k] ∈ s.data.toList := by
  have : s.data.toList[k]'(by simpa using h) = s[k] := rfl
  rw [← this]; exact List.getElem_mem _
theorem allB_false (s : ByteArray) (k : Nat) (h : k < s.size) (hn : nameB (s[k].toNat : Int) = false) : allB s.data.toList = false := by
  unfold allB; rw [List.all_eq_false]; exact ⟨_, mem_get s k h, by simp [hn]⟩
theorem ret_bool {a b : Bool} (h : a = b) : Ending.returned (.bool a) = .returned (.bool b) := by rw [h]

set_option maxHeartbeats 400000 in
theorem NameRight_any (s : ByteArray) (w : World) (hs : s.size ≤ maxLen) :
    Calls Try.prog 91 #[.string s] w fun e w' => e = .returned (.bool (nmL s)) ∧ w = w' := by
  unfold maxLen at hs
  by_cases h1 : s.size < 1
  · have hf : nmL s = false := by have : ¬ 1 ≤ s.size := by omega
                                  simp [nmL, this]
    have Hf := Lib.hid hf; clear hf
    go_enter Try.func91, Try.ntmps91
    go_wp2
    go_ret
    exact ⟨ret_bool Hf.out.symm, rfl⟩
  by_cases h2 : 20 < s.size
  · have hf : nmL s = false := by have : ¬ s.size ≤ 20 := by omega
                                  simp [nmL, this]
    have Hf := Lib.hid hf; clear hf
    go_enter Try.func91, Try.ntmps91
    go_wp2
    go_ret
    exact ⟨ret_bool Hf.out.symm, rfl⟩
  have h0 : 0 < s.size := by omega
  have hg := getD_zero s h0
  cases h3 : letB (s[0].toNat : Int)
  · have hf : nmL s = false := by simp [nmL, -List.getD_eq_getElem?_getD, hg, h3]
    have Hf := Lib.hid hf; clear hf hg
    go_enter Try.func91, Try.ntmps91
    go_wp2_with (first | (go_at_call 121; refine (isLetter_any _ _).mono ?_; rintro e w' ⟨rfl, rfl⟩))
    go_ret
    exact ⟨ret_bool Hf.out.symm, rfl⟩
  have hf : nmL s = allB s.data.toList := by simp only [nmL, hg, h3]; simp; omega
  have Hf := Lib.hid hf; clear hf hg
  go_enter Try.func91, Try.ntmps91
  go_wp2_with (first | (go_at_call 121; refine (isLetter_any _ _).mono ?_; rintro e w' ⟨rfl, rfl⟩))
  go_loop [20] (fun i => ∃ k : Nat, k ≤ s.size ∧ i = .int .i64 k ∧ allB (s.data.toList.take k) = true) (fun i => s.size - (intOf i).toNat)
  case atStart => exact ⟨0, Nat.zero_le _, rfl, rfl⟩
  case round =>
    obtain ⟨k, hk, rfl, ha⟩ := hrel
    have Ha := Lib.hid ha; clear ha
    by_cases hlt : k < s.size
    · have hts := Lib.hid (take_snoc s k hlt)
      cases hn : nameB (s[k].toNat : Int)
      · have hF := Lib.hid (allB_false s k hlt hn)
        go_wp2_with (first | (go_at_call 122; refine (isNameByte_any _ _).mono ?_; rintro e w' ⟨rfl, rfl⟩))
        go_ret
        exact ⟨ret_bool (by rw [Hf.out, hF.out]), rfl⟩
      · have hT : allB (s.data.toList.take (k + 1)) = true := by rw [hts.out, allB_snoc, Ha.out, hn]; rfl
        have HT := Lib.hid hT; clear hT
        go_wp2_with (first | (go_at_call 122; refine (isNameByte_any _ _).mono ?_; rintro e w' ⟨rfl, rfl⟩))
        go_round
        case rel => exact ⟨k + 1, by omega, by go_num, HT.out⟩
        case measure => simp [intOf]; omega
    · go_wp2
      go_ret
      refine ⟨ret_bool ?_, rfl⟩
      rw [Hf.out, ← Ha.out, List.take_of_length_le (by simp; omega)]
end Go.Proofs.Ytjajpdghamecoaa
/- Rows of bytes that a call owns, and the strings made of them. -/
namespace Go.Proofs.Ytjajpdghamecoaa
open Go.RowKit

theorem Try.size5 (w : World) : (sizeOf 5).run Try.prog w = .ok 1 w := by kernel_rfl
theorem Try.info5 : (Try.prog.info? 5).map (fun i => (i.zero, i.size, i.bytes)) = some (some (.int .u8 0), 1, 1) := by kernel_rfl
theorem add_plain (b j : Nat) : (⟨b, 0, none⟩ : Addr).add j = ⟨b, j, none⟩ := by unfold Addr.add; split <;> simp_all
theorem str22 (W : World) (a : Addr) (cap : Nat) (l : List UInt8) (n : Nat) (hn : l.length = n) (hc : ∀ j (hj : j < l.length), W.cell? (a.add j) = some (.int .u8 (l[j].toNat : Int))) :
    (convert 22 9 (.slice (some a) n cap)).run Try.prog W = .ok (.string ⟨l.toArray⟩) W := by
  subst hn
  exact run_convert_bytes_back W 22 9 5 a cap l Try.underlying22 Try.underlying5 Try.underlying9 hc
def bs (l : List UInt8) : List Value := l.map (fun c => .int .u8 (c.toNat : Int))
theorem bs_length (l : List UInt8) : (bs l).length = l.length := by simp [bs]
theorem bs_snoc (l : List UInt8) (c : UInt8) : bs (l ++ [c]) = bs l ++ [.int .u8 (c.toNat : Int)] := by simp [bs]
/-- a string made of a row of bytes that the call owns -/
theorem str_own (W : World) (base : Nat) (v : Value) (l : List UInt8) (h : W.ownsRow base 5 1 v l.length (bs l)) :
    (convert 22 9 v).run Try.prog W = .ok (.string ⟨l.toArray⟩) W := by
  rcases h.2 with ⟨rfl, hn⟩ | ⟨g, cap, cur, rfl, hb, hg, hc1, hc2, hc3, hc4⟩
  · have : l = [] := List.length_eq_zero_iff.1 hn
    subst this
    exact run_convert_bytes_nil W 22 5 Try.underlying22 Try.underlying5 0 0 9 Try.underlying9
  · refine run_convert_bytes_back W 22 9 5 ⟨g, 0, none⟩ cap l Try.underlying22 Try.underlying5 Try.underlying9 fun j hj => ?_
    exact h.cells rfl j _ (by simp [bs, List.getElem?_eq_getElem hj])
/-- one byte more behind a row of bytes that the call owns -/
theorem append_byte {ops : Array Oper} {rest : List Oper} {o : Oper} {a : Act} {Q : Exit → Act → World → Prop} {w0 wr : World} (B : Nat) (hgd : o.guard = none) (s x : Operand)
    (ho : o.op = .call { callee := .builtin .append, args := #[s, x], argTypes := #[22, 22] }) (v : Value) (pre : List UInt8) (hs : a.eval s = v) (hown : wr.ownsRow B 5 1 v pre.length (bs pre))
    (c : UInt8) (n : Int) (hn : n = (c.toNat : Int)) (hx : a.eval x = .slice (some ⟨wr.heap.size, 0, none⟩) 1 1) (hlen : pre.length ≤ 1000000000) (hB : B ≤ wr.heap.size) (hbel : Below B w0 wr)
    (h : ∀ v' w', w'.ownsRow B 5 1 v' (pre ++ [c]).length (bs (pre ++ [c])) → Below B w0 w' → B ≤ w'.heap.size → wpList Try.prog ops Q rest (a.put o.dst v') w') :
    wpList Try.prog ops Q (o :: rest) a (wr.alloc (.cells #[.int .u8 n] 5)) := by
  obtain ⟨i0, hi, hz0, hz1, hz2⟩ := info_parts Try.info5
  subst hn
  refine wpList_append_own _ hgd s x 22 ho B 5 i0 (.int .u8 0) 1 1 Try.underlying22 hi hz0 hz1 hz2 rfl (by decide) v pre.length (bs pre) hs (hown.alloc _) ⟨wr.heap.size, 0, none⟩ 1 1 [.int .u8 (c.toNat : Int)] hx rfl (cell_one_new _ _ _) ?_ ?_ ?_ ?_ ?_
  · intro u hu; simp at hu; subst hu; rfl
  · unfold maxLen; omega
  · omega
  · simp; omega
  · intro v' w' h1 h2 h3
    have hb' : Below B w0 w' := (hbel.alloc hB _).grown h2 (by simp; omega) (fun k hk => (hown.lt k hk).1)
    refine h v' w' ?_ hb' (Nat.le_trans hB (by have := h2.size; simp at this; omega))
    rw [bs_snoc]; simpa using h1
/-- the value of a row that the call owns is a slice -/
theorem own_slice {w : World} {B e z n : Nat} {v : Value} {xs : List Value} (h : w.ownsRow B e z v n xs) : ∃ ao cap, v = .slice ao n cap := by
  rcases h.2 with ⟨rfl, rfl⟩ | ⟨g, cap, cur, rfl, _⟩
  · exact ⟨none, 0, rfl⟩
  · exact ⟨_, cap, rfl⟩
/-- the last byte of such a row -/
theorem own_last {w : World} {B n cap : Nat} {ao : Option Addr} {pre : List UInt8} {c : UInt8} (h : w.ownsRow B 5 1 (.slice ao n cap) pre.length (bs pre)) (hn : n = pre.length) (hc : pre.getLast? = some c) :
    ∃ g, ao = some ⟨g, 0, none⟩ ∧ w.cell? ⟨g, n - 1, none⟩ = some (.int .u8 (c.toNat : Int)) := by
  have h0 : 0 < pre.length := by
    rcases pre with _ | ⟨x, l⟩
    · simp at hc
    · simp
  obtain ⟨g, cp, hv, _, _⟩ := h.form h0
  have e : ao = some ⟨g, 0, none⟩ := by injection hv
  subst e
  refine ⟨g, rfl, ?_⟩
  have := h.cells (g := g) rfl (n - 1) (.int .u8 (c.toNat : Int)) (by
    rw [bs, List.getElem?_map, hn, ← List.getLast?_eq_getElem?, hc]; rfl)
  rw [add_plain] at this
  exact this
theorem ret_str {a b : ByteArray} (h : a = b) : Ending.returned (.string a) = .returned (.string b) := by rw [h]
theorem size_len (s : ByteArray) : s.data.toList.length = s.size := by simp
end Go.Proofs.Ytjajpdghamecoaa
/- The encoding of an integer: plain mathematics. -/
namespace Go.Proofs.Ytjajpdghamecoaa
open Go

/-- 2n, or -2n - 1 -/
def foldN (n : Int) : Nat := (if n < 0 then -2 * n - 1 else 2 * n).toNat
/-- the groups of seven bits of a number of at most 7 * f bits -/
def encF : Nat → Nat → List UInt8
  | 0, u => [UInt8.ofNat u]
  | f + 1, u => if 128 ≤ u then UInt8.ofNat (u % 128 + 128) :: encF f (u / 128) else [UInt8.ofNat u]
def enc (u : Nat) : List UInt8 := encF 9 u
def encS (n : Int) : ByteArray := ⟨(enc (foldN n)).toArray⟩

theorem foldN_nonneg (n : Int) (h : ¬ n < 0) : n * 2 = ((foldN n : Nat) : Int) := by unfold foldN; rw [if_neg h]; omega
theorem foldN_lt (n : Int) (h0 : -9223372036854775808 ≤ n) (h1 : n ≤ 9223372036854775807) : foldN n < 18446744073709551616 := by
  unfold foldN; split <;> omega
theorem flip_u64 (r : Nat) (h : r < 18446744073709551616) : bits .xor .u64 IntKind.u64.max (r : Int) = ((18446744073709551615 - r : Nat) : Int) := by
  have e := bits_xor_u64_nat 18446744073709551615 r (by decide) h
  have f := congrArg BitVec.toNat (BitVec.allOnes_xor (x := BitVec.ofNat 64 r))
  rw [BitVec.toNat_xor, BitVec.toNat_not, BitVec.toNat_allOnes, BitVec.toNat_ofNat, Nat.mod_eq_of_lt (by omega)] at f
  have f' : 18446744073709551615 ^^^ r = 18446744073709551615 - r := by simpa using f
  rw [f'] at e
  exact e
theorem foldN_neg (n : Int) (h : n < 0) (h0 : -9223372036854775808 ≤ n) :
    bits .xor .u64 IntKind.u64.max (IntKind.u64.wrap (IntKind.u64.wrap n * 2)) = ((foldN n : Nat) : Int) := by
  rw [IntKind.wrap_u64, IntKind.wrap_u64]
  obtain ⟨r, hr⟩ := Int.eq_ofNat_of_zero_le (show 0 ≤ n % 18446744073709551616 * 2 % 18446744073709551616 by omega)
  rw [hr, flip_u64 r (by omega)]
  unfold foldN
  rw [if_pos h]
  omega

/-- what is left to be written after k groups fits in the groups that are left -/
def Left (u0 k u : Nat) (pre : List UInt8) : Prop := k ≤ 9 ∧ pre.length = k ∧ u < 2 ^ (64 - 7 * k) ∧ pre ++ encF (9 - k) u = enc u0
theorem left_start (u0 : Nat) (h : u0 < 18446744073709551616) : Left u0 0 u0 [] := ⟨by decide, rfl, h, rfl⟩
theorem left_room {u0 k u : Nat} {pre : List UInt8} (h : Left u0 k u pre) (hu : 128 ≤ u) : k ≤ 8 := by
  obtain ⟨h1, h2, h3, h4⟩ := h
  by_cases e : k = 9
  · subst e; simp at h3; omega
  · omega
theorem left_lt {u0 k u : Nat} {pre : List UInt8} (h : Left u0 k u pre) : u < 18446744073709551616 :=
  Nat.lt_of_lt_of_le h.2.2.1 (Nat.pow_le_pow_right (n := 2) (by decide) (show 64 - 7 * k ≤ 64 by omega))
theorem left_step {u0 k u : Nat} {pre : List UInt8} (h : Left u0 k u pre) (hu : 128 ≤ u) :
    Left u0 (k + 1) (u / 128) (pre ++ [UInt8.ofNat (u % 128 + 128)]) := by
  have hr := left_room h hu
  obtain ⟨h1, h2, h3, h4⟩ := h
  refine ⟨by omega, by simp [h2], ?_, ?_⟩
  · rw [Nat.div_lt_iff_lt_mul (by decide)]
    have : 2 ^ (64 - 7 * (k + 1)) * 128 = 2 ^ (64 - 7 * k) := by
      rw [show (128 : Nat) = 2 ^ 7 from rfl, ← Nat.pow_add]; congr 1; omega
    omega
  · rw [← h4, show 9 - k = (9 - (k + 1)) + 1 by omega]
    simp [encF, hu]
theorem left_end {u0 k u : Nat} {pre : List UInt8} (h : Left u0 k u pre) (hu : ¬ 128 ≤ u) : pre ++ [UInt8.ofNat u] = enc u0 := by
  obtain ⟨h1, h2, h3, h4⟩ := h
  rw [← h4]
  cases e : 9 - k with
  | zero => rfl
  | succ m => simp [encF, hu]
theorem enc_len (u0 : Nat) : 1 ≤ (enc u0).length ∧ (enc u0).length ≤ 10 := by
  have : ∀ f u, 1 ≤ (encF f u).length ∧ (encF f u).length ≤ f + 1 := by
    intro f
    induction f with
    | zero => intro u; simp [encF]
    | succ f ih =>
      intro u
      have := ih (u / 128)
      unfold encF
      split <;> simp <;> omega
  exact this 9 u0
end Go.Proofs.Ytjajpdghamecoaa
/- PutNum: what the program's text returns. -/
namespace Go.Proofs.Ytjajpdghamecoaa
open Go.RowKit

theorem Try.alen128 : Try.prog.arrayLen 128 = 10 := by kernel_rfl
theorem Try.elem128 : Try.prog.elem 128 = 5 := by kernel_rfl
theorem slice49 (a : Addr) (k : Nat) (hk : k ≤ 9) (w : World) :
    (Instr.sliceAt 128 (.pointer (some a)) none (some (.int .i64 ((k : Int) + 1))) none).run Try.prog w = .ok (.slice (some a) (k + 1) 10) w := by
  have hh : ((k : Int) + 1) ≤ Try.prog.arrayLen 128 := by rw [Try.alen128]; omega
  rw [run_sliceAt_array_h w 128 a (by rw [Try.alen128, Try.elem128]; exact Try.underlying128) .i64 _ (by omega) hh, Try.elem128, Try.size5, Try.alen128]
  have e : ((k : Int) + 1).toNat = k + 1 := by omega
  simp [Result.andThen, slicedAt, e, Addr.add]
theorem byte_low (u : Nat) (h : u < 18446744073709551616) : (bits .and .u64 (u : Int) 127 + 128) % 256 = ((UInt8.ofNat (u % 128 + 128)).toNat : Int) := by
  have e := bits_and_u64_nat u 127 h (by decide)
  have e' : bits .and .u64 (u : Int) 127 = ((u &&& 127 : Nat) : Int) := e
  rw [e', show (127 : Nat) = 2 ^ 7 - 1 from rfl, Nat.and_two_pow_sub_one_eq_mod]
  simp
theorem set_snoc {C : Array Value} {pre : List UInt8} {k : Nat} (hk : k < C.size) (hl : pre.length = k) (c : UInt8) {v : Int} (hv : v = (c.toNat : Int))
    (hp : ∀ j (hj : j < pre.length), C[j]? = some (.int .u8 (pre[j].toNat : Int))) :
    ∀ j (hj : j < (pre ++ [c]).length), (C.setIfInBounds k (.int .u8 v))[j]? = some (.int .u8 ((pre ++ [c])[j].toNat : Int)) := by
  intro j hj
  simp at hj
  rw [Array.getElem?_setIfInBounds]
  by_cases e : k = j
  · subst e; subst hl
    simp [hk, hv]
  · rw [if_neg e, hp j (by omega), List.getElem_append_left (by omega)]

set_option maxRecDepth 100000 in
set_option maxHeartbeats 400000 in
theorem PutNum_any (n : Int) (w : World) (h0 : -9223372036854775808 ≤ n) (h1 : n ≤ 9223372036854775807) :
    Calls Try.prog 82 #[.int .i64 n] w fun e w' => e = .returned (.string (encS n)) ∧ Below w.heap.size w w' := by
  have hu0 := foldN_lt n h0 h1
  by_cases hn : n < 0
  all_goals
    first | (have HN := Lib.hid (foldN_neg n hn h0)) | (have HN := Lib.hid (foldN_nonneg n hn))
    go_enter Try.func82, Try.ntmps82
    go_wp2
    rw [HN.out]
    generalize hW : w.alloc (.cells #[Value.int IntKind.u8 0, Value.int IntKind.u8 0, Value.int IntKind.u8 0, Value.int IntKind.u8 0, Value.int IntKind.u8 0, Value.int IntKind.u8 0, Value.int IntKind.u8 0, Value.int IntKind.u8 0, Value.int IntKind.u8 0, Value.int IntKind.u8 0] 128) = W0
    have HW := Lib.hid hW; clear hW
    go_loopw [3, 5] (fun t i wr => ∃ (k u : Nat) (pre : List UInt8) (C : Array Value), Left (foldN n) k u pre ∧ i = .int .i64 k ∧ t = .int .u64 u ∧ C.size = 10 ∧ (∀ j (hj : j < pre.length), C[j]? = some (.int .u8 (pre[j].toNat : Int))) ∧ wr = w.alloc (.cells C 128)) (fun t _ _ => (intOf t).toNat)
    case atStart => exact ⟨0, foldN n, [], _, left_start _ hu0, rfl, rfl, rfl, fun j hj => absurd hj (by simp), HW.out.symm⟩
    case round =>
      clear hu0 HW
      obtain ⟨k, u, pre, C, hL, rfl, rfl, hC, hp, rfl⟩ := hrel
      have Hp := Lib.hid hp
      have HL := Lib.hid hL
      have hk9 : k ≤ 9 := hL.1
      have Hlt := Lib.hid (left_lt hL)
      obtain ⟨v0, hv0⟩ : ∃ v, C[k]? = some v := ⟨C[k], Array.getElem?_eq_getElem (by omega)⟩
      have hcell : (w.alloc (.cells C 128)).cell? ⟨w.heap.size, k, none⟩ = some v0 := by rw [World.cell?_alloc_mark]; exact hv0
      have hC' : k < C.size := by omega
      have HC := Lib.hid hC
      clear hp hL hC
      by_cases hu : 128 ≤ u
      · have hk8 := left_room HL.out hu
        go_wp2
        go_roundw
        case rel => exact ⟨k + 1, u / 128, pre ++ [UInt8.ofNat (u % 128 + 128)], _, left_step HL.out hu, by go_num, by go_num, by rw [Array.size_setIfInBounds]; exact HC.out, set_snoc hC' HL.out.2.1 _ (byte_low u Hlt.out) Hp.out, rfl⟩
        case measure => simp [intOf]; omega
      · have hsl := slice49 ⟨w.heap.size, 0, none⟩ k hk9
        have hE := left_end HL.out hu
        have hcs := set_snoc hC' HL.out.2.1 (UInt8.ofNat u) (v := (u : Int)) (by simp; omega) Hp.out
        have hcv := str22 (w.alloc (.cells (C.setIfInBounds k (.int .u8 (u : Int))) 128)) ⟨w.heap.size, 0, none⟩ 10 (pre ++ [UInt8.ofNat u]) (k + 1) (by simp [HL.out.2.1]) (fun j hj => by rw [add_plain, World.cell?_alloc_mark]; exact hcs j hj)
        rw [hE] at hcv
        clear hcs
        have HE := Lib.hid hE; clear hE
        go_wp2
        go_ret
        exact ⟨rfl, (Below.refl _ _).alloc (Nat.le_refl _) _⟩
end Go.Proofs.Ytjajpdghamecoaa
/- Norm: the plain mathematics. -/
namespace Go.Proofs.Ytjajpdghamecoaa
open Go.RowKit

/-- the small letter of a capital one -/
def low (c : UInt8) : UInt8 := if 65 ≤ c.toNat ∧ c.toNat ≤ 90 then UInt8.ofNat (c.toNat + 32) else c
theorem low_in (c : UInt8) (h : 65 ≤ c.toNat ∧ c.toNat ≤ 90) : ((low c).toNat : Int) = (c.toNat : Int) + 32 := by
  unfold low; rw [if_pos h]; simp; omega
theorem low_out (c : UInt8) (h : ¬ (65 ≤ c.toNat ∧ c.toNat ≤ 90)) : low c = c := by unfold low; rw [if_neg h]
theorem low_space (c : UInt8) : low c = 32 ↔ c = 32 := by
  by_cases h : 65 ≤ c.toNat ∧ c.toNat ≤ 90
  · constructor
    · intro e
      have h1 := low_in c h
      rw [e] at h1
      have : ((32 : UInt8).toNat : Int) = 32 := rfl
      omega
    · intro e; subst e; simp at h
  · rw [low_out c h]
/-- one byte more of a normalized text -/
def nstep (o : List UInt8) (c : UInt8) : List UInt8 := if c = 32 ∧ (o = [] ∨ o.getLast? = some 32) then o else o ++ [low c]
def nfold (l : List UInt8) : List UInt8 := l.foldl nstep []
def chop (o : List UInt8) : List UInt8 := if o.getLast? = some 32 then o.dropLast else o
def plainB (l : List UInt8) : Bool := l.all (fun c => decide (32 ≤ (c.toNat : Int)) && decide ((c.toNat : Int) ≤ 126))
def normL (l : List UInt8) : List UInt8 := if l.length ≤ 100 ∧ plainB l = true then chop (nfold l) else []
def normS (s : ByteArray) : ByteArray := ⟨(normL s.data.toList).toArray⟩

theorem nstep_skip {o : List UInt8} {c : UInt8} (h1 : c = 32) (h2 : o = [] ∨ o.getLast? = some 32) : nstep o c = o := by unfold nstep; rw [if_pos ⟨h1, h2⟩]
theorem nstep_add {o : List UInt8} {c : UInt8} (h : ¬ (c = 32 ∧ (o = [] ∨ o.getLast? = some 32))) : nstep o c = o ++ [low c] := by unfold nstep; rw [if_neg h]
theorem nfold_snoc (l : List UInt8) (c : UInt8) : nfold (l ++ [c]) = nstep (nfold l) c := by simp [nfold]
theorem nfold_len (l : List UInt8) : (nfold l).length ≤ l.length := by
  have : ∀ (l o : List UInt8), (l.foldl nstep o).length ≤ o.length + l.length := by
    intro l
    induction l with
    | nil => intro o; simp
    | cons c l ih =>
      intro o
      rw [List.foldl_cons]
      refine Nat.le_trans (ih _) ?_
      unfold nstep
      split <;> simp <;> omega
  simpa [nfold] using this l []
theorem chop_len (o : List UInt8) : (chop o).length ≤ o.length := by unfold chop; split <;> simp
theorem normL_len (l : List UInt8) : (normL l).length ≤ 100 := by
  unfold normL
  split
  · rename_i h
    exact Nat.le_trans (chop_len _) (Nat.le_trans (nfold_len l) h.1)
  · simp
theorem normL_le (l : List UInt8) : (normL l).length ≤ l.length := by
  unfold normL
  split
  · exact Nat.le_trans (chop_len _) (nfold_len l)
  · simp
theorem normL_long {l : List UInt8} (h : ¬ l.length ≤ 100) : normL l = [] := by unfold normL; rw [if_neg (fun g => h g.1)]
theorem normL_odd {l : List UInt8} (h : plainB l = false) : normL l = [] := by unfold normL; rw [if_neg (fun g => by rw [h] at g; cases g.2)]
theorem normL_in {l : List UInt8} (h : l.length ≤ 100) (g : plainB l = true) : normL l = chop (nfold l) := by unfold normL; rw [if_pos ⟨h, g⟩]
theorem plainB_snoc (l : List UInt8) (c : UInt8) : plainB (l ++ [c]) = (plainB l && (decide (32 ≤ (c.toNat : Int)) && decide ((c.toNat : Int) ≤ 126))) := by simp [plainB]
theorem plainB_false (s : ByteArray) (k : Nat) (h : k < s.size) (hn : ¬ (32 ≤ (s[k].toNat : Int) ∧ (s[k].toNat : Int) ≤ 126)) : plainB s.data.toList = false := by
  unfold plainB; rw [List.all_eq_false]; exact ⟨_, mem_get s k h, by simp; omega⟩
end Go.Proofs.Ytjajpdghamecoaa
/- Norm: what the texts of the program and of the specification return. -/
namespace Go.Proofs.Ytjajpdghamecoaa
open Go.RowKit

set_option maxHeartbeats 400000 in
theorem isPrintable_any (s : ByteArray) (w : World) (hs : s.size ≤ maxLen) :
    Calls Try.prog 126 #[.string s] w fun e w' => e = .returned (.bool (plainB s.data.toList)) ∧ w = w' := by
  unfold maxLen at hs
  go_enter Try.func126, Try.ntmps126
  go_wp2
  go_loop [6] (fun i => ∃ k : Nat, k ≤ s.size ∧ i = .int .i64 k ∧ plainB (s.data.toList.take k) = true) (fun i => s.size - (intOf i).toNat)
  case atStart => exact ⟨0, Nat.zero_le _, rfl, rfl⟩
  case round =>
    obtain ⟨k, hk, rfl, ha⟩ := hrel
    have Ha := Lib.hid ha; clear ha
    by_cases hlt : k < s.size
    · have hts := Lib.hid (take_snoc s k hlt)
      by_cases hp : 32 ≤ (s[k].toNat : Int) ∧ (s[k].toNat : Int) ≤ 126
      · obtain ⟨c1, c2⟩ := hp
        have HT : Hid (plainB (s.data.toList.take (k + 1)) = true) := Lib.hid (by rw [hts.out, plainB_snoc, Ha.out]; simp; omega)
        go_wp2
        go_round
        case rel => exact ⟨k + 1, by omega, by go_num, HT.out⟩
        case measure => simp [intOf]; omega
      · have HF := Lib.hid (plainB_false s k hlt hp)
        by_cases c1 : 32 ≤ (s[k].toNat : Int)
        · have c2 : ¬ (s[k].toNat : Int) ≤ 126 := by omega
          clear hp
          go_wp2
          go_ret
          exact ⟨ret_bool HF.out.symm, rfl⟩
        · clear hp
          go_wp2
          go_ret
          exact ⟨ret_bool HF.out.symm, rfl⟩
    · have e : s.data.toList.take k = s.data.toList := List.take_of_length_le (by simp; omega)
      have HT : Hid (plainB s.data.toList = true) := Lib.hid (by rw [← e]; exact Ha.out)
      clear e
      go_wp2
      go_ret
      exact ⟨ret_bool HT.out.symm, rfl⟩
set_option maxHeartbeats 400000 in
theorem l02Plain_any (s : ByteArray) (w : World) (hs : s.size ≤ maxLen) :
    Calls Try.prog 124 #[.string s] w fun e w' => e = .returned (.bool (plainB s.data.toList)) ∧ w = w' := by
  unfold maxLen at hs
  go_enter Try.func124, Try.ntmps124
  go_wp2
  go_loop [3] (fun i => ∃ k : Nat, k ≤ s.size ∧ i = .int .i64 k ∧ plainB (s.data.toList.take k) = true) (fun i => s.size - (intOf i).toNat)
  case atStart => exact ⟨0, Nat.zero_le _, rfl, rfl⟩
  case round =>
    obtain ⟨k, hk, rfl, ha⟩ := hrel
    have Ha := Lib.hid ha; clear ha
    by_cases hlt : k < s.size
    · have hts := Lib.hid (take_snoc s k hlt)
      by_cases hp : 32 ≤ (s[k].toNat : Int) ∧ (s[k].toNat : Int) ≤ 126
      · obtain ⟨c1, c2⟩ := hp
        have HT : Hid (plainB (s.data.toList.take (k + 1)) = true) := Lib.hid (by rw [hts.out, plainB_snoc, Ha.out]; simp; omega)
        go_wp2
        go_round
        case rel => exact ⟨k + 1, by omega, by go_num, HT.out⟩
        case measure => simp [intOf]; omega
      · have HF := Lib.hid (plainB_false s k hlt hp)
        by_cases c1 : 32 ≤ (s[k].toNat : Int)
        · have c2 : ¬ (s[k].toNat : Int) ≤ 126 := by omega
          clear hp
          go_wp2
          go_ret
          exact ⟨ret_bool HF.out.symm, rfl⟩
        · clear hp
          go_wp2
          go_ret
          exact ⟨ret_bool HF.out.symm, rfl⟩
    · have e : s.data.toList.take k = s.data.toList := List.take_of_length_le (by simp; omega)
      have HT : Hid (plainB s.data.toList = true) := Lib.hid (by rw [← e]; exact Ha.out)
      clear e
      go_wp2
      go_ret
      exact ⟨ret_bool HT.out.symm, rfl⟩

theorem ret_int' {k : IntKind} {a b : Int} (h : a = b) : Ending.returned (.int k a) = .returned (.int k b) := by rw [h]
set_option maxHeartbeats 400000 in
theorem lowerByte_any (c : UInt8) (w : World) :
    Calls Try.prog 127 #[.int .u8 (c.toNat : Int)] w fun e w' => e = .returned (.int .u8 ((low c).toNat : Int)) ∧ w = w' := by
  by_cases h : 65 ≤ c.toNat ∧ c.toNat ≤ 90
  · have H := Lib.hid (low_in c h)
    have h1 : 65 ≤ (c.toNat : Int) := by omega
    have h2 : (c.toNat : Int) ≤ 90 := by omega
    clear h
    go_enter Try.func127, Try.ntmps127
    go_wp2
    go_ret
    exact ⟨ret_int' (by rw [H.out]; omega), rfl⟩
  · have H := Lib.hid (low_out c h)
    by_cases h1 : 65 ≤ (c.toNat : Int)
    · have h2 : ¬ (c.toNat : Int) ≤ 90 := by omega
      clear h
      go_enter Try.func127, Try.ntmps127
      go_wp2
      go_ret
      exact ⟨ret_int' (by rw [H.out]), rfl⟩
    · clear h
      go_enter Try.func127, Try.ntmps127
      go_wp2
      go_ret
      exact ⟨ret_int' (by rw [H.out]), rfl⟩
end Go.Proofs.Ytjajpdghamecoaa
/- PutNum: what the specification's text returns. -/
namespace Go.Proofs.Ytjajpdghamecoaa
open Go.RowKit

theorem foldN_neg' (n : Int) (h : n < 0) : 2 * -(n + 1) + 1 = ((foldN n : Nat) : Int) := by unfold foldN; rw [if_pos h]; omega
theorem foldN_nonneg' (n : Int) (h : ¬ n < 0) : 2 * n = ((foldN n : Nat) : Int) := by unfold foldN; rw [if_neg h]; omega
set_option maxRecDepth 100000 in
set_option maxHeartbeats 400000 in
theorem l01Fold_any (n : Int) (w : World) (h0 : -9223372036854775808 ≤ n) (h1 : n ≤ 9223372036854775807) :
    Calls Try.prog 135 #[.int .i64 n] w fun e w' => e = .returned (.int .u64 (foldN n)) ∧ w = w' := by
  by_cases hn : n < 0
  · have H := Lib.hid (foldN_neg' n hn)
    go_enter Try.func135, Try.ntmps135
    go_wp2
    go_ret
    exact ⟨ret_int' (by rw [← H.out]), rfl⟩
  · have H := Lib.hid (foldN_nonneg' n hn)
    go_enter Try.func135, Try.ntmps135
    go_wp2
    go_ret
    exact ⟨ret_int' (by rw [← H.out]), rfl⟩


theorem wrap_quo (u : Nat) (h : u < 18446744073709551616) : IntKind.u64.wrap ((u : Int) / 128) = (u : Int) / 128 := by rw [IntKind.wrap_u64]; omega

set_option maxRecDepth 100000 in
set_option maxHeartbeats 400000 in
theorem SpecPutNum_any (n : Int) (w : World) (h0 : -9223372036854775808 ≤ n) (h1 : n ≤ 9223372036854775807) :
    Calls Try.prog 117 #[.int .i64 n] w fun e w' => e = .returned (.string (encS n)) ∧ Below w.heap.size w w' := by
  have hu0 := foldN_lt n h0 h1
  go_enter Try.func117, Try.ntmps117
  go_wp2_with (first | (go_at_call 135; refine (l01Fold_any _ _ h0 h1).mono ?_; rintro e w' ⟨rfl, rfl⟩))
  go_loopw [3, 4] (fun t v wr => ∃ (k u : Nat) (pre : List UInt8), Left (foldN n) k u pre ∧ t = .int .u64 u ∧ wr.ownsRow w.heap.size 5 1 v pre.length (bs pre) ∧ Below w.heap.size w wr) (fun t _ _ => (intOf t).toNat)
  case atStart => exact ⟨0, foldN n, [], left_start _ hu0, rfl, World.ownsRow_made _ _ 0 (Nat.le_refl _) (by unfold maxLen; omega) rfl, (Below.refl _ _).alloc (Nat.le_refl _) _⟩
  case round =>
    clear hu0
    obtain ⟨k, u, pre, hL, rfl, hown, hbel⟩ := hrel
    have HL := Lib.hid hL
    have hk9 : pre.length ≤ 9 := by have := hL.1; have := hL.2.1; omega
    have Hw := Lib.hid (wrap_quo u (left_lt hL))
    clear hL
    have hsz := hbel.size
    by_cases hu : 128 ≤ u
    · have Hv : Hid ((u : Int) % 128 + 128 = ((UInt8.ofNat (u % 128 + 128)).toNat : Int)) := Lib.hid (by simp; omega)
      go_wp2_with (first | (at_builtin; refine append_byte w.heap.size rfl _ _ rfl _ pre rfl hown (UInt8.ofNat (u % 128 + 128)) _ Hv.out rfl (by omega) hsz hbel ?_; intro v' w1 hown' hbel' hsz'))
      go_roundw
      case rel => exact ⟨k + 1, u / 128, pre ++ [UInt8.ofNat (u % 128 + 128)], left_step HL.out hu, by rw [Hw.out]; go_num, hown', hbel'⟩
      case measure => rw [Hw.out]; simp [intOf]; omega
    · have Hv : Hid ((u : Int) = ((UInt8.ofNat u).toNat : Int)) := Lib.hid (by simp; omega)
      have HE := Lib.hid (left_end HL.out hu)
      go_wp2_with (first | (at_builtin; refine append_byte w.heap.size rfl _ _ rfl _ pre rfl hown (UInt8.ofNat u) _ Hv.out rfl (by omega) hsz hbel ?_; intro v' w1 hown' hbel' hsz'; have hcv := str_own _ _ _ _ hown'; rw [HE.out] at hcv; clear hown'))
      go_ret
      exact ⟨rfl, hbel'⟩
end Go.Proofs.Ytjajpdghamecoaa
/- Norm: what the specification's text returns. -/
namespace Go.Proofs.Ytjajpdghamecoaa
open Go.RowKit

theorem last_some {pre : List UInt8} (h : pre ≠ []) : ∃ c, pre.getLast? = some c := ⟨pre.getLast h, List.getLast?_eq_some_getLast h⟩
theorem Try.elem22 : Try.prog.elem 22 = 5 := by kernel_rfl
/-- the row without its last byte -/
theorem cut_last (W : World) (g n cap : Nat) (hn : 0 < n) (hc : n ≤ cap) :
    (Instr.slice 22 (.slice (some ⟨g, 0, none⟩) n cap) none (some (.int .i64 ((n : Int) - 1))) none).run Try.prog W = .ok (.slice (some ⟨g, 0, none⟩) (n - 1) cap) W := by
  rw [run_slice_h W 22 (some ⟨g, 0, none⟩) n cap (by rw [Try.elem22]; exact Try.underlying22) .i64 ((n : Int) - 1) (by omega) (by omega), Try.elem22, Try.size5]
  have e : ((n : Int) - 1).toNat = n - 1 := by omega
  simp [Result.andThen, sliced, e]
  intro _; exact add_plain g 0
theorem own_cap {w : World} {B e z n m cap : Nat} {ao : Option Addr} {xs : List Value} (h : w.ownsRow B e z (.slice ao m cap) n xs) : n ≤ cap := by
  rcases h.2 with ⟨h, h'⟩ | ⟨_, _, _, h, _, _, h', _⟩
  · omega
  · injection h with _ _ h; omega
/-- what is known at the head of a round of Norm -/
def NormAt (s : ByteArray) (w : World) (v i : Value) (wr : World) (k : Nat) : Prop :=
  k ≤ s.size ∧ i = .int .i64 k ∧ wr.ownsRow w.heap.size 5 1 v (nfold (s.data.toList.take k)).length (bs (nfold (s.data.toList.take k))) ∧ Below w.heap.size w wr
theorem nat_of_u8 {c : UInt8} {n : Nat} (h : (c.toNat : Int) = n) (hn : n < 256) : c = UInt8.ofNat n := by
  apply UInt8.toNat_inj.1
  simp; omega
theorem nfold_take (s : ByteArray) (k : Nat) (h : k < s.size) : nfold (s.data.toList.take (k + 1)) = nstep (nfold (s.data.toList.take k)) s[k] := by rw [take_snoc s k h, nfold_snoc]
theorem nfold_take_len (s : ByteArray) (k : Nat) (hs : s.size ≤ 100) : (nfold (s.data.toList.take k)).length ≤ 100 := by
  refine Nat.le_trans (nfold_len _) ?_
  rw [List.length_take, size_len]; omega

set_option maxRecDepth 100000 in
set_option maxHeartbeats 1000000 in
theorem SpecNorm_in (s : ByteArray) (w : World) (hs : s.size ≤ 100) (hp : plainB s.data.toList = true) :
    Calls Try.prog 93 #[.string s] w fun e w' => e = .returned (.string (normS s)) ∧ Below w.heap.size w w' := by
  have HP := Lib.hid hp
  have hm : s.size ≤ maxLen := by unfold maxLen; omega
  go_enter Try.func93, Try.ntmps93
  go_wp2_with (first | (go_at_call 124; refine (l02Plain_any _ _ hm).mono ?_; rintro e w' ⟨rfl, rfl⟩))
  clear hp
  go_loopw [3, 4] (fun v i wr => ∃ k : Nat, NormAt s w v i wr k) (fun _ i _ => s.size - (intOf i).toNat)
  case atStart => exact ⟨0, Nat.zero_le _, rfl, World.ownsRow_made _ _ 0 (Nat.le_refl _) (by unfold maxLen; omega) rfl, (Below.refl _ _).alloc (Nat.le_refl _) _⟩
  case round =>
    obtain ⟨k, hk, rfl, hown, hbel⟩ := hrel
    have hlen := nfold_take_len s k hs
    obtain ⟨ao, cap, rfl⟩ := own_slice hown
    have hsz := hbel.size
    by_cases hlt : k < s.size
    · have HN := Lib.hid (nfold_take s k hlt)
      generalize nfold (s.data.toList.take k) = pre at *
      by_cases hcap : 65 ≤ (s[k].toNat : Int) ∧ (s[k].toNat : Int) ≤ 90
      · obtain ⟨c1, c2⟩ := hcap
        have hlow := low_in s[k] (by omega)
        have HE : Hid (nfold (s.data.toList.take (k + 1)) = pre ++ [low s[k]]) := Lib.hid (by
          rw [HN.out]; exact nstep_add (fun h => by have := congrArg UInt8.toNat h.1; simp at this; omega))
        have HL := Lib.hid hlow.symm; clear hlow
        go_wp2_with (first | (at_builtin; refine append_byte w.heap.size rfl _ _ rfl _ pre rfl hown (low s[k]) _ HL.out rfl (by omega) hsz hbel ?_; intro v' w1 hown' hbel' hsz'))
        go_roundw
        case rel => exact ⟨k + 1, by omega, by go_num, by rw [HE.out]; exact hown', hbel'⟩
        case measure => simp [intOf]; omega
      · have HL := Lib.hid (low_out s[k] (by omega))
        by_cases hsp : (s[k].toNat : Int) = 32
        · have hb1 : ((s[k].toNat : Int) == 32) = true := by rw [hsp]; rfl
          have hb2 : ¬ 65 ≤ (s[k].toNat : Int) := by omega
          have HS := Lib.hid (nat_of_u8 (n := 32) hsp (by omega))
          clear hcap hsp
          by_cases hne : pre = []
          · subst hne
            have HE : Hid (nfold (s.data.toList.take (k + 1)) = []) := Lib.hid (by rw [HN.out]; exact nstep_skip HS.out (.inl rfl))
            have hb3 : (([] : List UInt8).length : Int) = 0 := rfl
            rw [List.length_nil] at hown ⊢
            go_wp2
            go_roundw
            case rel => exact ⟨k + 1, by omega, by go_num, by rw [HE.out]; exact hown, hbel⟩
            case measure => simp [intOf]; omega
          · have h0 : 0 < pre.length := List.length_pos_iff.2 hne
            obtain ⟨d, hd⟩ := last_some hne
            obtain ⟨g, rfl, hcell⟩ := own_last hown rfl hd
            have HD := Lib.hid hd
            have hb3 : ((pre.length : Int) == 0) = false := by rw [beq_eq_false_iff_ne]; omega
            by_cases hds : (d.toNat : Int) = 32
            · have hb4 : ((d.toNat : Int) == 32) = true := by rw [hds]; rfl
              have HE : Hid (nfold (s.data.toList.take (k + 1)) = pre) := Lib.hid (by rw [HN.out]; exact nstep_skip HS.out (.inr (by rw [HD.out, nat_of_u8 (n := 32) hds (by omega)]; rfl)))
              clear hd hds hne
              go_wp2
              go_roundw
              case rel => exact ⟨k + 1, by omega, by go_num, by rw [HE.out]; exact hown, hbel⟩
              case measure => simp [intOf]; omega
            · have hb4 : ((d.toNat : Int) == 32) = false := by rw [beq_eq_false_iff_ne]; exact hds
              have HE : Hid (nfold (s.data.toList.take (k + 1)) = pre ++ [s[k]]) := Lib.hid (by
                rw [HN.out, nstep_add, HL.out]
                rintro ⟨_, h | h⟩
                · exact hne h
                · rw [HD.out] at h; have := Option.some.inj h; subst this; exact hds rfl)
              clear hd hds hne
              go_wp2_with (first | (at_builtin; refine append_byte w.heap.size rfl _ _ rfl _ pre rfl hown s[k] _ rfl rfl (by omega) hsz hbel ?_; intro v' w1 hown' hbel' hsz'))
              go_roundw
              case rel => exact ⟨k + 1, by omega, by go_num, by rw [HE.out]; exact hown', hbel'⟩
              case measure => simp [intOf]; omega
        · have hb1 : ((s[k].toNat : Int) == 32) = false := by rw [beq_eq_false_iff_ne]; exact hsp
          have HE : Hid (nfold (s.data.toList.take (k + 1)) = pre ++ [s[k]]) := Lib.hid (by
            rw [HN.out, nstep_add, HL.out]
            rintro ⟨h, _⟩
            rw [h] at hsp; exact hsp rfl)
          by_cases c1 : 65 ≤ (s[k].toNat : Int)
          · have c2 : ¬ (s[k].toNat : Int) ≤ 90 := by omega
            clear hcap hsp
            go_wp2_with (first | (at_builtin; refine append_byte w.heap.size rfl _ _ rfl _ pre rfl hown s[k] _ rfl rfl (by omega) hsz hbel ?_; intro v' w1 hown' hbel' hsz'))
            go_roundw
            case rel => exact ⟨k + 1, by omega, by go_num, by rw [HE.out]; exact hown', hbel'⟩
            case measure => simp [intOf]; omega
          · clear hcap hsp
            go_wp2_with (first | (at_builtin; refine append_byte w.heap.size rfl _ _ rfl _ pre rfl hown s[k] _ rfl rfl (by omega) hsz hbel ?_; intro v' w1 hown' hbel' hsz'))
            go_roundw
            case rel => exact ⟨k + 1, by omega, by go_num, by rw [HE.out]; exact hown', hbel'⟩
            case measure => simp [intOf]; omega
    · have e : s.data.toList.take k = s.data.toList := List.take_of_length_le (by simp; omega)
      rw [e] at hown hlen ⊢
      have HR : Hid (normS s = ⟨(chop (nfold s.data.toList)).toArray⟩) := Lib.hid (by unfold normS; rw [normL_in (by simpa using hs) HP.out])
      clear e
      generalize nfold s.data.toList = pre at *
      by_cases hne : pre = []
      · subst hne
        have hcv := str_own _ _ _ [] hown
        have HC : Hid (chop [] = []) := Lib.hid rfl
        rw [List.length_nil] at hown hcv ⊢
        go_wp2
        go_ret
        exact ⟨ret_str (by rw [HR.out, HC.out]), hbel⟩
      · have h0 : 0 < pre.length := List.length_pos_iff.2 hne
        obtain ⟨d, hd⟩ := last_some hne
        obtain ⟨g, rfl, hcell⟩ := own_last hown rfl hd
        have HD := Lib.hid hd
        by_cases hds : (d.toNat : Int) = 32
        · have hb4 : ((d.toNat : Int) == 32) = true := by rw [hds]; rfl
          have HC : Hid (chop pre = pre.dropLast) := Lib.hid (by unfold chop; rw [if_pos]; rw [HD.out, nat_of_u8 (n := 32) hds (by omega)]; rfl)
          have hcut := fun W => cut_last W g pre.length cap h0 (own_cap hown)
          have hcv := str22 wr ⟨g, 0, none⟩ cap pre.dropLast (pre.length - 1) (by simp) (fun j hj => by
            rw [List.length_dropLast] at hj
            rw [List.getElem_dropLast]
            exact hown.cells (g := g) rfl j _ (by simp [bs, List.getElem?_eq_getElem (show j < pre.length by omega)]))
          clear hd hds hne
          go_wp2
          go_ret
          exact ⟨ret_str (by rw [HR.out, HC.out]), hbel⟩
        · have hb4 : ((d.toNat : Int) == 32) = false := by rw [beq_eq_false_iff_ne]; exact hds
          have HC : Hid (chop pre = pre) := Lib.hid (by unfold chop; rw [if_neg]; intro h; rw [HD.out] at h; have := Option.some.inj h; subst this; exact hds rfl)
          have hcv := str_own _ _ _ pre hown
          clear hd hds hne
          go_wp2
          go_ret
          exact ⟨ret_str (by rw [HR.out, HC.out]), hbel⟩
end Go.Proofs.Ytjajpdghamecoaa
/- concat: what the program's text returns. -/
namespace Go.Proofs.Ytjajpdghamecoaa
open Go.RowKit

def joinL (ss : List ByteArray) : List UInt8 := ss.flatMap (fun s => s.data.toList)
def joinS (ss : List ByteArray) : ByteArray := ⟨(joinL ss).toArray⟩
theorem joinL_snoc (ss : List ByteArray) (s : ByteArray) : joinL (ss ++ [s]) = joinL ss ++ s.data.toList := by simp [joinL]
theorem joinL_split (ss : List ByteArray) (k : Nat) : joinL ss = joinL (ss.take k) ++ joinL (ss.drop k) := by
  have h := List.take_append_drop k ss
  unfold joinL
  rw [← List.flatMap_append, h]
theorem joinL_take_le (ss : List ByteArray) (k : Nat) : (joinL (ss.take k)).length ≤ (joinL ss).length := by
  rw [joinL_split ss k]; simp
theorem joinL_take_succ (ss : List ByteArray) (k : Nat) (h : k < ss.length) : joinL (ss.take (k + 1)) = joinL (ss.take k) ++ (ss[k]).data.toList := by
  rw [List.take_succ_eq_append_getElem h, joinL_snoc]
theorem modify_push {α : Type} (A : Array α) (x : α) (f : α → α) : (A.push x).modify A.size f = A.push (f x) := by
  apply Array.ext_getElem?
  intro i
  rw [Array.getElem?_modify, Array.getElem?_push, Array.getElem?_push]
  by_cases h : A.size = i
  · subst h; simp
  · rw [if_neg h, if_neg (fun e => h e.symm), if_neg (fun e => h e.symm)]
theorem setRow_alloc (w : World) (C X : Array Value) : (w.alloc (.cells C 5)).setRow w.heap.size X = w.alloc (.cells X 5) := by
  unfold World.setRow World.alloc
  simp only [modify_push]
theorem info5size : (Try.prog.info? 5).map (·.size) = some 1 := by kernel_rfl

/-- out[at:] and the copy of s into it -/
theorem cut_copy (w : World) (C : Array Value) (n k : Nat) (s : ByteArray) (hC : C.size = n) (hk : k + s.size ≤ n) :
    ∃ A : Addr, (∀ W : World, (Instr.slice 22 (.slice (some ⟨w.heap.size, 0, none⟩) n n) (some (.int .i64 (k : Int))) none none).run Try.prog W = .ok (.slice (some A) (n - k) (n - k)) W) ∧
      (Builtin.copy_ #[22, 9] 3 #[.slice (some A) (n - k) (n - k), .string s]).run Try.prog (w.alloc (.cells C 5)) =
        .ok (.int .i64 (s.size : Int)) (w.alloc (.cells (C.toList.take k ++ bs s.data.toList ++ C.toList.drop (k + s.size)).toArray 5)) := by
  refine ⟨if n = k then ⟨w.heap.size, 0, none⟩ else ⟨w.heap.size, k, none⟩, fun W => ?_, ?_⟩
  · rw [run_slice_l W 22 (some ⟨w.heap.size, 0, none⟩) n n (by rw [Try.elem22]; exact Try.underlying22) .i64 (k : Int) (by omega) (by omega), Try.elem22, Try.size5]
    simp [Result.andThen, sliced]
    split <;> simp [add_plain]
  · by_cases e : n = k
    · have hs0 : s.size = 0 := by omega
      rw [if_pos e, Lib.run_copy_empty_string _ 22 9 3 5 _ _ _ s Try.underlying22 (by rw [info5size]; rfl) hs0]
      have hl : s.data.toList = [] := List.eq_nil_of_length_eq_zero (by rw [size_len]; exact hs0)
      rw [hl, hs0]
      have hL : C.toList.length = n := by simpa using hC
      simp [bs, goInt]
    · rw [if_neg e, Lib.run_copy_row_string _ 22 9 3 5 w.heap.size k (n - k) (n - k) s C 5 Try.underlying22 info5size (heap_alloc_new w _) (by omega) (by omega), setRow_alloc]
      rfl

/-- what the copied row holds -/
theorem copied (C : Array Value) (n k : Nat) (l m : List UInt8) (hC : C.size = n) (hl : l.length = k) (hk : k + m.length ≤ n) (hp : C.toList.take k = bs l) :
    (C.toList.take k ++ bs m ++ C.toList.drop (k + m.length)).toArray.size = n ∧
      (C.toList.take k ++ bs m ++ C.toList.drop (k + m.length)).toArray.toList.take (k + m.length) = bs (l ++ m) := by
  have hL : C.toList.length = n := by simpa using hC
  refine ⟨by simp [bs_length]; omega, ?_⟩
  rw [hp]
  have : bs (l ++ m) = bs l ++ bs m := by simp [bs]
  have hlen : (bs l ++ bs m).length = k + m.length := by simp [bs_length, hl]
  rw [this, ← hlen]
  exact List.take_left

theorem cut_copied (w : World) (C : Array Value) (n : Nat) (l : List UInt8) (s : ByteArray) (hC : C.size = n) (hk : l.length + s.size ≤ n) (hp : C.toList.take l.length = bs l) :
    ∃ (A : Addr) (X : Array Value), (X.size = n ∧ X.toList.take (l.length + s.size) = bs (l ++ s.data.toList)) ∧
      (∀ W : World, (Instr.slice 22 (.slice (some ⟨w.heap.size, 0, none⟩) n n) (some (.int .i64 (l.length : Int))) none none).run Try.prog W = .ok (.slice (some A) (n - l.length) (n - l.length)) W) ∧
      (Builtin.copy_ #[22, 9] 3 #[.slice (some A) (n - l.length) (n - l.length), .string s]).run Try.prog (w.alloc (.cells C 5)) = .ok (.int .i64 (s.size : Int)) (w.alloc (.cells X 5)) := by
  obtain ⟨A, h1, h2⟩ := cut_copy w C n l.length s hC hk
  have h3 := copied C n l.length l s.data.toList hC rfl (by rw [size_len]; exact hk) hp
  rw [size_len] at h3
  exact ⟨A, _, h3, h1, h2⟩

set_option maxRecDepth 100000 in
set_option maxHeartbeats 400000 in
theorem concat_any (b off cap : Nat) (ss : List ByteArray) (w : World) (hm : ss.length ≤ 1000000) (hb : b < w.heap.size) (hlen : (joinL ss).length ≤ 1000000000)
    (hcell : ∀ i (hi : i < ss.length), w.cell? ⟨b, off + i, none⟩ = some (.string ss[i])) :
    Calls Try.prog 84 #[.slice (some ⟨b, off, none⟩) ss.length cap] w fun e w' => e = .returned (.string (joinS ss)) ∧ Below w.heap.size w w' := by
  have Hc := Lib.hid hcell; clear hcell
  have hmk := fun (n : Nat) (h : n ≤ 1000000000) => run_make_row' (P := Try.prog) 22 5 (.int .u8 0) 1 Try.underlying22 Try.info5 rfl .i64 .i64 n (by omega) (by omega)
  have Hmk := Lib.hid hmk; clear hmk
  go_enter Try.func84, Try.ntmps84
  go_wp2
  go_loop [3, 12] (fun t i => ∃ k : Nat, k ≤ ss.length ∧ i = .int .i64 k ∧ t = .int .i64 ((joinL (ss.take k)).length : Nat)) (fun _ i => ss.length - (intOf i).toNat)
  case atStart => exact ⟨0, Nat.zero_le _, rfl, rfl⟩
  case round =>
    obtain ⟨k, hk, rfl, rfl⟩ := hrel
    have hle := joinL_take_le ss k
    by_cases hlt : k < ss.length
    · have hck := Hc.out k hlt
      have hs2 := joinL_take_le ss (k + 1)
      have HS := Lib.hid (joinL_take_succ ss k hlt)
      rw [HS.out, List.length_append, size_len] at hs2
      generalize hq : (joinL (ss.take k)).length = q at *
      have Hq := Lib.hid hq; clear hq
      go_wp2
      go_round
      case rel => exact ⟨k + 1, by omega, by go_num, by rw [HS.out, List.length_append, Hq.out, size_len]; go_num⟩
      case measure => simp [intOf]; omega
    · have e : ss.take k = ss := List.take_of_length_le (by omega)
      rw [e]
      clear e hle
      have hM := Hmk.out _ hlen w
      generalize hn : (joinL ss).length = n at *
      have Hn := Lib.hid hn; clear hn
      have hMz : (madeCells #[Value.int IntKind.u8 0] n).size = n := size_madeCells _ _
      generalize madeCells #[Value.int IntKind.u8 0] n = M at *
      have HM := Lib.hid hMz; clear hMz
      go_wp2
      go_loopw [7, 25] (fun t i wr => ∃ (j : Nat) (C : Array Value), j ≤ ss.length ∧ i = .int .i64 j ∧ t = .int .i64 ((joinL (ss.take j)).length : Nat) ∧ C.size = n ∧ C.toList.take (joinL (ss.take j)).length = bs (joinL (ss.take j)) ∧ wr = w.alloc (.cells C 5)) (fun _ i _ => ss.length - (intOf i).toNat)
      case atStart => exact ⟨0, M, Nat.zero_le _, rfl, rfl, HM.out, by simp [joinL, bs], rfl⟩
      case round =>
        clear hM HM
        obtain ⟨j, C, hj, rfl, rfl, hC, hp, rfl⟩ := hrel
        have HC := Lib.hid hC; clear hC
        have Hp := Lib.hid hp; clear hp
        by_cases hjlt : j < ss.length
        · have hck : (w.alloc (.cells C 5)).cell? ⟨b, off + j, none⟩ = some (.string ss[j]) := by
            rw [(Below.refl w.heap.size w |>.alloc (Nat.le_refl _) (.cells C 5)).cell hb]; exact Hc.out j hjlt
          have hs2 := joinL_take_le ss (j + 1)
          have HS := Lib.hid (joinL_take_succ ss j hjlt)
          rw [HS.out, List.length_append, size_len, Hn.out] at hs2
          obtain ⟨A, X, hX, hsl, hcp⟩ := cut_copied w C n (joinL (ss.take j)) ss[j] HC.out hs2 Hp.out
          have HX := Lib.hid hX; clear hX
          generalize hq : (joinL (ss.take j)).length = q at *
          have Hq := Lib.hid hq; clear hq
          go_wp2
          go_roundw
          case rel =>
            refine ⟨j + 1, X, by omega, by go_num, ?_, HX.out.1, ?_, rfl⟩
            · rw [HS.out, List.length_append, Hq.out, size_len]; go_num
            · rw [HS.out, List.length_append, Hq.out, size_len]; exact HX.out.2
          case measure => simp [intOf]; omega
        · have e : ss.take j = ss := List.take_of_length_le (by omega)
          have h1 := Hp.out
          rw [e, Hn.out] at h1
          rw [e, Hn.out]
          have hstr := str22 (w.alloc (.cells C 5)) ⟨w.heap.size, 0, none⟩ n (joinL ss) n Hn.out (fun i hi => by
            rw [add_plain, World.cell?_alloc_mark]
            have h2 : C.toList[i]? = (bs (joinL ss))[i]? := by rw [← h1, List.getElem?_take_of_lt (by rw [← Hn.out]; exact hi)]
            rw [← Array.getElem?_toList, h2]
            simp [bs, List.getElem?_eq_getElem hi])
          clear e h1
          go_wp2
          go_ret
          exact ⟨rfl, (Below.refl _ _).alloc (Nat.le_refl _) _⟩
theorem joinS_one (a : ByteArray) : joinS [a] = a := by
  apply ByteArray.ext
  simp [joinS, joinL]
theorem joinS_two (a b : ByteArray) : joinS [a, b] = a ++ b := by
  apply ByteArray.ext
  simp [joinS, joinL]
theorem concat_one (a : ByteArray) (w : World) (h : a.size ≤ 1000000) :
    Calls Try.prog 84 #[.slice (some ⟨w.heap.size, 0, none⟩) 1 1] (w.alloc (.cells #[.string a] 9)) fun e w' => e = .returned (.string a) ∧ Below w.heap.size w w' := by
  have := concat_any w.heap.size 0 1 [a] (w.alloc (.cells #[.string a] 9)) (by simp) (by simp) (by simp [joinL]; omega) (fun i hi => by
    match i, hi with
    | 0, _ => simp)
  rw [joinS_one] at this
  exact this.mono fun e w' ⟨he, hb⟩ => ⟨he, ((Below.refl _ _).alloc (Nat.le_refl _) _).trans (hb.mono (by simp))⟩
end Go.Proofs.Ytjajpdghamecoaa
/- PutText, and concat of one or two parts. -/
namespace Go.Proofs.Ytjajpdghamecoaa
open Go.RowKit

theorem concat_two (a b : ByteArray) (w : World) (h : a.size + b.size ≤ 1000000) :
    Calls Try.prog 84 #[.slice (some ⟨w.heap.size, 0, none⟩) 2 2] (w.alloc (.cells #[.string a, .string b] 9)) fun e w' => e = .returned (.string (a ++ b)) ∧ Below w.heap.size w w' := by
  have := concat_any w.heap.size 0 2 [a, b] (w.alloc (.cells #[.string a, .string b] 9)) (by simp) (by simp) (by simp [joinL]; omega) (fun i hi => by
    match i, hi with
    | 0, _ => simp
    | 1, _ => simp)
  rw [joinS_two] at this
  exact this.mono fun e w' ⟨he, hb⟩ => ⟨he, ((Below.refl _ _).alloc (Nat.le_refl _) _).trans (hb.mono (by simp))⟩

def putTextV (s : ByteArray) : ByteArray := if s.size ≤ 8000 then encS (s.size : Int) ++ s else ByteArray.empty
theorem putTextV_in (s : ByteArray) (h : s.size ≤ 8000) : putTextV s = encS (s.size : Int) ++ s := by unfold putTextV; rw [if_pos h]
theorem putTextV_out (s : ByteArray) (h : ¬ s.size ≤ 8000) : putTextV s = ByteArray.empty := by unfold putTextV; rw [if_neg h]
theorem encS_size (n : Int) : (encS n).size ≤ 10 := by have := (enc_len (foldN n)).2; simpa [encS, ByteArray.size] using this

set_option maxHeartbeats 400000 in
theorem PutText_any (s : ByteArray) (w : World) (hs : s.size ≤ maxLen) :
    Calls Try.prog 81 #[.string s] w fun e w' => e = .returned (.string (putTextV s)) ∧ Below w.heap.size w w' := by
  unfold maxLen at hs
  by_cases h1 : s.size ≤ 8000
  · have H := Lib.hid (putTextV_in s h1)
    have hz := encS_size (s.size : Int)
    go_enter Try.func81, Try.ntmps81
    go_wp2_with (first | (go_at_call 82; refine (PutNum_any _ _ (by omega) (by omega)).mono ?_; rintro e w1 ⟨rfl, hb1⟩; have hz1 := hb1.size) | (go_at_call 84; refine (concat_two _ _ _ (by omega)).mono ?_; rintro e w2 ⟨rfl, hb2⟩))
    go_ret
    exact ⟨ret_str H.out.symm, hb1.trans (hb2.mono hz1)⟩
  · have H := Lib.hid (putTextV_out s h1)
    have h1' : 8000 < s.size := by omega
    clear h1
    go_enter Try.func81, Try.ntmps81
    go_wp2
    go_ret
    exact ⟨ret_str H.out.symm, Below.refl _ _⟩

set_option maxHeartbeats 400000 in
theorem SpecPutText_any (s : ByteArray) (w : World) (hs : s.size ≤ maxLen) :
    Calls Try.prog 116 #[.string s] w fun e w' => e = .returned (.string (putTextV s)) ∧ Below w.heap.size w w' := by
  unfold maxLen at hs
  by_cases h1 : s.size ≤ 8000
  · have H := Lib.hid (putTextV_in s h1)
    have hz := encS_size (s.size : Int)
    go_enter Try.func116, Try.ntmps116
    go_wp2_with (first | (go_at_call 117; refine (SpecPutNum_any _ _ (by omega) (by omega)).mono ?_; rintro e w1 ⟨rfl, hb1⟩))
    go_ret
    exact ⟨ret_str H.out.symm, hb1⟩
  · have H := Lib.hid (putTextV_out s h1)
    have h1' : 8000 < s.size := by omega
    clear h1
    go_enter Try.func116, Try.ntmps116
    go_wp2
    go_ret
    exact ⟨ret_str H.out.symm, Below.refl _ _⟩
end Go.Proofs.Ytjajpdghamecoaa
/- Norm: what the program's text returns. -/
namespace Go.Proofs.Ytjajpdghamecoaa
open Go.RowKit

def endsB (l : List UInt8) : Bool := l.getLast? == some 32
theorem extract_list (s : ByteArray) (i j : Nat) : (s.extract i j).data.toList = (s.data.toList.take j).drop i := by
  rw [ByteArray.data_extract, Array.toList_extract]; simp [List.extract, List.drop_take]
theorem ends_last (s : ByteArray) (h : 1 ≤ s.size) : ((s.extract (s.size - 1) s.size).toList == [32]) = endsB s.data.toList := by
  have hl : s.data.toList.length = s.size := size_len s
  rw [Lib.toList_data, extract_list, List.take_of_length_le (by omega)]
  unfold endsB
  have hne : s.data.toList ≠ [] := by intro e; rw [e] at hl; simp at hl; omega
  rw [List.getLast?_eq_some_getLast hne]
  have e : s.data.toList.drop (s.size - 1) = [s.data.toList.getLast hne] := by
    have h2 := List.dropLast_concat_getLast hne
    have h3 : s.data.toList.dropLast.length = s.size - 1 := by rw [List.length_dropLast, hl]
    calc s.data.toList.drop (s.size - 1) = (s.data.toList.dropLast ++ [s.data.toList.getLast hne]).drop (s.size - 1) := by rw [h2]
      _ = _ := by rw [← h3, List.drop_left]
  rw [e]
  simp
set_option maxHeartbeats 400000 in
theorem hasSuffix_any (s : ByteArray) (w : World) (hs : s.size ≤ maxLen) :
    Calls Try.prog 145 #[.string s, .string ⟨#[32]⟩] w fun e w' => e = .returned (.bool (endsB s.data.toList)) ∧ w = w' := by
  unfold maxLen at hs
  by_cases h1 : 1 ≤ s.size
  · have HE := Lib.hid (ends_last s h1)
    go_enter Try.func145, Try.ntmps145
    go_wp2
    go_ret
    exact ⟨ret_bool (by rw [← HE.out]), rfl⟩
  · have HE : Hid (endsB s.data.toList = false) := Lib.hid (by
      have : s.data.toList = [] := List.eq_nil_of_length_eq_zero (by rw [size_len]; omega)
      rw [this]; rfl)
    go_enter Try.func145, Try.ntmps145
    go_wp2
    go_ret
    exact ⟨ret_bool HE.out.symm, rfl⟩
theorem chop_ends (s : ByteArray) (h : endsB s.data.toList = true) : 1 ≤ s.size ∧ (⟨(chop s.data.toList).toArray⟩ : ByteArray) = s.extract 0 (s.size - 1) := by
  have hl := size_len s
  have h' : s.data.toList.getLast? = some 32 := by simpa [endsB] using h
  have h1 : 1 ≤ s.size := by
    rcases hd : s.data.toList with _ | ⟨x, l⟩
    · rw [hd] at h'; simp at h'
    · rw [hd] at hl; simp at hl; omega
  refine ⟨h1, ?_⟩
  apply ByteArray.ext
  apply Array.toList_inj.1
  rw [extract_list]
  unfold chop
  rw [if_pos h', List.dropLast_eq_take, hl]; simp
theorem chop_not (s : ByteArray) (h : endsB s.data.toList = false) : (⟨(chop s.data.toList).toArray⟩ : ByteArray) = s := by
  have h' : ¬ s.data.toList.getLast? = some 32 := by intro e; simp [endsB, e] at h
  unfold chop
  rw [if_neg h']
set_option maxHeartbeats 400000 in
theorem trimIn_any (s : ByteArray) (w : World) (hs : s.size ≤ maxLen) :
    Calls Try.prog 139 #[.string s, .string ⟨#[32]⟩] w fun e w' => e = .returned (.string ⟨(chop s.data.toList).toArray⟩) ∧ w = w' := by
  have hM := hs
  unfold maxLen at hs
  cases hb : endsB s.data.toList
  · have HE := Lib.hid (chop_not s hb)
    go_enter Try.func139, Try.ntmps139
    go_wp2_with (first | (go_at_call 145; refine (hasSuffix_any _ _ hM).mono ?_; rintro e w' ⟨rfl, rfl⟩))
    go_ret
    exact ⟨ret_str (by rw [HE.out]), rfl⟩
  · obtain ⟨h1, hc⟩ := chop_ends s hb
    have HE := Lib.hid hc; clear hc
    go_enter Try.func139, Try.ntmps139
    go_wp2_with (first | (go_at_call 145; refine (hasSuffix_any _ _ hM).mono ?_; rintro e w' ⟨rfl, rfl⟩))
    go_ret
    exact ⟨ret_str (by rw [HE.out]), rfl⟩
set_option maxHeartbeats 400000 in
theorem trim_any (s : ByteArray) (w : World) (hs : s.size ≤ maxLen) :
    Calls Try.prog 128 #[.string s, .string ⟨#[32]⟩] w fun e w' => e = .returned (.string ⟨(chop s.data.toList).toArray⟩) ∧ w = w' := by
  go_enter Try.func128, Try.ntmps128
  go_wp2_with (first | (go_at_call 139; refine (trimIn_any _ _ hs).mono ?_; rintro e w' ⟨rfl, rfl⟩))
  go_ret
  exact ⟨rfl, rfl⟩

set_option maxRecDepth 100000 in
set_option maxHeartbeats 1000000 in
theorem Norm_in (s : ByteArray) (w : World) (hs : s.size ≤ 100) (hp : plainB s.data.toList = true) :
    Calls Try.prog 99 #[.string s] w fun e w' => e = .returned (.string (normS s)) ∧ Below w.heap.size w w' := by
  have HP := Lib.hid hp
  have hm : s.size ≤ maxLen := by unfold maxLen; omega
  go_enter Try.func99, Try.ntmps99
  go_wp2_with (first | (go_at_call 126; refine (isPrintable_any _ _ hm).mono ?_; rintro e w' ⟨rfl, rfl⟩))
  clear hp
  go_loopw [3, 16] (fun v i wr => ∃ k : Nat, NormAt s w v i wr k) (fun _ i _ => s.size - (intOf i).toNat)
  case atStart => exact ⟨0, Nat.zero_le _, rfl, ⟨rfl, .inl ⟨rfl, rfl⟩⟩, Below.refl _ _⟩
  case round =>
    obtain ⟨k, hk, rfl, hown, hbel⟩ := hrel
    have hlen := nfold_take_len s k hs
    obtain ⟨ao, cap, rfl⟩ := own_slice hown
    have hsz := hbel.size
    by_cases hlt : k < s.size
    · have HN := Lib.hid (nfold_take s k hlt)
      generalize nfold (s.data.toList.take k) = pre at *
      by_cases hsp : (s[k].toNat : Int) = 32
      · have hb1 : ((s[k].toNat : Int) == 32) = true := by rw [hsp]; rfl
        have HS := Lib.hid (nat_of_u8 (n := 32) hsp (by omega))
        clear hsp
        by_cases hne : pre = []
        · subst hne
          have HE : Hid (nfold (s.data.toList.take (k + 1)) = []) := Lib.hid (by rw [HN.out]; exact nstep_skip HS.out (.inl rfl))
          have hb3 : (([] : List UInt8).length : Int) = 0 := rfl
          rw [List.length_nil] at hown ⊢
          go_wp2
          go_roundw
          case rel => exact ⟨k + 1, by omega, by go_num, by rw [HE.out]; exact hown, hbel⟩
          case measure => simp [intOf]; omega
        · have h0 : 0 < pre.length := List.length_pos_iff.2 hne
          obtain ⟨d, hd⟩ := last_some hne
          obtain ⟨g, rfl, hcell⟩ := own_last hown rfl hd
          have HD := Lib.hid hd
          have hb3 : ((pre.length : Int) == 0) = false := by rw [beq_eq_false_iff_ne]; omega
          by_cases hds : (d.toNat : Int) = 32
          · have hb4 : ((d.toNat : Int) == 32) = true := by rw [hds]; rfl
            have HE : Hid (nfold (s.data.toList.take (k + 1)) = pre) := Lib.hid (by rw [HN.out]; exact nstep_skip HS.out (.inr (by rw [HD.out, nat_of_u8 (n := 32) hds (by omega)]; rfl)))
            clear hd hds hne
            go_wp2
            go_roundw
            case rel => exact ⟨k + 1, by omega, by go_num, by rw [HE.out]; exact hown, hbel⟩
            case measure => simp [intOf]; omega
          · have hb4 : ((d.toNat : Int) == 32) = false := by rw [beq_eq_false_iff_ne]; exact hds
            have HE : Hid (nfold (s.data.toList.take (k + 1)) = pre ++ [low s[k]]) := Lib.hid (by
              rw [HN.out, nstep_add]
              rintro ⟨_, h | h⟩
              · exact hne h
              · rw [HD.out] at h; have := Option.some.inj h; subst this; exact hds rfl)
            clear hd hds hne
            go_wp2_with (first | (go_at_call 127; refine (lowerByte_any _ _).mono ?_; rintro e w' ⟨rfl, rfl⟩) | (at_builtin; refine append_byte w.heap.size rfl _ _ rfl _ pre rfl hown (low s[k]) _ rfl rfl (by omega) hsz hbel ?_; intro v' w1 hown' hbel' hsz'))
            go_roundw
            case rel => exact ⟨k + 1, by omega, by go_num, by rw [HE.out]; exact hown', hbel'⟩
            case measure => simp [intOf]; omega
      · have hb1 : ((s[k].toNat : Int) == 32) = false := by rw [beq_eq_false_iff_ne]; exact hsp
        have HE : Hid (nfold (s.data.toList.take (k + 1)) = pre ++ [low s[k]]) := Lib.hid (by
          rw [HN.out, nstep_add]
          rintro ⟨h, _⟩
          rw [h] at hsp; exact hsp rfl)
        clear hsp
        go_wp2_with (first | (go_at_call 127; refine (lowerByte_any _ _).mono ?_; rintro e w' ⟨rfl, rfl⟩) | (at_builtin; refine append_byte w.heap.size rfl _ _ rfl _ pre rfl hown (low s[k]) _ rfl rfl (by omega) hsz hbel ?_; intro v' w1 hown' hbel' hsz'))
        go_roundw
        case rel => exact ⟨k + 1, by omega, by go_num, by rw [HE.out]; exact hown', hbel'⟩
        case measure => simp [intOf]; omega
    · have e : s.data.toList.take k = s.data.toList := List.take_of_length_le (by simp; omega)
      rw [e] at hown hlen ⊢
      have HR : Hid (normS s = ⟨(chop (nfold s.data.toList)).toArray⟩) := Lib.hid (by unfold normS; rw [normL_in (by simpa using hs) HP.out])
      clear e
      generalize nfold s.data.toList = pre at *
      have hcv := str_own _ _ _ _ hown
      have hpm : (⟨pre.toArray⟩ : ByteArray).size ≤ maxLen := by unfold maxLen; simp [ByteArray.size]; omega
      have HX := Lib.hid (fun w => trim_any ⟨pre.toArray⟩ w hpm)
      go_wp2_with (first | (go_at_call 128; refine (HX.out _).mono ?_; rintro e w' ⟨rfl, rfl⟩))
      go_ret
      exact ⟨ret_str HR.out.symm, hbel⟩
theorem normS_long (s : ByteArray) (h : ¬ s.size ≤ 100) : normS s = ByteArray.empty := by unfold normS; rw [normL_long (by rw [size_len]; exact h)]; rfl
theorem normS_odd (s : ByteArray) (h : plainB s.data.toList = false) : normS s = ByteArray.empty := by unfold normS; rw [normL_odd h]; rfl
set_option maxHeartbeats 400000 in
theorem Norm_any (s : ByteArray) (w : World) (hs : s.size ≤ maxLen) :
    Calls Try.prog 99 #[.string s] w fun e w' => e = .returned (.string (normS s)) ∧ Below w.heap.size w w' := by
  by_cases h1 : s.size ≤ 100
  · cases hp : plainB s.data.toList
    · have HR := Lib.hid (normS_odd s hp)
      go_enter Try.func99, Try.ntmps99
      go_wp2_with (first | (go_at_call 126; refine (isPrintable_any _ _ hs).mono ?_; rintro e w' ⟨rfl, rfl⟩))
      go_ret
      exact ⟨ret_str HR.out.symm, Below.refl _ _⟩
    · exact Norm_in s w h1 hp
  · have HR := Lib.hid (normS_long s h1)
    have h1' : 100 < s.size := by omega
    clear h1
    unfold maxLen at hs
    go_enter Try.func99, Try.ntmps99
    go_wp2
    go_ret
    exact ⟨ret_str HR.out.symm, Below.refl _ _⟩
set_option maxHeartbeats 400000 in
theorem SpecNorm_any (s : ByteArray) (w : World) (hs : s.size ≤ maxLen) :
    Calls Try.prog 93 #[.string s] w fun e w' => e = .returned (.string (normS s)) ∧ Below w.heap.size w w' := by
  by_cases h1 : s.size ≤ 100
  · cases hp : plainB s.data.toList
    · have HR := Lib.hid (normS_odd s hp)
      go_enter Try.func93, Try.ntmps93
      go_wp2_with (first | (go_at_call 124; refine (l02Plain_any _ _ hs).mono ?_; rintro e w' ⟨rfl, rfl⟩))
      go_ret
      exact ⟨ret_str HR.out.symm, Below.refl _ _⟩
    · exact SpecNorm_in s w h1 hp
  · have HR := Lib.hid (normS_long s h1)
    have h1' : 100 < s.size := by omega
    clear h1
    unfold maxLen at hs
    go_enter Try.func93, Try.ntmps93
    go_wp2
    go_ret
    exact ⟨ret_str HR.out.symm, Below.refl _ _⟩
end Go.Proofs.Ytjajpdghamecoaa
/- What the specification's text of NameRight returns. -/
namespace Go.Proofs.Ytjajpdghamecoaa
open Go.RowKit

/-- the first k bytes are as they must be -/
def goodTo (s : ByteArray) (k : Nat) : Bool := allB (s.data.toList.take k) && (decide (k = 0) || letB ((s.data.toList.getD 0 0).toNat : Int))

theorem nameB_of_let {c : Int} (h : letB c = true) : nameB c = true := by simp [nameB, h]

set_option maxHeartbeats 1000000 in
theorem SpecNameRight_any (s : ByteArray) (w : World) (hs : s.size ≤ maxLen) :
    Calls Try.prog 50 #[.string s] w fun e w' => e = .returned (.bool (nmL s)) ∧ w = w' := by
  unfold maxLen at hs
  by_cases h1 : s.size < 1
  · have hf : nmL s = false := by have : ¬ 1 ≤ s.size := by omega
                                  simp [nmL, this]
    have Hf := Lib.hid hf; clear hf
    go_enter Try.func50, Try.ntmps50
    go_wp2
    go_ret
    exact ⟨ret_bool Hf.out.symm, rfl⟩
  by_cases h2 : 20 < s.size
  · have hf : nmL s = false := by have : ¬ s.size ≤ 20 := by omega
                                  simp [nmL, this]
    have Hf := Lib.hid hf; clear hf
    go_enter Try.func50, Try.ntmps50
    go_wp2
    go_ret
    exact ⟨ret_bool Hf.out.symm, rfl⟩
  have h0 : 0 < s.size := by omega
  have Hg := Lib.hid (getD_zero s h0)
  go_enter Try.func50, Try.ntmps50
  go_wp2
  go_loop [3] (fun i => ∃ k : Nat, k ≤ s.size ∧ i = .int .i64 k ∧ allB (s.data.toList.take k) = true ∧ (0 < k → letB ((s.data.toList.getD 0 0).toNat : Int) = true)) (fun i => s.size - (intOf i).toNat)
  case atStart => exact ⟨0, Nat.zero_le _, rfl, rfl, fun h => absurd h (by omega)⟩
  case round =>
    obtain ⟨k, hk, rfl, ha, hl⟩ := hrel
    have Ha := Lib.hid ha; clear ha
    have Hl := Lib.hid hl; clear hl
    by_cases hlt : k < s.size
    · have hts := Lib.hid (take_snoc s k hlt)
      by_cases hL : 97 ≤ (s[k].toNat : Int) ∧ (s[k].toNat : Int) ≤ 122
      · obtain ⟨c1, c2⟩ := hL
        have hb : letB (s[k].toNat : Int) = true := by simp [letB]; omega
        have hT : allB (s.data.toList.take (k + 1)) = true := by rw [hts.out, allB_snoc, Ha.out, nameB_of_let hb]; rfl
        have HT := Lib.hid hT; clear hT
        have hZ : letB ((s.data.toList.getD 0 0).toNat : Int) = true := by
          by_cases e : k = 0
          · subst e; rw [Hg.out]; exact hb
          · exact Hl.out (by omega)
        have HZ := Lib.hid hZ; clear hZ hb
        go_wp2
        go_round
        case rel => exact ⟨k + 1, by omega, by go_num, HT.out, fun _ => HZ.out⟩
        case measure => simp [intOf]; omega
      · have hb : letB (s[k].toNat : Int) = false := by simp [letB]; omega
        by_cases e : k = 0
        · subst e
          have hF : nmL s = false := by simp only [nmL, Hg.out, hb]; simp
          have HF := Lib.hid hF; clear hF hb
          by_cases c1 : 97 ≤ (s[0].toNat : Int)
          · have c2 : ¬ (s[0].toNat : Int) ≤ 122 := by omega
            clear hL
            go_wp2
            go_ret
            exact ⟨ret_bool HF.out.symm, rfl⟩
          · clear hL
            go_wp2
            go_ret
            exact ⟨ret_bool HF.out.symm, rfl⟩
        · have hz : ((k : Int) == 0) = false := by rw [beq_eq_false_iff_ne]; omega
          by_cases hD : 48 ≤ (s[k].toNat : Int) ∧ (s[k].toNat : Int) ≤ 57
          · obtain ⟨c1, c2⟩ := hD
            have c3 : ¬ 97 ≤ (s[k].toNat : Int) := by omega
            have hb : nameB (s[k].toNat : Int) = true := by simp [nameB, digB]; omega
            have hT : allB (s.data.toList.take (k + 1)) = true := by rw [hts.out, allB_snoc, Ha.out, hb]; rfl
            have HT := Lib.hid hT; clear hT hL hb
            go_wp2
            go_round
            case rel => exact ⟨k + 1, by omega, by go_num, HT.out, fun _ => Hl.out (by omega)⟩
            case measure => simp [intOf]; omega
          · by_cases hU : (s[k].toNat : Int) = 95
            · have c3 : ¬ 97 ≤ (s[k].toNat : Int) := by omega
              have c1 : 48 ≤ (s[k].toNat : Int) := by omega
              have c2 : ¬ (s[k].toNat : Int) ≤ 57 := by omega
              have hb : nameB (s[k].toNat : Int) = true := by simp [nameB]; omega
              have hT : allB (s.data.toList.take (k + 1)) = true := by rw [hts.out, allB_snoc, Ha.out, hb]; rfl
              have hu : ((s[k].toNat : Int) != 95) = false := by rw [hU]; rfl
              have HT := Lib.hid hT; clear hT hL hb hD hU
              go_wp2
              go_round
              case rel => exact ⟨k + 1, by omega, by go_num, HT.out, fun _ => Hl.out (by omega)⟩
              case measure => simp [intOf]; omega
            · have hb : nameB (s[k].toNat : Int) = false := by simp [nameB, letB, digB]; omega
              have hF : nmL s = false := by simp only [nmL, allB_false s k hlt hb]; simp
              have hu : ((s[k].toNat : Int) != 95) = true := by rw [bne_iff_ne]; exact hU
              have HF := Lib.hid hF; clear hF hb
              by_cases c1 : 97 ≤ (s[k].toNat : Int)
              · have c2 : ¬ (s[k].toNat : Int) ≤ 122 := by omega
                have c3 : 48 ≤ (s[k].toNat : Int) := by omega
                have c4 : ¬ (s[k].toNat : Int) ≤ 57 := by omega
                clear hL hD hU
                go_wp2
                go_ret
                exact ⟨ret_bool HF.out.symm, rfl⟩
              · by_cases c3 : 48 ≤ (s[k].toNat : Int)
                · have c4 : ¬ (s[k].toNat : Int) ≤ 57 := by omega
                  clear hL hD hU
                  go_wp2
                  go_ret
                  exact ⟨ret_bool HF.out.symm, rfl⟩
                · clear hL hD hU
                  go_wp2
                  go_ret
                  exact ⟨ret_bool HF.out.symm, rfl⟩
    · go_wp2
      go_ret
      refine ⟨ret_bool ?_, rfl⟩
      have e : s.data.toList.take k = s.data.toList := List.take_of_length_le (by simp; omega)
      have a1 := Ha.out
      rw [e] at a1
      have a2 := Hl.out (by omega)
      simp only [nmL, a1, a2]; simp; omega
end Go.Proofs.Ytjajpdghamecoaa
/- Distinguished names: lists of pairs, and where they lie. -/
namespace Go.Proofs.Ytjajpdghamecoaa
open Go.RowKit

abbrev RdnL := List (ByteArray × ByteArray)
/-- a value whose normalized form is not empty -/
def valB (s : ByteArray) : Bool := decide (1 ≤ s.size) && decide (s.size ≤ 40) && !(normS s).toList.isEmpty
def rdnB (r : ByteArray × ByteArray) : Bool := nmL r.1 && valB r.2
def dnB (d : RdnL) : Bool := decide (d.length ≤ 6) && d.all rdnB
/-- all its strings are strings of Go -/
def Fits (d : RdnL) : Prop := d.length ≤ 1048576 ∧ ∀ r ∈ d, r.1.size ≤ 1048576 ∧ r.2.size ≤ 1048576
/-- a name lies behind a slice -/
def DnAt (w : World) (ao : Option Addr) (d : RdnL) : Prop :=
  d = [] ∨ ∃ b off, ao = some ⟨b, off, none⟩ ∧ b < w.heap.size ∧ ∀ i (h : i < d.length), w.cell? ⟨b, off + i * 2, none⟩ = some (.string d[i].1) ∧ w.cell? ⟨b, off + i * 2 + 1, none⟩ = some (.string d[i].2)
theorem DnAt.below {w w' : World} {ao : Option Addr} {d : RdnL} (h : DnAt w ao d) (hb : Below w.heap.size w w') : DnAt w' ao d := by
  rcases h with h | ⟨b, off, h1, h2, h3⟩
  · exact .inl h
  · exact .inr ⟨b, off, h1, Nat.lt_of_lt_of_le h2 hb.size, fun i hi => ⟨(hb.cell (p := ⟨b, off + i * 2, none⟩) h2).trans (h3 i hi).1, (hb.cell (p := ⟨b, off + i * 2 + 1, none⟩) h2).trans (h3 i hi).2⟩⟩
theorem DnAt.at {w : World} {ao : Option Addr} {d : RdnL} (h : DnAt w ao d) {k : Nat} (hk : k < d.length) :
    ∃ b off, ao = some ⟨b, off, none⟩ ∧ b < w.heap.size ∧ w.cell? ⟨b, off + k * 2, none⟩ = some (.string d[k].1) ∧ w.cell? ⟨b, off + k * 2 + 1, none⟩ = some (.string d[k].2) := by
  rcases h with h | ⟨b, off, h1, h2, h3⟩
  · subst h; simp at hk
  · exact ⟨b, off, h1, h2, h3 k hk⟩
theorem Fits.at {d : RdnL} (h : Fits d) {k : Nat} (hk : k < d.length) : d[k].1.size ≤ maxLen ∧ d[k].2.size ≤ maxLen := by
  have := h.2 _ (List.getElem_mem hk); unfold maxLen; omega
theorem all_take {α : Type} (p : α → Bool) (l : List α) (k : Nat) (h : k < l.length) : (l.take (k + 1)).all p = ((l.take k).all p && p l[k]) := by
  rw [List.take_succ_eq_append_getElem h, List.all_append]; simp only [List.all_cons, List.all_nil, Bool.and_true]
theorem all_bad {α : Type} (p : α → Bool) (l : List α) (k : Nat) (h : k < l.length) (hp : p l[k] = false) : l.all p = false := by
  rw [List.all_eq_false]; exact ⟨_, List.getElem_mem h, by simp [hp]⟩
theorem plain_of_norm {s : ByteArray} (h : plainB s.data.toList = false) : (normS s).toList.isEmpty = true := by rw [normS_odd s h, Lib.toList_data]; rfl
end Go.Proofs.Ytjajpdghamecoaa
/- DnRight: what the texts of the program and of the specification return. -/
namespace Go.Proofs.Ytjajpdghamecoaa
open Go.RowKit

def isValB (s : ByteArray) : Bool := decide (1 ≤ s.size) && decide (s.size ≤ 40) && plainB s.data.toList
set_option maxHeartbeats 400000 in
theorem isValue_any (s : ByteArray) (w : World) (hs : s.size ≤ maxLen) :
    Calls Try.prog 123 #[.string s] w fun e w' => e = .returned (.bool (isValB s)) ∧ w = w' := by
  have hM := hs
  unfold maxLen at hs
  by_cases h1 : 1 ≤ s.size
  all_goals by_cases h2 : s.size ≤ 40
  all_goals try omega
  all_goals
    have HV : Hid (isValB s = (decide (1 ≤ s.size) && decide (s.size ≤ 40) && plainB s.data.toList)) := Lib.hid rfl
    go_enter Try.func123, Try.ntmps123
    go_wp2_with (first | (go_at_call 126; refine (isPrintable_any _ _ hM).mono ?_; rintro e w' ⟨rfl, rfl⟩))
    go_ret
    exact ⟨ret_bool (by rw [HV.out]; simp [h1, h2]), rfl⟩
theorem val_of {s : ByteArray} : (isValB s && !(normS s).toList.isEmpty) = valB s := by
  unfold isValB valB
  cases h : plainB s.data.toList
  · simp [plain_of_norm h]
  · simp
set_option maxHeartbeats 400000 in
theorem isProperValue_any (s : ByteArray) (w : World) (hs : s.size ≤ maxLen) :
    Calls Try.prog 92 #[.string s] w fun e w' => e = .returned (.bool (valB s)) ∧ Below w.heap.size w w' := by
  have HV := Lib.hid (@val_of s)
  cases h1 : isValB s
  · rw [h1] at HV
    go_enter Try.func92, Try.ntmps92
    go_wp2_with (first | (go_at_call 123; refine (isValue_any _ _ hs).mono ?_; rintro e w' ⟨rfl, rfl⟩))
    go_ret
    exact ⟨ret_bool (by rw [← HV.out]; rfl), Below.refl _ _⟩
  · rw [h1] at HV
    go_enter Try.func92, Try.ntmps92
    go_wp2_with (first | (go_at_call 123; refine (isValue_any _ _ hs).mono ?_; rintro e w' ⟨rfl, rfl⟩) | (go_at_call 99; refine (Norm_any _ _ hs).mono ?_; rintro e w1 ⟨rfl, hb1⟩))
    go_ret
    exact ⟨ret_bool (by rw [← HV.out]; simp), hb1⟩
set_option maxHeartbeats 400000 in
theorem l02Value_any (s : ByteArray) (w : World) (hs : s.size ≤ maxLen) :
    Calls Try.prog 51 #[.string s] w fun e w' => e = .returned (.bool (valB s)) ∧ Below w.heap.size w w' := by
  have hM := hs
  unfold maxLen at hs
  have HV : Hid (valB s = (decide (1 ≤ s.size) && decide (s.size ≤ 40) && !(normS s).toList.isEmpty)) := Lib.hid rfl
  by_cases h1 : 1 ≤ s.size
  all_goals by_cases h2 : s.size ≤ 40
  all_goals try omega
  · go_enter Try.func51, Try.ntmps51
    go_wp2_with (first | (go_at_call 93; refine (SpecNorm_any _ _ hM).mono ?_; rintro e w1 ⟨rfl, hb1⟩))
    go_ret
    exact ⟨ret_bool (by rw [HV.out]; simp [h1, h2]), hb1⟩
  all_goals
    go_enter Try.func51, Try.ntmps51
    go_wp2
    go_ret
    exact ⟨ret_bool (by rw [HV.out]; simp [h1, h2]), Below.refl _ _⟩
end Go.Proofs.Ytjajpdghamecoaa
/- DnRight: what the texts of the program and of the specification return. -/
namespace Go.Proofs.Ytjajpdghamecoaa
open Go.RowKit

theorem bcell {W w1 : World} (hb : Below W.heap.size W w1) : (∀ b o, b < W.heap.size → w1.cell? ⟨b, o, none⟩ = W.cell? ⟨b, o, none⟩) ∧ (∀ b o, b < W.heap.size → w1.frozen? ⟨b, o, none⟩ = W.frozen? ⟨b, o, none⟩) :=
  ⟨fun b o h => hb.cell (p := ⟨b, o, none⟩) h, fun b o h => hb.frozen (p := ⟨b, o, none⟩) h⟩
set_option maxHeartbeats 400000 in
theorem rdnRight_any (a v : ByteArray) (w : World) (ha : a.size ≤ maxLen) (hv : v.size ≤ maxLen) :
    Calls Try.prog 49 #[.agg #[.string a, .string v]] w fun e w' => e = .returned (.bool (rdnB (a, v))) ∧ Below w.heap.size w w' := by
  have HV : Hid (rdnB (a, v) = (nmL a && valB v)) := Lib.hid rfl
  cases h1 : nmL a
  · rw [h1] at HV
    go_enter Try.func49, Try.ntmps49
    go_wp2_with (first | (go_at_call 91; refine (NameRight_any _ _ ha).mono ?_; rintro e w' ⟨rfl, rfl⟩))
    go_ret
    exact ⟨ret_bool (by rw [HV.out]; rfl), (Below.refl _ _).alloc (Nat.le_refl _) _⟩
  · rw [h1] at HV
    go_enter Try.func49, Try.ntmps49
    go_wp2_with (first | (go_at_call 91; refine (NameRight_any _ _ ha).mono ?_; rintro e w' ⟨rfl, rfl⟩) | (go_at_call 92; refine (isProperValue_any _ _ hv).mono ?_; rintro e w1 ⟨rfl, hb1⟩))
    go_ret
    exact ⟨ret_bool (by rw [HV.out]; rfl), ((Below.refl _ _).alloc (Nat.le_refl _) _).trans (hb1.mono (by simp))⟩

theorem dnB_long {d : RdnL} (h : ¬ d.length ≤ 6) : dnB d = false := by unfold dnB; simp [h]
theorem dnB_short {d : RdnL} (h : d.length ≤ 6) : dnB d = d.all rdnB := by unfold dnB; simp [h]
set_option maxHeartbeats 400000 in
theorem DnRight_any (ao : Option Addr) (d : RdnL) (cap : Nat) (w : World) (hd : DnAt w ao d) (hf : Fits d) :
    Calls Try.prog 13 #[.slice ao d.length cap] w fun e w' => e = .returned (.bool (dnB d)) ∧ Below w.heap.size w w' := by
  have hl := hf.1
  have HD := Lib.hid hd; have HF := Lib.hid hf; clear hd hf
  by_cases h6 : d.length ≤ 6
  · have HV := Lib.hid (dnB_short h6)
    go_enter Try.func13, Try.ntmps13
    go_wp2
    go_loopw [9] (fun i wr => ∃ k : Nat, k ≤ d.length ∧ i = .int .i64 k ∧ (d.take k).all rdnB = true ∧ Below w.heap.size w wr) (fun i _ => d.length - (intOf i).toNat)
    case atStart => exact ⟨0, Nat.zero_le _, rfl, rfl, Below.refl _ _⟩
    case round =>
      obtain ⟨k, hk, rfl, ha, hbel⟩ := hrel
      have Ha := Lib.hid ha; clear ha
      have hsz := hbel.size
      by_cases hlt : k < d.length
      · obtain ⟨b, off, rfl, hb, hc1, hc2⟩ := (HD.out.below hbel).at hlt
        have hz := HF.out.at hlt
        generalize hr : rdnB d[k] = r at *
        have HR := Lib.hid hr; clear hr
        cases r
        · have HX := Lib.hid (all_bad rdnB d k hlt HR.out)
          go_wp2_with (first | (go_at_call 49; refine (rdnRight_any _ _ _ hz.1 hz.2).mono ?_; rintro e w1 ⟨rfl, hb1⟩; rw [HR.out]))
          go_ret
          exact ⟨ret_bool (by rw [HV.out, HX.out]), hbel.trans (hb1.mono hsz)⟩
        · have HT : Hid ((d.take (k + 1)).all rdnB = true) := Lib.hid (by rw [all_take rdnB d k hlt, Ha.out, HR.out]; rfl)
          go_wp2_with (first | (go_at_call 49; refine (rdnRight_any _ _ _ hz.1 hz.2).mono ?_; rintro e w1 ⟨rfl, hb1⟩; rw [HR.out]))
          go_roundw
          case rel => exact ⟨k + 1, by omega, by go_num, HT.out, hbel.trans (hb1.mono hsz)⟩
          case measure => simp [intOf]; omega
      · have e : d.take k = d := List.take_of_length_le (by omega)
        have HT : Hid (d.all rdnB = true) := Lib.hid (by rw [← e]; exact Ha.out)
        clear e
        go_wp2
        go_ret
        exact ⟨ret_bool (by rw [HV.out, HT.out]), hbel⟩
  · have HV := Lib.hid (dnB_long h6)
    have h6' : 6 < d.length := by omega
    clear h6
    go_enter Try.func13, Try.ntmps13
    go_wp2
    go_ret
    exact ⟨ret_bool HV.out.symm, Below.refl _ _⟩
theorem dnB_bad {d : RdnL} {k : Nat} (h : k < d.length) (hb : rdnB d[k] = false) : dnB d = false := by unfold dnB; rw [all_bad rdnB d k h hb]; simp
theorem dnB_all {d : RdnL} (h : d.all rdnB = true) : dnB d = decide (d.length ≤ 6) := by unfold dnB; rw [h]; simp
set_option maxHeartbeats 400000 in
theorem SpecDnRight_any (ao : Option Addr) (d : RdnL) (cap : Nat) (w : World) (hd : DnAt w ao d) (hf : Fits d) :
    Calls Try.prog 14 #[.slice ao d.length cap] w fun e w' => e = .returned (.bool (dnB d)) ∧ Below w.heap.size w w' := by
  have hl := hf.1
  have HD := Lib.hid hd; have HF := Lib.hid hf; clear hd hf
  go_enter Try.func14, Try.ntmps14
  go_wp2
  go_loopw [3] (fun i wr => ∃ k : Nat, k ≤ d.length ∧ i = .int .i64 k ∧ (d.take k).all rdnB = true ∧ Below w.heap.size w wr) (fun i _ => d.length - (intOf i).toNat)
  case atStart => exact ⟨0, Nat.zero_le _, rfl, rfl, Below.refl _ _⟩
  case round =>
    obtain ⟨k, hk, rfl, ha, hbel⟩ := hrel
    have Ha := Lib.hid ha; clear ha
    have hsz := hbel.size
    by_cases hlt : k < d.length
    · obtain ⟨b, off, rfl, hb, hc1, hc2⟩ := (HD.out.below hbel).at hlt
      have hz := HF.out.at hlt
      have HR : Hid (rdnB d[k] = (nmL d[k].1 && valB d[k].2)) := Lib.hid rfl
      cases hn : nmL d[k].1
      · have HX := Lib.hid (dnB_bad hlt (by rw [HR.out, hn]; rfl))
        go_wp2_with (first | (go_at_call 50; refine (SpecNameRight_any _ _ hz.1).mono ?_; rintro e w' ⟨rfl, rfl⟩))
        go_ret
        exact ⟨ret_bool HX.out.symm, hbel⟩
      · cases hv : valB d[k].2
        · have HX := Lib.hid (dnB_bad hlt (by rw [HR.out, hn, hv]; rfl))
          go_wp2_with (first | (go_at_call 50; refine (SpecNameRight_any _ _ hz.1).mono ?_; rintro e w' ⟨rfl, rfl⟩) | (go_at_call 51; refine (l02Value_any _ _ hz.2).mono ?_; rintro e w1 ⟨rfl, hb1⟩))
          go_ret
          exact ⟨ret_bool HX.out.symm, hbel.trans (hb1.mono hsz)⟩
        · have HT : Hid ((d.take (k + 1)).all rdnB = true) := Lib.hid (by rw [all_take rdnB d k hlt, Ha.out, HR.out, hn, hv]; rfl)
          go_wp2_with (first | (go_at_call 50; refine (SpecNameRight_any _ _ hz.1).mono ?_; rintro e w' ⟨rfl, rfl⟩) | (go_at_call 51; refine (l02Value_any _ _ hz.2).mono ?_; rintro e w1 ⟨rfl, hb1⟩))
          go_roundw
          case rel => exact ⟨k + 1, by omega, by go_num, HT.out, hbel.trans (hb1.mono hsz)⟩
          case measure => simp [intOf]; omega
    · have e : d.take k = d := List.take_of_length_le (by omega)
      have HT := Lib.hid (dnB_all (d := d) (by rw [← e]; exact Ha.out))
      clear e
      go_wp2
      go_ret
      exact ⟨ret_bool (by rw [HT.out]; exact decide_eq_decide.2 (by omega)), hbel⟩
end Go.Proofs.Ytjajpdghamecoaa
