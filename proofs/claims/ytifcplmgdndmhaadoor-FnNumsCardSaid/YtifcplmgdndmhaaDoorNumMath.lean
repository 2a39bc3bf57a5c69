/- The encoding of an integer: plain mathematics. -/
import Derived.WalkKit
import Derived.Laws.BitsLemmas
import Derived.Laws.Bits64b
namespace Go.Proofs.YtifcplmgdndmhaaDoor
open Go

/-- 2n, or -2n - 1 -/
def foldN (n : Int) : Nat := (if n < 0 then -2 * n - 1 else 2 * n).toNat
/-- the groups of seven bits of a number of at most 7 * f bits -/
def encF : Nat → Nat → List UInt8
  | 0, u => [UInt8.ofNat u]
  | f + 1, u => if 128 ≤ u then UInt8.ofNat (u % 128 + 128) :: encF f (u / 128) else [UInt8.ofNat u]
def enc (u : Nat) : List UInt8 := encF 9 u
def encS (n : Int) : ByteArray := ⟨(enc (foldN n)).toArray⟩

theorem foldN_nonneg (n : Int) (h : ¬ n < 0) : n * 2 = ((foldN n : Nat) : Int) := by unfold foldN; rw [if_neg h]; omega
theorem foldN_lt (n : Int) (h0 : -9223372036854775808 ≤ n) (h1 : n ≤ 9223372036854775807) : foldN n < 18446744073709551616 := by
  unfold foldN; split <;> omega
theorem flip_u64 (r : Nat) (h : r < 18446744073709551616) : bits .xor .u64 IntKind.u64.max (r : Int) = ((18446744073709551615 - r : Nat) : Int) := by
  have e := bits_xor_u64_nat 18446744073709551615 r (by decide) h
  have f := congrArg BitVec.toNat (BitVec.allOnes_xor (x := BitVec.ofNat 64 r))
  rw [BitVec.toNat_xor, BitVec.toNat_not, BitVec.toNat_allOnes, BitVec.toNat_ofNat, Nat.mod_eq_of_lt (by omega)] at f
  have f' : 18446744073709551615 ^^^ r = 18446744073709551615 - r := by simpa using f
  rw [f'] at e
  exact e
theorem foldN_neg (n : Int) (h : n < 0) (h0 : -9223372036854775808 ≤ n) :
    bits .xor .u64 IntKind.u64.max (IntKind.u64.wrap (IntKind.u64.wrap n * 2)) = ((foldN n : Nat) : Int) := by
  rw [IntKind.wrap_u64, IntKind.wrap_u64]
  obtain ⟨r, hr⟩ := Int.eq_ofNat_of_zero_le (show 0 ≤ n % 18446744073709551616 * 2 % 18446744073709551616 by omega)
  rw [hr, flip_u64 r (by omega)]
  unfold foldN
  rw [if_pos h]
  omega

/-- what is left to be written after k groups fits in the groups that are left -/
def Left (u0 k u : Nat) (pre : List UInt8) : Prop := k ≤ 9 ∧ pre.length = k ∧ u < 2 ^ (64 - 7 * k) ∧ pre ++ encF (9 - k) u = enc u0
theorem left_start (u0 : Nat) (h : u0 < 18446744073709551616) : Left u0 0 u0 [] := ⟨by decide, rfl, h, rfl⟩
theorem left_room {u0 k u : Nat} {pre : List UInt8} (h : Left u0 k u pre) (hu : 128 ≤ u) : k ≤ 8 := by
  obtain ⟨h1, h2, h3, h4⟩ := h
  by_cases e : k = 9
  · subst e; simp at h3; omega
  · omega
theorem left_lt {u0 k u : Nat} {pre : List UInt8} (h : Left u0 k u pre) : u < 18446744073709551616 :=
  Nat.lt_of_lt_of_le h.2.2.1 (Nat.pow_le_pow_right (n := 2) (by decide) (show 64 - 7 * k ≤ 64 by omega))
theorem left_step {u0 k u : Nat} {pre : List UInt8} (h : Left u0 k u pre) (hu : 128 ≤ u) :
    Left u0 (k + 1) (u / 128) (pre ++ [UInt8.ofNat (u % 128 + 128)]) := by
  have hr := left_room h hu
  obtain ⟨h1, h2, h3, h4⟩ := h
  refine ⟨by omega, by simp [h2], ?_, ?_⟩
  · rw [Nat.div_lt_iff_lt_mul (by decide)]
    have : 2 ^ (64 - 7 * (k + 1)) * 128 = 2 ^ (64 - 7 * k) := by
      rw [show (128 : Nat) = 2 ^ 7 from rfl, ← Nat.pow_add]; congr 1; omega
    omega
  · rw [← h4, show 9 - k = (9 - (k + 1)) + 1 by omega]
    simp [encF, hu]
theorem left_end {u0 k u : Nat} {pre : List UInt8} (h : Left u0 k u pre) (hu : ¬ 128 ≤ u) : pre ++ [UInt8.ofNat u] = enc u0 := by
  obtain ⟨h1, h2, h3, h4⟩ := h
  rw [← h4]
  cases e : 9 - k with
  | zero => rfl
  | succ m => simp [encF, hu]
theorem enc_len (u0 : Nat) : 1 ≤ (enc u0).length ∧ (enc u0).length ≤ 10 := by
  have : ∀ f u, 1 ≤ (encF f u).length ∧ (encF f u).length ≤ f + 1 := by
    intro f
    induction f with
    | zero => intro u; simp [encF]
    | succ f ih =>
      intro u
      have := ih (u / 128)
      unfold encF
      split <;> simp <;> omega
  exact this 9 u0
end Go.Proofs.YtifcplmgdndmhaaDoor
