/- The register of the CRC as a natural number: plain mathematics. -/
import Derived.WalkKit
import Derived.Laws.BitsLemmas
import Derived.Laws.Bits64b
namespace Go.Proofs.Ytifcplmgdndmhaa
open Go

def crcP : Nat := 3988292384
def sp (r : Nat) : Nat := if r % 2 = 1 then (r / 2) ^^^ crcP else r / 2
def it : Nat → Nat → Nat
  | 0, r => r
  | n + 1, r => sp (it n r)
def byteStep (r c : Nat) : Nat := it 8 (r ^^^ c)
def crcReg (r : Nat) (l : List UInt8) : Nat := l.foldl (fun r c => byteStep r c.toNat) r

theorem crcP_lt : crcP < 4294967296 := by decide
theorem sp_lt (r : Nat) (h : r < 4294967296) : sp r < 4294967296 := by
  unfold sp
  split
  · exact Nat.xor_lt_two_pow (n := 32) (by omega) crcP_lt
  · omega
theorem it_lt (n r : Nat) (h : r < 4294967296) : it n r < 4294967296 := by
  induction n with
  | zero => exact h
  | succ n ih => exact sp_lt _ ih
theorem byteStep_lt (r c : Nat) (h : r < 4294967296) (hc : c < 256) : byteStep r c < 4294967296 :=
  it_lt _ _ (Nat.xor_lt_two_pow (n := 32) h (by omega))
theorem crcReg_lt (l : List UInt8) (r : Nat) (h : r < 4294967296) : crcReg r l < 4294967296 := by
  induction l generalizing r with
  | nil => exact h
  | cons c l ih => exact ih _ (byteStep_lt _ _ h c.toNat_lt)
theorem crcReg_snoc (l : List UInt8) (r : Nat) (c : UInt8) : crcReg r (l ++ [c]) = byteStep (crcReg r l) c.toNat := by
  simp [crcReg]
theorem crcReg_append (l m : List UInt8) (r : Nat) : crcReg r (l ++ m) = crcReg (crcReg r l) m := by
  simp [crcReg]

theorem bits_xor_u32_nat (a b : Nat) (ha : a < 4294967296) (hb : b < 4294967296) :
    bits .xor .u32 (a : Int) (b : Int) = ((a ^^^ b : Nat) : Int) := by
  have hx : a ^^^ b < 2 ^ 32 := Nat.xor_lt_two_pow (by omega) (by omega)
  have h1 : (BitVec.ofInt 32 (a : Int)).toNat = a := by
    rw [BitVec.ofInt_natCast, BitVec.toNat_ofNat]; exact Nat.mod_eq_of_lt (by omega)
  have h2 : (BitVec.ofInt 32 (b : Int)).toNat = b := by
    rw [BitVec.ofInt_natCast, BitVec.toNat_ofNat]; exact Nat.mod_eq_of_lt (by omega)
  show IntKind.u32.wrap ((BitVec.ofInt 32 (a : Int) ^^^ BitVec.ofInt 32 (b : Int)).toNat : Int) = _
  rw [BitVec.toNat_xor, h1, h2, IntKind.wrap_u32]
  omega
theorem bits_and_one_u32 (a : Nat) (ha : a < 4294967296) : bits .and .u32 (a : Int) 1 = ((a % 2 : Nat) : Int) := by
  have := bits_mask .u32 32 (by decide) (fun n h0 h1 => by rw [IntKind.wrap_u32]; omega) 1 (by decide) (a : Int) (by omega) (by omega)
  simpa using this

theorem mixed_eq (c q k : Nat) (hc : c < 256) (hq : q < 4294967296) :
    bits .xor .u32 (bits .and .u32 ((c : Int) / 2 ^ k % 4294967296) 1) (bits .and .u32 (q : Int) 1) = (((c / 2 ^ k + q) % 2 : Nat) : Int) := by
  have hd : c / 2 ^ k ≤ c := Nat.div_le_self _ _
  have e0 : ((c : Int) / 2 ^ k) = ((c / 2 ^ k : Nat) : Int) := by simp
  have e : ((c : Int) / 2 ^ k % 4294967296) = ((c / 2 ^ k : Nat) : Int) := by
    rw [e0]
    generalize c / 2 ^ k = d at *
    clear e0
    omega
  rw [e, bits_and_one_u32 _ (by omega), bits_and_one_u32 _ hq, bits_xor_u32_nat _ _ (by omega) (by omega)]
  have h1 : c / 2 ^ k % 2 < 2 := Nat.mod_lt _ (by decide)
  have h2 : q % 2 < 2 := Nat.mod_lt _ (by decide)
  have : (c / 2 ^ k % 2) ^^^ (q % 2) = (c / 2 ^ k + q) % 2 := by
    rw [Nat.add_mod]
    generalize c / 2 ^ k % 2 = a at *
    generalize q % 2 = b at *
    have : a = 0 ∨ a = 1 := by omega
    have : b = 0 ∨ b = 1 := by omega
    rcases ‹a = 0 ∨ a = 1› with rfl | rfl <;> rcases ‹b = 0 ∨ b = 1› with rfl | rfl <;> rfl
  rw [this]

theorem xor_mod2 (a b : Nat) : (a ^^^ b) % 2 = (a + b) % 2 := by
  have h := Nat.xor_mod_two_pow (a := a) (b := b) (n := 1)
  have h1 : a % 2 = 0 ∨ a % 2 = 1 := by omega
  have h2 : b % 2 = 0 ∨ b % 2 = 1 := by omega
  simp only [Nat.pow_one] at h
  rcases h1 with h1 | h1 <;> rcases h2 with h2 | h2 <;> rw [h, h1, h2] <;> simp <;> omega
/-- one round of the program's step: its register and the rest of the byte together are the specification's register -/
theorem round_yes (r c q k : Nat) (h : q ^^^ (c / 2 ^ k) = it k (r ^^^ c)) (hm : (c / 2 ^ k + q) % 2 = 1) :
    ((q / 2) ^^^ crcP) ^^^ (c / 2 ^ (k + 1)) = it (k + 1) (r ^^^ c) := by
  show _ = sp (it k (r ^^^ c))
  rw [← h]
  have e : (q ^^^ (c / 2 ^ k)) % 2 = 1 := by rw [xor_mod2]; omega
  unfold sp
  rw [if_pos e, Nat.xor_div_two, Nat.div_div_eq_div_mul, ← Nat.pow_succ, Nat.xor_assoc, Nat.xor_assoc, Nat.xor_comm crcP]
theorem round_no (r c q k : Nat) (h : q ^^^ (c / 2 ^ k) = it k (r ^^^ c)) (hm : (c / 2 ^ k + q) % 2 = 0) :
    (q / 2) ^^^ (c / 2 ^ (k + 1)) = it (k + 1) (r ^^^ c) := by
  show _ = sp (it k (r ^^^ c))
  rw [← h]
  have e : ¬ (q ^^^ (c / 2 ^ k)) % 2 = 1 := by rw [xor_mod2]; omega
  unfold sp
  rw [if_neg e, Nat.xor_div_two, Nat.div_div_eq_div_mul, ← Nat.pow_succ]
theorem round_end (r c q : Nat) (hc : c < 256) (h : q ^^^ (c / 2 ^ 8) = it 8 (r ^^^ c)) : q = byteStep r c := by
  rw [Nat.div_eq_of_lt (by simpa using hc), Nat.xor_zero] at h
  exact h

theorem flip_nat (r : Nat) (h : r ≤ 4294967295) : 4294967295 ^^^ r = 4294967295 - r := by
  have e := congrArg BitVec.toNat (BitVec.allOnes_xor (x := BitVec.ofNat 32 r))
  rw [BitVec.toNat_xor, BitVec.toNat_not, BitVec.toNat_allOnes, BitVec.toNat_ofNat, Nat.mod_eq_of_lt (by omega)] at e
  simpa using e
theorem flip_l (r : Nat) (h : r ≤ 4294967295) : bits .xor .u32 IntKind.u32.max (r : Int) = ((4294967295 - r : Nat) : Int) := by
  have e := bits_xor_u32_nat 4294967295 r (by decide) (by omega)
  rw [flip_nat r h] at e
  exact e
theorem flip_r (r : Nat) (h : r ≤ 4294967295) : bits .xor .u32 (r : Int) 4294967295 = ((4294967295 - r : Nat) : Int) := by
  have e := bits_xor_u32_nat r 4294967295 (by omega) (by decide)
  rw [Nat.xor_comm, flip_nat r h] at e
  exact e
/-- the CRC of a text, continued from another -/
def crcOf (crc : Nat) (l : List UInt8) : Nat := 4294967295 - crcReg (4294967295 - crc) l
def crcMoreV (x : Int) (s : ByteArray) : Int := if s.size ≤ 8000 ∧ 0 ≤ x ∧ x ≤ 4294967295 then (crcOf x.toNat s.data.toList : Nat) else 0
def crcV (s : ByteArray) : Int := if s.size ≤ 8000 then (crcOf 0 s.data.toList : Nat) else 0
theorem crcOf_le (n : Nat) (l : List UInt8) : crcOf n l ≤ 4294967295 := by unfold crcOf; omega
theorem xor_byte_lt (r c : Nat) (h : r < 4294967296) (hc : c < 256) : r ^^^ c < 4294967296 := Nat.xor_lt_two_pow (n := 32) h (by omega)
end Go.Proofs.Ytifcplmgdndmhaa
