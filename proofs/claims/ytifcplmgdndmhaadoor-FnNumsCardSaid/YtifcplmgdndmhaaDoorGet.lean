/- GetNum: what the texts of the program and of the specification return. -/
import Derived.Test.YtifcplmgdndmhaaDoorScan2
namespace Go.Proofs.YtifcplmgdndmhaaDoor
open Go.RowKit

/-- errors.errorType holds the handle of the type error -/
def Handle (w : World) : Prop := w.cell? ⟨0, 0, none⟩ = some (.iface 74 (.agg #[.pointer (some ⟨1, 45, none⟩)]))
theorem Handle.pos {w : World} (h : Handle w) : 0 < w.heap.size := by
  rcases Nat.eq_zero_or_pos w.heap.size with h0 | h1
  · simp [Handle, World.cell?, h0] at h
  · exact h1
theorem Handle.below {w w' : World} (h : Handle w) (hb : Below w.heap.size w w') : Handle w' := by
  unfold Handle; rw [hb.cell (p := ⟨0, 0, none⟩) h.pos]; exact h
theorem Handle.alloc {w : World} (h : Handle w) (o : Obj) : Handle (w.alloc o) := h.below ((Below.refl _ _).alloc (Nat.le_refl _) _)

set_option maxHeartbeats 1000000 in
theorem malformedCode_any (c : Int) (w : World) (hg : Handle w) :
    Calls Tryd.prog 22 #[.iface 55 (.agg #[.int .i64 c])] w fun e w' => e = .returned (.int .i64 c) ∧ Below w.heap.size w w' := by
  have HG := Lib.hid (hg.alloc (.cells #[.int .i64 0] 55)); clear hg
  go_enter Tryd.func22, Tryd.ntmps22
  go_wp2_with (first | (go_at_call 28; refine (as_hit c ⟨w.heap.size, 0, none⟩ (.int .i64 0) _ HG.out (by simp) (by simp)).mono ?_; rintro e w' ⟨rfl, rfl⟩))
  go_ret
  exact ⟨rfl, (((((Below.refl _ _).alloc (Nat.le_refl _) _).alloc (by simp) _).alloc (by simp; omega) _).alloc (by simp; omega) _).alloc (by simp; omega) _⟩

theorem fits_nat (u c i : Nat) (hu : u < 2 ^ (7 * i)) (hi : i ≤ 9) (h9 : ¬ (i = 9 ∧ 1 < c)) : u + c % 128 * 2 ^ (7 * i) < 18446744073709551616 := by
  have h3 : c % 128 < 128 := Nat.mod_lt _ (by decide)
  by_cases e : i = 9
  · subst e
    have : c ≤ 1 := by
      by_cases g : 1 < c
      · exact absurd ⟨rfl, g⟩ h9
      · omega
    have : c % 128 ≤ 1 := by omega
    simp at hu ⊢
    omega
  · have e2 : 2 ^ (7 * i) ≤ 2 ^ 56 := Nat.pow_le_pow_right (by decide) (by omega)
    have : c % 128 * 2 ^ (7 * i) ≤ 127 * 2 ^ 56 := Nat.mul_le_mul (by omega) e2
    omega
theorem next_nat (u c i : Nat) (hu : u < 2 ^ (7 * i)) : u + c % 128 * 2 ^ (7 * i) < 2 ^ (7 * (i + 1)) := by
  have h3 : c % 128 < 128 := Nat.mod_lt _ (by decide)
  have e : 2 ^ (7 * (i + 1)) = 128 * 2 ^ (7 * i) := by rw [show 7 * (i + 1) = 7 + 7 * i by omega, Nat.pow_add]
  rw [e]
  have : c % 128 * 2 ^ (7 * i) ≤ 127 * 2 ^ (7 * i) := Nat.mul_le_mul_right _ (by omega)
  omega
theorem scanG_ok (s : ByteArray) (p : Nat) : ∀ f i u, i + f = 10 → u < 2 ^ (7 * i) → (scanG s p f i u).1 = 0 →
    (scanG s p f i u).2.1 < 18446744073709551616 ∧ p < (scanG s p f i u).2.2 ∧ (scanG s p f i u).2.2 ≤ s.size := by
  intro f
  induction f with
  | zero => intro i u _ _ h; simp [scanG] at h
  | succ f ih =>
    intro i u hi hu h
    unfold scanG at h ⊢
    split at h
    · rename_i hs
      rw [dif_pos hs]
      split at h
      · simp at h
      · rename_i h9
        rw [if_neg h9]
        split at h
        · rename_i hc
          rw [if_pos hc]
          split at h
          · simp at h
          · rename_i hz
            rw [if_neg hz]
            exact ⟨fits_nat _ _ _ hu (by omega) h9, by simp; omega, by simp; omega⟩
        · rename_i hc
          rw [if_neg hc]
          exact ih (i + 1) _ (by omega) (next_nat _ _ _ hu) h
    · simp at h
theorem scanV_ok (s : ByteArray) (p : Nat) (h : (scanV s p).1 = 0) : (scanV s p).2.1 < 18446744073709551616 ∧ p < (scanV s p).2.2 ∧ (scanV s p).2.2 ≤ s.size :=
  scanG_ok s p 10 0 0 rfl (by decide) h

/-- from u back to n -/
def unzig (u : Nat) : Int := if u % 2 = 1 then -((u / 2 : Nat) : Int) - 1 else ((u / 2 : Nat) : Int)
def numN (s : ByteArray) (x : Int) : Int := if s.size ≤ 8000 ∧ 0 ≤ x ∧ (scanV s x.toNat).1 = 0 then unzig (scanV s x.toNat).2.1 else 0
def numA (s : ByteArray) (x : Int) : Int := if s.size ≤ 8000 ∧ 0 ≤ x ∧ (scanV s x.toNat).1 = 0 then ((scanV s x.toNat).2.2 : Nat) else 0
def numC (s : ByteArray) (x : Int) : Int := if 8000 < s.size then 2 else if x < 0 then 1 else ((scanV s x.toNat).1 : Nat)
theorem num_long (s : ByteArray) (x : Int) (h : 8000 < s.size) : numN s x = 0 ∧ numA s x = 0 ∧ numC s x = 2 := by
  unfold numN numA numC; rw [if_neg (by omega), if_neg (by omega), if_pos h]; exact ⟨rfl, rfl, rfl⟩
theorem num_neg (s : ByteArray) (x : Int) (h : ¬ 8000 < s.size) (hx : x < 0) : numN s x = 0 ∧ numA s x = 0 ∧ numC s x = 1 := by
  unfold numN numA numC; rw [if_neg (by omega), if_neg (by omega), if_neg h, if_pos hx]; exact ⟨rfl, rfl, rfl⟩
theorem num_bad (s : ByteArray) (p : Nat) (h : ¬ 8000 < s.size) (c : Nat) (hc : scanV s p = (c, 0, 0)) (h0 : 0 < c) : numN s p = 0 ∧ numA s p = 0 ∧ numC s p = (c : Int) := by
  unfold numN numA numC; rw [Int.toNat_natCast, hc, if_neg (by simp; omega), if_neg (by simp; omega), if_neg h, if_neg (by omega)]; exact ⟨rfl, rfl, rfl⟩
theorem num_ok (s : ByteArray) (p : Nat) (h : ¬ 8000 < s.size) (u e : Nat) (hc : scanV s p = (0, u, e)) : numN s p = unzig u ∧ numA s p = (e : Int) ∧ numC s p = 0 := by
  unfold numN numA numC; rw [Int.toNat_natCast, hc, if_pos ⟨by omega, by omega, rfl⟩, if_pos ⟨by omega, by omega, rfl⟩, if_neg h, if_neg (by omega)]; exact ⟨rfl, rfl, rfl⟩

theorem scanG_form (s : ByteArray) (p : Nat) : ∀ f i u, (∃ c, 0 < c ∧ scanG s p f i u = (c, 0, 0)) ∨ ∃ v e, scanG s p f i u = (0, v, e) := by
  intro f
  induction f with
  | zero => intro i u; exact .inl ⟨3, by decide, rfl⟩
  | succ f ih =>
    intro i u
    unfold scanG
    split
    · split
      · exact .inl ⟨3, by decide, rfl⟩
      · split
        · split
          · exact .inl ⟨3, by decide, rfl⟩
          · exact .inr ⟨_, _, rfl⟩
        · exact ih _ _
    · exact .inl ⟨4, by decide, rfl⟩
theorem scanRet_ok (s : ByteArray) (p u e : Nat) (h : scanV s p = (0, u, e)) : scanRet s p = .tuple #[.int .u64 (u : Nat), .int .i64 (e : Nat), .nilIface] := by unfold scanRet; rw [h]; rfl
theorem scanRet_bad (s : ByteArray) (p c : Nat) (h : scanV s p = (c, 0, 0)) (h0 : 0 < c) : scanRet s p = .tuple #[.int .u64 0, .int .i64 0, .iface 55 (.agg #[.int .i64 (c : Nat)])] := by
  unfold scanRet; rw [h, if_neg (by simp; omega)]

theorem and_one_nat (u : Nat) (h : u < 18446744073709551616) : bits .and .u64 (u : Int) 1 = ((u % 2 : Nat) : Int) := by
  have e := bits_and_u64_nat u 1 h (by decide)
  rw [Nat.and_one_is_mod] at e
  exact e
theorem half_in (u : Nat) (h : u < 18446744073709551616) : wrap64 ((u : Int) / 2) = ((u / 2 : Nat) : Int) := by unfold wrap64; omega
theorem flip_i64 (n : Nat) (h : n < 9223372036854775808) : bits .xor .i64 (-1) (n : Int) = -(n : Int) - 1 := by
  have f := congrArg BitVec.toNat (BitVec.allOnes_xor (x := BitVec.ofNat 64 n))
  rw [BitVec.toNat_not, BitVec.toNat_ofNat, Nat.mod_eq_of_lt (by omega)] at f
  show IntKind.i64.wrap ((BitVec.ofInt 64 (-1) ^^^ BitVec.ofInt 64 (n : Int)).toNat : Int) = _
  have e1 : BitVec.ofInt 64 (-1) = BitVec.allOnes 64 := by decide
  rw [e1, BitVec.ofInt_natCast, f, IntKind.wrap_i64]
  omega
theorem unzig_odd (u : Nat) (h : u < 18446744073709551616) (ho : u % 2 = 1) : bits .xor .i64 (-1) (wrap64 ((u : Int) / 2)) = unzig u := by
  rw [half_in u h, flip_i64 _ (by omega)]; unfold unzig; rw [if_pos ho]
theorem unzig_even (u : Nat) (h : u < 18446744073709551616) (ho : ¬ u % 2 = 1) : wrap64 ((u : Int) / 2) = unzig u := by
  rw [half_in u h]; unfold unzig; rw [if_neg ho]

set_option maxRecDepth 100000 in
set_option maxHeartbeats 1000000 in
theorem GetNum_ok (s : ByteArray) (p : Nat) (w : World) (hs : s.size ≤ 8000) (hp : p ≤ 9223372036854775807) (u e : Nat) (hv : scanV s p = (0, u, e)) :
    Calls Tryd.prog 9 #[.string s, .int .i64 p] w fun r w' => r = .returned (.agg #[.int .i64 (unzig u), .int .i64 e, .int .i64 0]) ∧ Below w.heap.size w w' := by
  have A := fun w => scanNum_any s p w hs hp
  rw [scanRet_ok s p u e hv] at A
  have HA := Lib.hid A; clear A
  have hu := (scanV_ok s p (by rw [hv])).1
  rw [hv] at hu
  have hu' : u < 18446744073709551616 := hu
  have hand := and_one_nat u hu'
  by_cases ho : u % 2 = 1
  · have hb : (bits .and .u64 (u : Int) 1 == 1) = true := by rw [hand, ho]; rfl
    have HU := Lib.hid (unzig_odd u hu' ho)
    clear hand hu hu' hv ho
    go_enter Tryd.func9, Tryd.ntmps9
    go_wp2_with (first | (go_at_call 21; refine (HA.out _).mono ?_; rintro e w' ⟨rfl, rfl⟩))
    rw [HU.out]
    exact bodyPost_ret (v := .agg #[.int .i64 (unzig u), .int .i64 e, .int .i64 0]) (by simp [results, Tryd.results9, go_sem]) rfl ⟨rfl, (Below.refl _ _).alloc (Nat.le_refl _) _⟩
  · have h0 : u % 2 = 0 := by omega
    have hb : (bits .and .u64 (u : Int) 1 == 1) = false := by rw [hand, h0]; rfl
    have HU := Lib.hid (unzig_even u hu' ho)
    clear hand hu hu' hv ho h0
    go_enter Tryd.func9, Tryd.ntmps9
    go_wp2_with (first | (go_at_call 21; refine (HA.out _).mono ?_; rintro e w' ⟨rfl, rfl⟩))
    rw [HU.out]
    exact bodyPost_ret (v := .agg #[.int .i64 (unzig u), .int .i64 e, .int .i64 0]) (by simp [results, Tryd.results9, go_sem]) rfl ⟨rfl, (Below.refl _ _).alloc (Nat.le_refl _) _⟩

end Go.Proofs.YtifcplmgdndmhaaDoor
