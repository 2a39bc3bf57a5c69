/- The decoding of an integer: plain mathematics; a scope with several labels. -/
import Derived.Test.YtifcplmgdndmhaaDoorAs
import Derived.ScopeJumps
import Derived.Laws.BitsLemmas
import Derived.Laws.Bits64b
namespace Go.Proofs.YtifcplmgdndmhaaDoor
open Go.RowKit

/-- As Q; by a goto to label l: J l. -/
def jumpQ (J : Nat → Act → World → Prop) (Q : Exit → Act → World → Prop) : Exit → Act → World → Prop
  | .goto l, a, w => J l a w
  | e, a, w => Q e a w

/-- A scope in which the run jumps to several labels: what holds at each jump, and a measure that every pass lowers. -/
theorem wp_scope_many {P : Program} {a : Act} {w : World} {Q : Exit → Act → World → Prop} {c : Code} (J : Nat → Act → World → Prop) (μ : Nat → Act → World → Nat)
    (first : c.wp P (jumpQ J Q) a w)
    (pass : ∀ l a w, J l a w → ∃ rest, findLabel c l = some rest ∧ rest.wp P (jumpQ (fun l' a' w' => J l' a' w' ∧ μ l' a' w' < μ l a w) Q) a w) : (Code.scope c).wp P Q a w := by
  intro b k cs
  have key : ∀ n l a w, μ l a w = n → J l a w → ∃ rest e a' w', findLabel c l = some rest ∧ Q e a' w' ∧ Arrives P (lone (b.at a (.code rest :: .inScope c :: k)) cs w) b k cs e a' w' := by
    intro n
    induction n using Nat.strongRecOn with
    | _ n ih =>
      intro l a w hn hJ
      obtain ⟨rest, hf, hp⟩ := pass l a w hJ
      obtain ⟨e, a₁, w₁, hq, harr⟩ := hp b (.inScope c :: k) cs
      cases e with
      | normal => exact ⟨rest, .normal, a₁, w₁, hf, hq, Steps.trans harr (.one step_inScope)⟩
      | exit id => exact ⟨rest, .exit id, a₁, w₁, hf, hq, fun k' hk => harr k' (by simp [exitTo, hk])⟩
      | goto l' =>
        obtain ⟨hJ', hlt⟩ := hq
        obtain ⟨rest', e₂, a₂, w₂, hf', hq₂, harr₂⟩ := ih _ (by omega) l' a₁ w₁ rfl hJ'
        exact ⟨rest, e₂, a₂, w₂, hf, hq₂, .of_steps (harr _ (by simp [gotoIn, hf'])) harr₂⟩
      | ret => exact ⟨rest, _, a₁, w₁, hf, hq, harr⟩
      | panic ch => exact ⟨rest, _, a₁, w₁, hf, hq, harr⟩
      | outgrown => exact ⟨rest, _, a₁, w₁, hf, hq, harr⟩
  obtain ⟨e, a₁, w₁, hq, harr⟩ := first b (.inScope c :: k) cs
  cases e with
  | normal => exact ⟨.normal, a₁, w₁, hq, .head step_scope (Steps.trans harr (.one step_inScope))⟩
  | exit id => exact ⟨.exit id, a₁, w₁, hq, fun k' hk => .head step_scope (harr k' (by simp [exitTo, hk]))⟩
  | goto l' =>
    obtain ⟨rest', e₂, a₂, w₂, hf', hq₂, harr₂⟩ := key _ l' a₁ w₁ rfl hq
    exact ⟨e₂, a₂, w₂, hq₂, .of_steps (.head step_scope (harr _ (by simp [gotoIn, hf']))) harr₂⟩
  | ret => exact ⟨_, a₁, w₁, hq, .of_steps (.one step_scope) harr⟩
  | panic ch => exact ⟨_, a₁, w₁, hq, .of_steps (.one step_scope) harr⟩
  | outgrown => exact ⟨_, a₁, w₁, hq, .of_steps (.one step_scope) harr⟩

/-- the code, the number and the place behind it, from the i-th byte on; u is what the bytes ahead of it make -/
def scanG (s : ByteArray) (p : Nat) : Nat → Nat → Nat → Nat × Nat × Nat
  | 0, _, _ => (3, 0, 0)
  | f + 1, i, u =>
    if h : p + i < s.size then
      if i = 9 ∧ 1 < s[p + i].toNat then (3, 0, 0)
      else if s[p + i].toNat < 128 then
        (if s[p + i].toNat = 0 ∧ 0 < i then (3, 0, 0) else (0, u + s[p + i].toNat % 128 * 2 ^ (7 * i), p + i + 1))
      else scanG s p f (i + 1) (u + s[p + i].toNat % 128 * 2 ^ (7 * i))
    else (4, 0, 0)
def scanV (s : ByteArray) (p : Nat) : Nat × Nat × Nat := scanG s p 10 0 0

/-- i bytes have been read -/
def Scan (s : ByteArray) (p i u : Nat) : Prop := i ≤ 9 ∧ u < 2 ^ (7 * i) ∧ scanG s p (10 - i) i u = scanV s p
theorem scan_start (s : ByteArray) (p : Nat) : Scan s p 0 0 := ⟨by decide, by decide, rfl⟩
theorem scan_short {s : ByteArray} {p i u : Nat} (h : Scan s p i u) (hs : ¬ p + i < s.size) : scanV s p = (4, 0, 0) := by
  rw [← h.2.2, show 10 - i = (9 - i) + 1 by have := h.1; omega, scanG, dif_neg hs]
theorem scan_tenth {s : ByteArray} {p i u : Nat} (h : Scan s p i u) (hs : p + i < s.size) (h9 : i = 9) (hc : 1 < s[p + i].toNat) : scanV s p = (3, 0, 0) := by
  rw [← h.2.2, show 10 - i = (9 - i) + 1 by have := h.1; omega, scanG, dif_pos hs, if_pos ⟨h9, hc⟩]
theorem scan_over {s : ByteArray} {p i u : Nat} (h : Scan s p i u) (hs : p + i < s.size) (h9 : ¬ (i = 9 ∧ 1 < s[p + i].toNat)) (hc : s[p + i].toNat < 128) (hz : s[p + i].toNat = 0 ∧ 0 < i) : scanV s p = (3, 0, 0) := by
  rw [← h.2.2, show 10 - i = (9 - i) + 1 by have := h.1; omega, scanG, dif_pos hs, if_neg h9, if_pos hc, if_pos hz]
theorem scan_last {s : ByteArray} {p i u : Nat} (h : Scan s p i u) (hs : p + i < s.size) (h9 : ¬ (i = 9 ∧ 1 < s[p + i].toNat)) (hc : s[p + i].toNat < 128) (hz : ¬ (s[p + i].toNat = 0 ∧ 0 < i)) :
    scanV s p = (0, u + s[p + i].toNat % 128 * 2 ^ (7 * i), p + i + 1) := by
  rw [← h.2.2, show 10 - i = (9 - i) + 1 by have := h.1; omega, scanG, dif_pos hs, if_neg h9, if_pos hc, if_neg hz]
theorem scan_i {s : ByteArray} {p i u : Nat} (h : Scan s p i u) (hs : p + i < s.size) (h9 : ¬ (i = 9 ∧ 1 < s[p + i].toNat)) (hc : ¬ s[p + i].toNat < 128) : i ≤ 8 := by
  have := h.1
  by_cases e : i = 9
  · exact absurd ⟨e, by omega⟩ h9
  · omega
theorem scan_next {s : ByteArray} {p i u : Nat} (h : Scan s p i u) (hs : p + i < s.size) (h9 : ¬ (i = 9 ∧ 1 < s[p + i].toNat)) (hc : ¬ s[p + i].toNat < 128) :
    Scan s p (i + 1) (u + s[p + i].toNat % 128 * 2 ^ (7 * i)) := by
  have hi := scan_i h hs h9 hc
  refine ⟨by omega, ?_, ?_⟩
  · have h2 := h.2.1
    have h3 : s[p + i].toNat % 128 < 128 := Nat.mod_lt _ (by decide)
    have e : 2 ^ (7 * (i + 1)) = 128 * 2 ^ (7 * i) := by rw [show 7 * (i + 1) = 7 + 7 * i by omega, Nat.pow_add]
    rw [e]
    have : s[p + i].toNat % 128 * 2 ^ (7 * i) ≤ 127 * 2 ^ (7 * i) := Nat.mul_le_mul_right _ (by omega)
    omega
  · rw [← h.2.2, show 10 - i = (10 - (i + 1)) + 1 by omega]
    conv => rhs; rw [scanG, dif_pos hs, if_neg h9, if_neg hc]
/-- no sum passes 64 bits -/
theorem scan_fits {s : ByteArray} {p i u : Nat} (h : Scan s p i u) (hs : p + i < s.size) (h9 : ¬ (i = 9 ∧ 1 < s[p + i].toNat)) :
    u + s[p + i].toNat % 128 * 2 ^ (7 * i) < 18446744073709551616 := by
  have h2 := h.2.1
  have h3 : s[p + i].toNat % 128 < 128 := Nat.mod_lt _ (by decide)
  by_cases e : i = 9
  · subst e
    have : s[p + 9].toNat ≤ 1 := by
      by_cases g : 1 < s[p + 9].toNat
      · exact absurd ⟨rfl, g⟩ h9
      · omega
    have : s[p + 9].toNat % 128 ≤ 1 := by omega
    simp at h2 ⊢
    omega
  · have hi : i ≤ 8 := by have := h.1; omega
    have e2 : 2 ^ (7 * i) ≤ 2 ^ 56 := Nat.pow_le_pow_right (by decide) (by omega)
    have : s[p + i].toNat % 128 * 2 ^ (7 * i) ≤ 127 * 2 ^ 56 := Nat.mul_le_mul (by omega) e2
    omega

theorem and127 (c : Nat) (hc : c < 256) : bits .and .u8 (c : Int) 127 = ((c % 128 : Nat) : Int) := by
  have h := bits_mask .u8 8 (by decide) wraps_u8 7 (by decide) (c : Int) (by omega) (by omega)
  simpa using h
theorem or_step (u c i : Nat) (hc : c < 256) (hu : u < 2 ^ (7 * i)) (hf : u + c % 128 * 2 ^ (7 * i) < 18446744073709551616) :
    bits .or .u64 (u : Int) (IntKind.u64.wrap (IntKind.u64.wrap (bits .and .u8 (c : Int) 127) * 2 ^ (7 * i))) = ((u + c % 128 * 2 ^ (7 * i) : Nat) : Int) := by
  have e1 : IntKind.u64.wrap (bits .and .u8 (c : Int) 127) = ((c % 128 : Nat) : Int) := by rw [and127 c hc, IntKind.wrap_u64]; omega
  have e2 : ((c % 128 : Nat) : Int) * 2 ^ (7 * i) = ((c % 128 * 2 ^ (7 * i) : Nat) : Int) := by simp
  have hlt : c % 128 * 2 ^ (7 * i) < 18446744073709551616 := by omega
  have e3 : IntKind.u64.wrap ((c % 128 * 2 ^ (7 * i) : Nat) : Int) = ((c % 128 * 2 ^ (7 * i) : Nat) : Int) := by
    rw [IntKind.wrap_u64]
    generalize c % 128 * 2 ^ (7 * i) = d at *
    omega
  rw [e1, e2, e3, bits_or_u64_nat _ _ (by omega) hlt, Nat.or_comm, Nat.mul_comm, ← Nat.two_pow_add_eq_or_of_lt hu, Nat.mul_comm, Nat.add_comm, Nat.mul_comm]
end Go.Proofs.YtifcplmgdndmhaaDoor
