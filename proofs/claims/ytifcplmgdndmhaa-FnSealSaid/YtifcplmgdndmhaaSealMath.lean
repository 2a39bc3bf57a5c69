/- A seal is got back, and is refused when one byte is changed; a CRC goes on over two texts: plain mathematics. -/
import Derived.Test.YtifcplmgdndmhaaUnseal2
namespace Go.Proofs.Ytifcplmgdndmhaa
open Go.RowKit

theorem sp_inj (a b : Nat) (ha : a < 4294967296) (hb : b < 4294967296) (h : sp a = sp b) : a = b := by
  have top : ∀ r, r < 4294967296 → (sp r).testBit 31 = decide (r % 2 = 1) := by
    intro r hr
    unfold sp
    have h2 : (r / 2).testBit 31 = false := Nat.testBit_lt_two_pow (by omega)
    split
    · rename_i e; rw [Nat.testBit_xor, h2]; simp [e]; decide
    · rename_i e; rw [h2]; simp [e]
  have e := (top a ha).symm.trans ((congrArg (·.testBit 31) h).trans (top b hb))
  have hp : (a % 2 = 1) = (b % 2 = 1) := by simpa using e
  unfold sp at h
  by_cases p : a % 2 = 1
  · have p' : b % 2 = 1 := hp ▸ p
    rw [if_pos p, if_pos p'] at h
    have h' : a / 2 = b / 2 := by
      have := congrArg (· ^^^ crcP) h
      simpa [Nat.xor_assoc] using this
    omega
  · have p' : ¬ b % 2 = 1 := hp ▸ p
    rw [if_neg p, if_neg p'] at h
    omega
theorem it_inj (n a b : Nat) (ha : a < 4294967296) (hb : b < 4294967296) (h : it n a = it n b) : a = b := by
  induction n with
  | zero => exact h
  | succ n ih => exact ih (sp_inj _ _ (it_lt n a ha) (it_lt n b hb) h)
theorem xor_inj_l (a b c : Nat) (h : a ^^^ c = b ^^^ c) : a = b := by
  have := congrArg (· ^^^ c) h
  simpa [Nat.xor_assoc] using this
theorem byteStep_inj_reg (a b c : Nat) (ha : a < 4294967296) (hb : b < 4294967296) (hc : c < 256) (h : byteStep a c = byteStep b c) : a = b :=
  xor_inj_l a b c (it_inj 8 _ _ (xor_byte_lt a c ha hc) (xor_byte_lt b c hb hc) h)
theorem byteStep_inj_byte (r a b : Nat) (hr : r < 4294967296) (ha : a < 256) (hb : b < 256) (h : byteStep r a = byteStep r b) : a = b := by
  have := it_inj 8 _ _ (xor_byte_lt r a hr ha) (xor_byte_lt r b hr hb) h
  rw [Nat.xor_comm r a, Nat.xor_comm r b] at this
  exact xor_inj_l a b r this
theorem crcReg_inj (l : List UInt8) (a b : Nat) (ha : a < 4294967296) (hb : b < 4294967296) (h : crcReg a l = crcReg b l) : a = b := by
  induction l generalizing a b with
  | nil => exact h
  | cons c l ih => exact byteStep_inj_reg a b c.toNat ha hb c.toNat_lt (ih _ _ (byteStep_lt _ _ ha c.toNat_lt) (byteStep_lt _ _ hb c.toNat_lt) h)
/-- one byte changed changes the register -/
theorem crcReg_set (l : List UInt8) (i : Nat) (x : UInt8) (r : Nat) (hr : r < 4294967296) (hi : i < l.length) (hx : x ≠ l[i]) : crcReg r (l.set i x) ≠ crcReg r l := by
  induction l generalizing i r with
  | nil => simp at hi
  | cons c l ih =>
    cases i with
    | zero =>
      intro h
      have h' : crcReg (byteStep r x.toNat) l = crcReg (byteStep r c.toNat) l := h
      have := crcReg_inj l _ _ (byteStep_lt _ _ hr x.toNat_lt) (byteStep_lt _ _ hr c.toNat_lt) h'
      exact hx (UInt8.toNat_inj.1 (byteStep_inj_byte r _ _ hr x.toNat_lt c.toNat_lt this))
    | succ i => exact ih i _ (byteStep_lt _ _ hr c.toNat_lt) (by simpa using hi) hx
theorem crcOf_set (l : List UInt8) (i : Nat) (x : UInt8) (hi : i < l.length) (hx : x ≠ l[i]) : crcOf 0 (l.set i x) ≠ crcOf 0 l := by
  intro h
  have h1 := crcReg_lt (l.set i x) (4294967295 - 0) (by omega)
  have h2 := crcReg_lt l (4294967295 - 0) (by omega)
  exact crcReg_set l i x (4294967295 - 0) (by omega) hi hx (by unfold crcOf at h; omega)
theorem fourL_inj (a b : Nat) (ha : a ≤ 4294967295) (hb : b ≤ 4294967295) (h : fourL a = fourL b) : a = b := by
  simp only [fourL, List.cons.injEq, and_true] at h
  obtain ⟨h0, h1, h2, h3⟩ := h
  have g : ∀ x y : Nat, UInt8.ofNat x = UInt8.ofNat y → x % 256 = y % 256 := fun x y e => by have := congrArg UInt8.toNat e; simpa using this
  have := g _ _ h0; have := g _ _ h1; have := g _ _ h2; have := g _ _ h3
  omega
/-- a CRC goes on over two texts -/
theorem crcOf_append (l m : List UInt8) : crcOf (crcOf 0 l) m = crcOf 0 (l ++ m) := by
  have h := crcReg_lt l (4294967295 - 0) (by omega)
  unfold crcOf
  rw [crcReg_append]
  congr 2
  omega
theorem crc_more (t u : ByteArray) (h : t.size + u.size ≤ 8000) : crcMoreV (crcV t) u = crcV (t ++ u) := by
  rw [crcV_in t (by omega), crcV_in (t ++ u) (by simpa using h), crcMoreV_in _ u (by omega) (crcOf_le _ _), crcOf_append]
  simp

theorem take_of (l m : List UInt8) (n : Nat) (h : l.length = n) : (l ++ m).take n = l := by subst h; exact List.take_left
theorem drop_of (l m : List UInt8) (n : Nat) (h : l.length = n) : (l ++ m).drop n = m := by subst h; exact List.drop_left
theorem four_len (n : Nat) : (fourL n).length = 4 := rfl
theorem sum_data (s : ByteArray) : (sumS s).data.toList = fourL (crcOf 0 s.data.toList) := rfl
theorem tail_eq (X : ByteArray) (n : Nat) (hX : X.size = n + 4) :
    ((X.extract (X.size - 4) X.size).toList == (sumS (X.extract 0 (X.size - 4))).toList) = decide (X.data.toList.drop n = fourL (crcOf 0 (X.data.toList.take n))) := by
  have hl : X.data.toList.length = n + 4 := by rw [size_len]; exact hX
  have e : X.size - 4 = n := by omega
  rw [e, Lib.extract_toList, Lib.toList_data, sum_data, Lib.extract_data, hX]
  have h1 : (X.data.toList.drop n).take (n + 4 - n) = X.data.toList.drop n := List.take_of_length_le (by rw [List.length_drop, hl]; omega)
  rw [h1]
  simp only [List.drop_zero, Nat.sub_zero]
  exact Bool.beq_eq_decide_eq _ _
theorem unsealC_of (X : ByteArray) (n : Nat) (hX : X.size = n + 4) (hn : n + 4 ≤ 8000) :
    unsealC X = if X.data.toList.drop n = fourL (crcOf 0 (X.data.toList.take n)) then 0 else 5 := by
  unfold unsealC
  rw [if_neg (by omega), if_neg (by omega), tail_eq X n hX]
  by_cases h : X.data.toList.drop n = fourL (crcOf 0 (X.data.toList.take n)) <;> simp [h]
theorem sealed_data (t : ByteArray) (h : t.size ≤ 7996) : (sealV t).data.toList = t.data.toList ++ fourL (crcOf 0 t.data.toList) := by
  rw [sealV_in t h]; simp [sum_data]
theorem sealed_size (t : ByteArray) (h : t.size ≤ 7996) : (sealV t).size = t.size + 4 := by
  rw [← size_len, sealed_data t h, List.length_append, four_len, size_len]
theorem seal_ok (t : ByteArray) (h : t.size ≤ 7996) : unsealT (sealV t) = t ∧ unsealC (sealV t) = 0 := by
  have hs := sealed_size t h
  have hd := sealed_data t h
  have hlen : t.data.toList.length = t.size := size_len t
  have h1 : (sealV t).data.toList.take t.size = t.data.toList := by rw [hd, ← hlen]; exact List.take_left
  have h2 : (sealV t).data.toList.drop t.size = fourL (crcOf 0 t.data.toList) := by rw [hd, ← hlen]; exact List.drop_left
  have hc : unsealC (sealV t) = 0 := by rw [unsealC_of _ t.size hs (by omega), h1, h2, if_pos rfl]
  refine ⟨?_, hc⟩
  unfold unsealT
  rw [if_pos ⟨by omega, by omega, by rw [tail_eq _ t.size hs, h1, h2]; simp⟩]
  have e : (sealV t).size - 4 = t.size := by omega
  rw [e, Lib.extract_eq]
  simp only [List.drop_zero, Nat.sub_zero]
  rw [h1]
theorem seal_spoilt (t X : ByteArray) (i : Nat) (x : UInt8) (h : t.size ≤ 7996) (hi : i < (sealV t).data.toList.length) (hx : x ≠ (sealV t).data.toList[i]) (hX : X.data.toList = (sealV t).data.toList.set i x) : unsealC X = 5 := by
  have hs := sealed_size t h
  have hd := sealed_data t h
  have hlen : t.data.toList.length = t.size := size_len t
  have hXs : X.size = t.size + 4 := by rw [← size_len, hX, List.length_set, size_len, hs]
  rw [unsealC_of X t.size hXs (by omega), if_neg]
  intro he
  rw [hX] at he
  by_cases hit : i < t.size
  · have e1 : ((sealV t).data.toList.set i x).take t.size = t.data.toList.set i x := by
      rw [hd, List.set_append_left _ _ (by omega)]
      exact take_of _ _ _ (by rw [List.length_set]; exact hlen)
    have e2 : ((sealV t).data.toList.set i x).drop t.size = fourL (crcOf 0 t.data.toList) := by
      rw [hd, List.set_append_left _ _ (by omega)]
      exact drop_of _ _ _ (by rw [List.length_set]; exact hlen)
    rw [e1, e2] at he
    have hx' : x ≠ t.data.toList[i]'(by omega) := by
      have : (sealV t).data.toList[i] = t.data.toList[i]'(by omega) := by simp only [hd]; exact List.getElem_append_left (by omega)
      rw [← this]; exact hx
    exact crcOf_set t.data.toList i x (by omega) hx' (fourL_inj _ _ (crcOf_le _ _) (crcOf_le _ _) he.symm)
  · have e1 : ((sealV t).data.toList.set i x).take t.size = t.data.toList := by
      rw [hd, List.set_append_right _ _ (by omega)]
      exact take_of _ _ _ hlen
    have e2 : ((sealV t).data.toList.set i x).drop t.size = (fourL (crcOf 0 t.data.toList)).set (i - t.size) x := by
      rw [hd, List.set_append_right _ _ (by omega), hlen]
      exact drop_of _ _ _ hlen
    rw [e1, e2] at he
    have hj : i - t.size < (fourL (crcOf 0 t.data.toList)).length := by
      rw [hd, List.length_append, hlen] at hi; omega
    have hx' : x ≠ (fourL (crcOf 0 t.data.toList))[i - t.size] := by
      have : (sealV t).data.toList[i] = (fourL (crcOf 0 t.data.toList))[i - t.size] := by
        simp only [hd]
        rw [List.getElem_append_right (by omega)]
        simp only [hlen]
      rw [← this]; exact hx
    have hg := congrArg (fun l : List UInt8 => l[i - t.size]?) he
    simp only [List.getElem?_set_self hj, List.getElem?_eq_getElem hj] at hg
    exact hx' (Option.some.inj hg)
end Go.Proofs.Ytifcplmgdndmhaa
