/- What is put is got back: plain mathematics. -/
import Derived.Test.YtifcplmgdndmhaaDoorGetText2
namespace Go.Proofs.YtifcplmgdndmhaaDoor
open Go.RowKit

theorem unzig_fold (n : Int) : unzig (foldN n) = n := by
  unfold unzig foldN
  by_cases h : n < 0
  · rw [if_pos h]; split <;> omega
  · rw [if_neg h]; split <;> omega

/-- the i-th byte of the encoding lies at place p + i -/
theorem scan_enc (s : ByteArray) (p : Nat) : ∀ (k i u a : Nat), k + i = 9 → u < 2 ^ (64 - 7 * i) → (0 < i → 0 < u) → a < 2 ^ (7 * i) →
    (∀ j (hj : j < (encF k u).length), ∃ h : p + i + j < s.size, s[p + i + j] = (encF k u)[j]) → scanG s p (k + 1) i a = (0, a + u * 2 ^ (7 * i), p + i + (encF k u).length) := by
  intro k
  induction k with
  | zero =>
    intro i u a hk hu hpos ha hb
    obtain rfl : i = 9 := by omega
    have hu1 : u ≤ 1 := by simp at hu; omega
    obtain ⟨h0, hb0⟩ := hb 0 (by simp [encF])
    simp only [Nat.add_zero] at h0 hb0
    have hc : s[p + 9].toNat = u := by rw [hb0]; simp [encF]; omega
    have hup := hpos (by omega)
    rw [scanG, dif_pos h0, if_neg (by omega), if_pos (by omega), if_neg (by omega), hc, Nat.mod_eq_of_lt (by omega)]
    simp [encF]
  | succ k ih =>
    intro i u a hk hu hpos ha hb
    by_cases h128 : 128 ≤ u
    · have he : encF (k + 1) u = UInt8.ofNat (u % 128 + 128) :: encF k (u / 128) := by simp [encF, h128]
      obtain ⟨h0, hb0⟩ := hb 0 (by rw [he]; simp)
      simp only [Nat.add_zero] at h0 hb0
      have hc : s[p + i].toNat = u % 128 + 128 := by rw [hb0]; simp only [he]; simp; omega
      rw [scanG, dif_pos h0, if_neg (by omega), if_neg (by omega)]
      have hcm : s[p + i].toNat % 128 = u % 128 := by rw [hc]; omega
      rw [hcm]
      have hu2 : u / 128 < 2 ^ (64 - 7 * (i + 1)) := by
        rw [Nat.div_lt_iff_lt_mul (by decide)]
        have : 2 ^ (64 - 7 * (i + 1)) * 128 = 2 ^ (64 - 7 * i) := by
          rw [show (128 : Nat) = 2 ^ 7 from rfl, ← Nat.pow_add]; congr 1; omega
        omega
      have := ih (i + 1) (u / 128) (a + u % 128 * 2 ^ (7 * i)) (by omega) hu2 (fun _ => by omega)
        (by have := next_nat a u i ha; exact this)
        (fun j hj => by
          obtain ⟨h1, h2⟩ := hb (j + 1) (by rw [he]; simp; omega)
          refine ⟨by omega, ?_⟩
          have e : p + (i + 1) + j = p + i + (j + 1) := by omega
          simp only [e, h2, he]
          simp)
      rw [this]
      have e2 : 2 ^ (7 * (i + 1)) = 128 * 2 ^ (7 * i) := by rw [show 7 * (i + 1) = 7 + 7 * i by omega, Nat.pow_add]
      have e3 : a + u % 128 * 2 ^ (7 * i) + u / 128 * 2 ^ (7 * (i + 1)) = a + u * 2 ^ (7 * i) := by
        rw [e2, ← Nat.mul_assoc, Nat.add_assoc, ← Nat.add_mul]
        congr 2
        omega
      rw [e3, he]
      simp
      omega
    · have he : encF (k + 1) u = [UInt8.ofNat u] := by simp [encF, h128]
      obtain ⟨h0, hb0⟩ := hb 0 (by rw [he]; simp)
      simp only [Nat.add_zero] at h0 hb0
      have hc : s[p + i].toNat = u := by rw [hb0]; simp only [he]; simp; omega
      have hz : ¬ (s[p + i].toNat = 0 ∧ 0 < i) := fun ⟨g1, g2⟩ => by have := hpos g2; omega
      rw [scanG, dif_pos h0, if_neg (by omega), if_pos (by omega), if_neg hz, hc, Nat.mod_eq_of_lt (by omega), he]
      simp
/-- an encoding whose last byte lacks -/
theorem scan_cut (s : ByteArray) (p : Nat) : ∀ (k i u a : Nat), k + i = 9 → s.size + 1 = p + i + (encF k u).length →
    (∀ j (hj : j < (encF k u).length), j + 1 < (encF k u).length → ∃ h : p + i + j < s.size, s[p + i + j] = (encF k u)[j]) → scanG s p (k + 1) i a = (4, 0, 0) := by
  intro k
  induction k with
  | zero =>
    intro i u a hk hs hb
    simp [encF] at hs
    rw [scanG, dif_neg (by omega)]
  | succ k ih =>
    intro i u a hk hs hb
    by_cases h128 : 128 ≤ u
    · have he : encF (k + 1) u = UInt8.ofNat (u % 128 + 128) :: encF k (u / 128) := by simp [encF, h128]
      have hlen : 1 ≤ (encF k (u / 128)).length := by
        cases k with
        | zero => simp [encF]
        | succ k => unfold encF; split <;> simp
      obtain ⟨h0, hb0⟩ := hb 0 (by rw [he]; simp) (by rw [he]; simp; omega)
      simp only [Nat.add_zero] at h0 hb0
      have hc : s[p + i].toNat = u % 128 + 128 := by rw [hb0]; simp only [he]; simp; omega
      rw [scanG, dif_pos h0, if_neg (by omega), if_neg (by omega)]
      refine ih (i + 1) (u / 128) _ (by omega) (by rw [he] at hs; simp at hs; omega) (fun j hj hj2 => ?_)
      obtain ⟨h1, h2⟩ := hb (j + 1) (by rw [he]; simp; omega) (by rw [he]; simp; omega)
      refine ⟨by omega, ?_⟩
      have e : p + (i + 1) + j = p + i + (j + 1) := by omega
      simp only [e, h2, he]
      simp
    · have he : encF (k + 1) u = [UInt8.ofNat u] := by simp [encF, h128]
      rw [he] at hs
      simp at hs
      rw [scanG, dif_neg (by omega)]

theorem get_of (s : ByteArray) (L : List UInt8) (h : s.data.toList = L) (k : Nat) (hk : k < L.length) : ∃ g : k < s.size, s[k] = L[k] := by
  subst h
  exact ⟨by rw [← size_len]; exact hk, rfl⟩
theorem enc_pos (u : Nat) : 1 ≤ (enc u).length := (enc_len u).1
theorem encS_data (n : Int) : (encS n).data.toList = enc (foldN n) := by simp [encS]
theorem encS_len (n : Int) : (encS n).size = (enc (foldN n)).length := by rw [← size_len, encS_data]
/-- an encoding inside a text -/
theorem scan_got (s : ByteArray) (A B : List UInt8) (n : Int) (h0 : -9223372036854775808 ≤ n) (h1 : n ≤ 9223372036854775807) (hs : s.data.toList = A ++ (enc (foldN n) ++ B)) :
    scanV s A.length = (0, foldN n, A.length + (enc (foldN n)).length) := by
  have hu := foldN_lt n h0 h1
  have := scan_enc s A.length 9 0 (foldN n) 0 rfl (by simpa using hu) (fun h => absurd h (by omega)) (by decide) (fun j hj => by
    have hk : A.length + 0 + j < (A ++ (enc (foldN n) ++ B)).length := by simp [enc]; omega
    obtain ⟨g, e⟩ := get_of s _ hs (A.length + 0 + j) hk
    refine ⟨g, e.trans ?_⟩
    rw [List.getElem_append_right (by omega), List.getElem_append_left (by simpa [enc] using hj)]
    simp [enc])
  simp only [Nat.zero_add, Nat.mul_zero, Nat.pow_zero, Nat.mul_one, Nat.add_zero] at this
  exact this
theorem num_got (s : ByteArray) (A B : List UInt8) (n : Int) (h0 : -9223372036854775808 ≤ n) (h1 : n ≤ 9223372036854775807) (hs : s.data.toList = A ++ (enc (foldN n) ++ B)) (hz : s.size ≤ 8000) (p : Int) (hp : p = (A.length : Nat)) :
    numN s p = n ∧ numA s p = p + ((enc (foldN n)).length : Nat) ∧ numC s p = 0 := by
  subst hp
  obtain ⟨a, b, c⟩ := num_ok s A.length (by omega) _ _ (scan_got s A B n h0 h1 hs)
  exact ⟨a.trans (unzig_fold n), b.trans (by omega), c⟩
theorem num_cut (s : ByteArray) (n : Int) (hs : s.data.toList = (enc (foldN n)).take ((enc (foldN n)).length - 1)) : numC s 0 = 4 := by
  have hl := enc_len (foldN n)
  have hsz : s.size + 1 = (enc (foldN n)).length := by rw [← size_len, hs, List.length_take]; omega
  have := scan_cut s 0 9 0 (foldN n) 0 rfl (by simpa [enc] using hsz) (fun j hj hj2 => by
    have hk : 0 + 0 + j < ((enc (foldN n)).take ((enc (foldN n)).length - 1)).length := by rw [List.length_take]; simp only [enc]; omega
    obtain ⟨g, e⟩ := get_of s _ hs (0 + 0 + j) hk
    refine ⟨g, e.trans ?_⟩
    rw [List.getElem_take]
    simp [enc])
  exact (num_bad s 0 (by omega) 4 this (by decide)).2.2

theorem putText_data (u : ByteArray) (h : u.size ≤ 8000) : (putTextV u).data.toList = enc (foldN (u.size : Int)) ++ u.data.toList := by
  rw [putTextV_in u h]; simp [encS_data]
theorem putText_size (u : ByteArray) (h : u.size ≤ 8000) : (putTextV u).size = (enc (foldN (u.size : Int))).length + u.size := by
  rw [← size_len, putText_data u h, List.length_append, size_len]
theorem txt_got (u s : ByteArray) (h : u.size ≤ 8000) (x : UInt8) (hs : s.data.toList = [x] ++ (putTextV u).data.toList) (hz : s.size ≤ 8000) :
    txtT s 1 = u ∧ txtA s 1 = ((putTextV u).size : Int) + 1 ∧ txtC s 1 = 0 := by
  have hd := hs
  rw [putText_data u h] at hd
  obtain ⟨a, b, c⟩ := num_got s [x] u.data.toList (u.size : Int) (by omega) (by omega) hd hz 1 rfl
  have hps := putText_size u h
  have hsz : s.size = (putTextV u).size + 1 := by rw [← size_len, hs, List.length_append, size_len]; simp; omega
  have hC : txtC s 1 = 0 := by
    unfold txtC
    rw [if_neg (fun g => g c), a, b, if_neg (by omega), if_neg (by omega)]
  refine ⟨?_, ?_, hC⟩
  · unfold txtT
    rw [if_pos hC, a, b, Lib.extract_eq, hd]
    have e1 : (1 + ((enc (foldN (u.size : Int))).length : Int)).toNat = 1 + (enc (foldN (u.size : Int))).length := by omega
    have e2 : (1 + ((enc (foldN (u.size : Int))).length : Int) + (u.size : Int)).toNat = 1 + (enc (foldN (u.size : Int))).length + u.size := by omega
    rw [e1, e2]
    have e3 : ([x] ++ (enc (foldN (u.size : Int)) ++ u.data.toList)).drop (1 + (enc (foldN (u.size : Int))).length) = u.data.toList := by
      rw [← List.append_assoc]
      exact List.drop_left' (by simp; omega)
    rw [e3, List.take_of_length_le (by rw [size_len]; omega)]
  · unfold txtA
    rw [if_pos hC, a, b]; omega
theorem txt_cut (u s : ByteArray) (h : u.size ≤ 8000) (hp : (putTextV u).size ≤ 8000) (hs : s.data.toList = (putTextV u).data.toList.take ((putTextV u).size - 1)) : txtC s 0 = 4 := by
  have hd := putText_data u h
  have hps := putText_size u h
  have hl := enc_len (foldN (u.size : Int))
  have hsz : s.size + 1 = (putTextV u).size := by rw [← size_len, hs, List.length_take, size_len]; omega
  by_cases h0 : u.size = 0
  · have hu0 : u.data.toList = [] := List.eq_nil_of_length_eq_zero (by rw [size_len]; exact h0)
    have hc : numC s 0 = 4 := num_cut s (u.size : Int) (by
      rw [hs, hd, hu0, List.append_nil, hps, h0]; simp)
    unfold txtC
    rw [if_pos (by omega)]; exact hc
  · have hd2 : s.data.toList = [] ++ (enc (foldN (u.size : Int)) ++ u.data.toList.take (u.size - 1)) := by
      rw [hs, hd, List.nil_append, List.take_append, hps]
      congr 1
      · exact List.take_of_length_le (by omega)
      · congr 1; omega
    obtain ⟨a, b, c⟩ := num_got s [] _ (u.size : Int) (by omega) (by omega) hd2 (by omega) 0 rfl
    unfold txtC
    rw [if_neg (fun g => g c), a, b, if_neg (by omega), if_pos (by omega)]
end Go.Proofs.YtifcplmgdndmhaaDoor
