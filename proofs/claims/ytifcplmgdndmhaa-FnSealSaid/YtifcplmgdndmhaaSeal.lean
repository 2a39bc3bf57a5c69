/- Seal and Unseal: what the texts of the program and of the specification return. -/
import Derived.Test.YtifcplmgdndmhaaText
import Derived.Test.YtifcplmgdndmhaaCrc2
namespace Go.Proofs.Ytifcplmgdndmhaa
open Go.RowKit

/-- the four bytes of a number, the least first -/
def fourL (n : Nat) : List UInt8 := [UInt8.ofNat n, UInt8.ofNat (n / 256), UInt8.ofNat (n / 65536), UInt8.ofNat (n / 16777216)]
def fourS (n : Nat) : ByteArray := ⟨(fourL n).toArray⟩
theorem four_conv (n : Nat) (h : n ≤ 4294967295) (w : World) :
    (convert 22 9 (.slice (some ⟨w.heap.size, 0, none⟩) 4 4)).run Try.prog (w.alloc (.cells #[.int .u8 ((n : Int) % 256), .int .u8 ((n : Int) / 256 % 256), .int .u8 ((n : Int) / 65536 % 256), .int .u8 ((n : Int) / 16777216)] 5)) =
      .ok (.string (fourS n)) (w.alloc (.cells #[.int .u8 ((n : Int) % 256), .int .u8 ((n : Int) / 256 % 256), .int .u8 ((n : Int) / 65536 % 256), .int .u8 ((n : Int) / 16777216)] 5)) := by
  refine str22 _ ⟨w.heap.size, 0, none⟩ 4 (fourL n) 4 rfl fun j hj => ?_
  rw [add_plain, World.cell?_alloc_mark]
  match j, hj with
  | 0, _ => simp [fourL]
  | 1, _ => simp [fourL]
  | 2, _ => simp [fourL]
  | 3, _ => simp [fourL]; omega

set_option maxHeartbeats 400000 in
theorem sumText_any (n : Nat) (w : World) (h : n ≤ 4294967295) :
    Calls Try.prog 34 #[.int .i64 n] w fun e w' => e = .returned (.string (fourS n)) ∧ Below w.heap.size w w' := by
  have hcv := four_conv n h w
  go_enter Try.func34, Try.ntmps34
  go_wp2
  go_ret
  exact ⟨rfl, (Below.refl _ _).alloc (Nat.le_refl _) _⟩
set_option maxHeartbeats 400000 in
theorem l01Four_any (n : Nat) (w : World) (h : n ≤ 4294967295) :
    Calls Try.prog 35 #[.int .i64 n] w fun e w' => e = .returned (.string (fourS n)) ∧ Below w.heap.size w w' := by
  have hcv := four_conv n h w
  go_enter Try.func35, Try.ntmps35
  go_wp2
  go_ret
  exact ⟨rfl, (Below.refl _ _).alloc (Nat.le_refl _) _⟩

def crc0 (s : ByteArray) : Nat := crcOf 0 s.data.toList
theorem crc0_le (s : ByteArray) : crc0 s ≤ 4294967295 := crcOf_le _ _
def sumS (s : ByteArray) : ByteArray := fourS (crc0 s)
theorem sumS_size (s : ByteArray) : (sumS s).size = 4 := rfl
def sealV (s : ByteArray) : ByteArray := if s.size ≤ 7996 then s ++ sumS s else ByteArray.empty
theorem sealV_in (s : ByteArray) (h : s.size ≤ 7996) : sealV s = s ++ sumS s := by unfold sealV; rw [if_pos h]
theorem sealV_out (s : ByteArray) (h : ¬ s.size ≤ 7996) : sealV s = ByteArray.empty := by unfold sealV; rw [if_neg h]

theorem Crc_in (s : ByteArray) (w : World) (hs : s.size ≤ 8000) :
    Calls Try.prog 19 #[.string s] w fun e w' => e = .returned (.int .i64 (crc0 s : Nat)) ∧ w = w' := by
  have h : ((crc0 s : Nat) : Int) = crcV s := (crcV_in s hs).symm
  rw [h]; exact Crc_any s w (by unfold maxLen; omega)
theorem l01Crc_zero (s : ByteArray) (w : World) (hs : s.size ≤ 8000) :
    Calls Try.prog 36 #[.int .i64 0, .string s] w fun e w' => e = .returned (.int .i64 (crc0 s : Nat)) ∧ w = w' := l01Crc_in 0 s w hs (by omega)
theorem sumText_of (s : ByteArray) (w : World) :
    Calls Try.prog 34 #[.int .i64 (crc0 s : Nat)] w fun e w' => e = .returned (.string (sumS s)) ∧ Below w.heap.size w w' := sumText_any _ w (crc0_le s)
theorem l01Four_of (s : ByteArray) (w : World) :
    Calls Try.prog 35 #[.int .i64 (crc0 s : Nat)] w fun e w' => e = .returned (.string (sumS s)) ∧ Below w.heap.size w w' := l01Four_any _ w (crc0_le s)

set_option maxHeartbeats 400000 in
theorem Seal_any (s : ByteArray) (w : World) (hs : s.size ≤ maxLen) :
    Calls Try.prog 12 #[.string s] w fun e w' => e = .returned (.string (sealV s)) ∧ Below w.heap.size w w' := by
  unfold maxLen at hs
  by_cases h1 : s.size ≤ 7996
  · have H := Lib.hid (sealV_in s h1)
    have Hz : Hid (s.size + (sumS s).size ≤ 1000000) := Lib.hid (by rw [sumS_size]; omega)
    go_enter Try.func12, Try.ntmps12
    go_wp2_with (first | (go_at_call 19; refine (Crc_in _ _ (by omega)).mono ?_; rintro e w' ⟨rfl, rfl⟩) | (go_at_call 34; refine (sumText_of _ _).mono ?_; rintro e w1 ⟨rfl, hb1⟩) | (go_at_call 33; refine (concat_two _ _ _ Hz.out).mono ?_; rintro e w2 ⟨rfl, hb2⟩))
    go_ret
    exact ⟨ret_str H.out.symm, hb1.trans (hb2.mono hb1.size)⟩
  · have H := Lib.hid (sealV_out s h1)
    have h1' : 7996 < s.size := by omega
    clear h1
    go_enter Try.func12, Try.ntmps12
    go_wp2
    go_ret
    exact ⟨ret_str H.out.symm, Below.refl _ _⟩

set_option maxHeartbeats 400000 in
theorem SpecSeal_any (s : ByteArray) (w : World) (hs : s.size ≤ maxLen) :
    Calls Try.prog 13 #[.string s] w fun e w' => e = .returned (.string (sealV s)) ∧ Below w.heap.size w w' := by
  unfold maxLen at hs
  by_cases h1 : s.size ≤ 7996
  · have H := Lib.hid (sealV_in s h1)
    have hz4 : (sumS s).size ≤ 4 := by rw [sumS_size]; omega
    go_enter Try.func13, Try.ntmps13
    go_wp2_with (first | (go_at_call 36; refine (l01Crc_zero _ _ (by omega)).mono ?_; rintro e w' ⟨rfl, rfl⟩) | (go_at_call 35; refine (l01Four_of _ _).mono ?_; rintro e w1 ⟨rfl, hb1⟩))
    go_ret
    exact ⟨ret_str H.out.symm, hb1⟩
  · have H := Lib.hid (sealV_out s h1)
    have h1' : 7996 < s.size := by omega
    clear h1
    go_enter Try.func13, Try.ntmps13
    go_wp2
    go_ret
    exact ⟨ret_str H.out.symm, Below.refl _ _⟩
end Go.Proofs.Ytifcplmgdndmhaa
