/- Crc and CrcMore of the program and of the specification: one value for both. -/
import Derived.Test.YtifcplmgdndmhaaCrc
namespace Go.Proofs.Ytifcplmgdndmhaa
open Go.RowKit

theorem crcMoreV_in (r : Nat) (s : ByteArray) (hs : s.size ≤ 8000) (hr : r ≤ 4294967295) : crcMoreV r s = (crcOf r s.data.toList : Nat) := by
  unfold crcMoreV; rw [if_pos ⟨hs, by omega, by omega⟩, Int.toNat_natCast]
theorem crcMoreV_out (x : Int) (s : ByteArray) (h : ¬ (s.size ≤ 8000 ∧ 0 ≤ x ∧ x ≤ 4294967295)) : crcMoreV x s = 0 := by
  unfold crcMoreV; rw [if_neg h]
theorem crcMoreV_zero (s : ByteArray) : crcMoreV 0 s = crcV s := by
  unfold crcMoreV crcV
  by_cases h : s.size ≤ 8000
  · rw [if_pos h, if_pos ⟨h, by decide, by decide⟩]; rfl
  · rw [if_neg h, if_neg (fun g => h g.1)]

set_option maxHeartbeats 400000 in
theorem CrcMore_any (x : Int) (s : ByteArray) (w : World) (hs : s.size ≤ maxLen) :
    Calls Try.prog 17 #[.int .i64 x, .string s] w fun e w' => e = .returned (.int .i64 (crcMoreV x s)) ∧ w = w' := by
  unfold maxLen at hs
  by_cases h1 : s.size ≤ 8000
  · by_cases h2 : 0 ≤ x
    · by_cases h3 : x ≤ 4294967295
      · obtain ⟨r, rfl⟩ := Int.eq_ofNat_of_zero_le h2
        rw [crcMoreV_in r s h1 (by omega)]
        exact CrcMore_in r s w h1 (by omega)
      · have H := Lib.hid (crcMoreV_out x s (fun g => h3 g.2.2))
        have h3' : 4294967295 < x := by omega
        clear h3
        go_enter Try.func17, Try.ntmps17
        go_wp2
        go_ret
        exact ⟨ret_int (by rw [H.out]), rfl⟩
    · have H := Lib.hid (crcMoreV_out x s (fun g => h2 g.2.1))
      have h2' : x < 0 := by omega
      clear h2
      go_enter Try.func17, Try.ntmps17
      go_wp2
      go_ret
      exact ⟨ret_int (by rw [H.out]), rfl⟩
  · have H := Lib.hid (crcMoreV_out x s (fun g => h1 g.1))
    have h1' : 8000 < s.size := by omega
    clear h1
    go_enter Try.func17, Try.ntmps17
    go_wp2
    go_ret
    exact ⟨ret_int (by rw [H.out]), rfl⟩

set_option maxHeartbeats 400000 in
theorem SpecCrcMore_any (x : Int) (s : ByteArray) (w : World) (hs : s.size ≤ maxLen) :
    Calls Try.prog 18 #[.int .i64 x, .string s] w fun e w' => e = .returned (.int .i64 (crcMoreV x s)) ∧ w = w' := by
  unfold maxLen at hs
  by_cases h1 : s.size ≤ 8000
  · by_cases h2 : 0 ≤ x
    · by_cases h3 : x ≤ 4294967295
      · obtain ⟨r, rfl⟩ := Int.eq_ofNat_of_zero_le h2
        have hr : r ≤ 4294967295 := by omega
        have H := Lib.hid (crcMoreV_in r s h1 hr)
        clear h2 h3
        go_enter Try.func18, Try.ntmps18
        go_wp2_with (first | (go_at_call 36; refine (l01Crc_in _ _ _ h1 hr).mono ?_; rintro e w' ⟨rfl, rfl⟩))
        go_ret
        exact ⟨ret_int (by rw [H.out]), rfl⟩
      · have H := Lib.hid (crcMoreV_out x s (fun g => h3 g.2.2))
        have h3' : 4294967295 < x := by omega
        clear h3
        go_enter Try.func18, Try.ntmps18
        go_wp2
        go_ret
        exact ⟨ret_int (by rw [H.out]), rfl⟩
    · have H := Lib.hid (crcMoreV_out x s (fun g => h2 g.2.1))
      have h2' : x < 0 := by omega
      clear h2
      go_enter Try.func18, Try.ntmps18
      go_wp2
      go_ret
      exact ⟨ret_int (by rw [H.out]), rfl⟩
  · have H := Lib.hid (crcMoreV_out x s (fun g => h1 g.1))
    have h1' : 8000 < s.size := by omega
    clear h1
    go_enter Try.func18, Try.ntmps18
    go_wp2
    go_ret
    exact ⟨ret_int (by rw [H.out]), rfl⟩

set_option maxHeartbeats 400000 in
theorem Crc_any (s : ByteArray) (w : World) (hs : s.size ≤ maxLen) :
    Calls Try.prog 19 #[.string s] w fun e w' => e = .returned (.int .i64 (crcV s)) ∧ w = w' := by
  have H := Lib.hid (crcMoreV_zero s)
  go_enter Try.func19, Try.ntmps19
  go_wp2_with (first | (go_at_call 17; refine (CrcMore_any _ _ _ hs).mono ?_; rintro e w' ⟨rfl, rfl⟩))
  go_ret
  exact ⟨ret_int (by rw [H.out]), rfl⟩

theorem crcV_in (s : ByteArray) (h : s.size ≤ 8000) : crcV s = (crcOf 0 s.data.toList : Nat) := by unfold crcV; rw [if_pos h]
theorem crcV_out (s : ByteArray) (h : ¬ s.size ≤ 8000) : crcV s = 0 := by unfold crcV; rw [if_neg h]

set_option maxHeartbeats 400000 in
theorem SpecCrc_any (s : ByteArray) (w : World) (hs : s.size ≤ maxLen) :
    Calls Try.prog 26 #[.string s] w fun e w' => e = .returned (.int .i64 (crcV s)) ∧ w = w' := by
  unfold maxLen at hs
  by_cases h1 : s.size ≤ 8000
  · have H := Lib.hid (crcV_in s h1)
    go_enter Try.func26, Try.ntmps26
    go_wp2_with (first | (go_at_call 36; refine (l01Crc_in 0 _ _ h1 (by omega)).mono ?_; rintro e w' ⟨rfl, rfl⟩))
    go_ret
    exact ⟨ret_int (by rw [H.out]), rfl⟩
  · have H := Lib.hid (crcV_out s h1)
    have h1' : 8000 < s.size := by omega
    clear h1
    go_enter Try.func26, Try.ntmps26
    go_wp2
    go_ret
    exact ⟨ret_int (by rw [H.out]), rfl⟩
end Go.Proofs.Ytifcplmgdndmhaa
