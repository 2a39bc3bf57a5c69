/- The CRC: what the texts of the program and of the specification return. -/
import Derived.Test.YtifcplmgdndmhaaName2
import Derived.Test.YtifcplmgdndmhaaCrcMath
namespace Go.Proofs.Ytifcplmgdndmhaa
open Go.RowKit

theorem ret_int {k : IntKind} {a b : Int} (h : a = b) : Ending.returned (.int k a) = .returned (.int k b) := by rw [h]

theorem w64 (n : Int) (h : 0 ≤ n) (h2 : n ≤ 4294967295) : wrap64 n = n := by unfold wrap64; omega

set_option maxHeartbeats 400000 in
theorem crcStep_any (r : Nat) (hr : r < 4294967296) (c : Nat) (hc : c < 256) (w : World) :
    Calls Try.prog 38 #[.int .u32 r, .int .u8 c] w fun e w' => e = .returned (.int .u32 (byteStep r c)) ∧ w = w' := by
  go_enter Try.func38, Try.ntmps38
  go_wp2
  go_loop [0, 8] (fun t i => ∃ k : Nat, k ≤ 8 ∧ i = .int .i64 k ∧ ∃ q : Nat, q < 4294967296 ∧ q ^^^ (c / 2 ^ k) = it k (r ^^^ c) ∧ t = .int .u32 q) (fun _ i => 8 - (intOf i).toNat)
  case atStart => exact ⟨0, Nat.zero_le _, rfl, _, hr, by simp [it], rfl⟩
  case round =>
    obtain ⟨k, hk, rfl, q, hq, hI, rfl⟩ := hrel
    have HI := Lib.hid hI; clear hI
    by_cases hlt : k < 8
    · have hm := mixed_eq c q k hc hq
      by_cases h1 : (c / 2 ^ k + q) % 2 = 1
      · have ht : (bits .xor .u32 (bits .and .u32 ((c : Int) / 2 ^ k % 4294967296) 1) (bits .and .u32 (q : Int) 1) == 1) = true := by rw [hm, h1]; rfl
        have hx : bits .xor .u32 ((q : Int) / 2) 3988292384 = (((q / 2) ^^^ crcP : Nat) : Int) := by
          have := bits_xor_u32_nat (q / 2) crcP (by omega) crcP_lt
          simpa [crcP] using this
        have HR := Lib.hid (round_yes r c q k HI.out h1)
        have hlt2 : q / 2 ^^^ crcP < 4294967296 := Nat.xor_lt_two_pow (n := 32) (by omega) crcP_lt
        have Hx := Lib.hid hx
        clear hm h1 hx
        go_wp2
        go_round
        case rel => exact ⟨k + 1, by omega, by go_num, _, hlt2, HR.out, by rw [Hx.out]⟩
        case measure => simp [intOf]; omega
      · have h0 : (c / 2 ^ k + q) % 2 = 0 := by omega
        have ht : (bits .xor .u32 (bits .and .u32 ((c : Int) / 2 ^ k % 4294967296) 1) (bits .and .u32 (q : Int) 1) == 1) = false := by rw [hm, h0]; rfl
        have HR := Lib.hid (round_no r c q k HI.out h0)
        clear hm h1 h0
        go_wp2
        go_round
        case rel => exact ⟨k + 1, by omega, by go_num, q / 2, by omega, HR.out, by go_num⟩
        case measure => simp [intOf]; omega
    · obtain rfl : k = 8 := by omega
      have HE := Lib.hid (round_end r c q hc HI.out)
      go_wp2
      go_ret
      exact ⟨ret_int (by rw [← HE.out]), rfl⟩


set_option maxHeartbeats 400000 in
theorem CrcMore_in (r : Nat) (s : ByteArray) (w : World) (hs : s.size ≤ 8000) (hr : r ≤ 4294967295) :
    Calls Try.prog 17 #[.int .i64 r, .string s] w fun e w' => e = .returned (.int .i64 (crcOf r s.data.toList)) ∧ w = w' := by
  have F := Lib.hid (flip_l r hr)
  go_enter Try.func17, Try.ntmps17
  go_wp2
  rw [F.out]
  go_loop [5, 23] (fun t i => ∃ k : Nat, k ≤ s.size ∧ i = .int .i64 k ∧ t = .int .u32 (crcReg (4294967295 - r) (s.data.toList.take k) : Nat)) (fun _ i => s.size - (intOf i).toNat)
  case atStart => exact ⟨0, Nat.zero_le _, rfl, rfl⟩
  case round =>
    obtain ⟨k, hk, rfl, rfl⟩ := hrel
    have hb := crcReg_lt (s.data.toList.take k) (4294967295 - r) (by omega)
    have HC := Lib.hid (fun c => crcReg_snoc (s.data.toList.take k) (4294967295 - r) c)
    by_cases hlt : k < s.size
    · have HT := Lib.hid (take_snoc s k hlt)
      generalize hq : crcReg (4294967295 - r) (s.data.toList.take k) = q at *
      have Hq := Lib.hid hq; clear hq
      have hc : s[k].toNat < 256 := s[k].toNat_lt
      go_wp2_with (first | (go_at_call 38; refine (crcStep_any _ hb _ hc _).mono ?_; rintro e w' ⟨rfl, rfl⟩))
      go_round
      case rel => exact ⟨k + 1, by omega, by go_num, by rw [HT.out, HC.out]⟩
      case measure => simp [intOf]; omega
    · have e : s.data.toList.take k = s.data.toList := List.take_of_length_le (by simp; omega)
      rw [e] at hb ⊢
      have H2 := Lib.hid (flip_l (crcReg (4294967295 - r) s.data.toList) (by omega))
      have H3 : Hid (crcOf r s.data.toList = 4294967295 - crcReg (4294967295 - r) s.data.toList) := Lib.hid rfl
      generalize crcReg (4294967295 - r) s.data.toList = q at *
      clear e
      go_wp2
      go_ret
      exact ⟨ret_int (by rw [H2.out, H3.out, w64 _ (by omega) (by omega)]), rfl⟩

theorem spec_yes (q : Nat) (h : q % 2 = 1) : sp q = (q / 2) ^^^ crcP := by unfold sp; rw [if_pos h]
theorem spec_no (q : Nat) (h : ¬ q % 2 = 1) : sp q = q / 2 := by unfold sp; rw [if_neg h]

set_option maxHeartbeats 1000000 in
theorem l01Crc_in (r : Nat) (s : ByteArray) (w : World) (hs : s.size ≤ 8000) (hr : r ≤ 4294967295) :
    Calls Try.prog 36 #[.int .i64 r, .string s] w fun e w' => e = .returned (.int .i64 (crcOf r s.data.toList)) ∧ w = w' := by
  have F := Lib.hid (flip_r r hr)
  go_enter Try.func36, Try.ntmps36
  go_wp2
  rw [F.out]
  go_loop [5, 6] (fun t i => ∃ k : Nat, k ≤ s.size ∧ i = .int .i64 k ∧ t = .int .u32 (crcReg (4294967295 - r) (s.data.toList.take k) : Nat)) (fun _ i => s.size - (intOf i).toNat)
  case atStart => exact ⟨0, Nat.zero_le _, rfl, rfl⟩
  case round =>
    obtain ⟨k, hk, rfl, rfl⟩ := hrel
    have hb := crcReg_lt (s.data.toList.take k) (4294967295 - r) (by omega)
    have HC := Lib.hid (fun c => crcReg_snoc (s.data.toList.take k) (4294967295 - r) c)
    by_cases hlt : k < s.size
    · have HT := Lib.hid (take_snoc s k hlt)
      generalize hq : crcReg (4294967295 - r) (s.data.toList.take k) = q at *
      clear hq
      have hc : s[k].toNat < 256 := s[k].toNat_lt
      have HX := Lib.hid (bits_xor_u32_nat q s[k].toNat hb (by omega))
      have hx := xor_byte_lt q s[k].toNat hb hc
      go_wp2
      rw [HX.out]
      go_loop [5, 7] (fun t i => ∃ j : Nat, j ≤ 8 ∧ i = .int .i64 j ∧ t = .int .u32 (it j (q ^^^ s[k].toNat) : Nat)) (fun _ i => 8 - (intOf i).toNat)
      case atStart => exact ⟨0, Nat.zero_le _, rfl, rfl⟩
      case round =>
        obtain ⟨j, hj, rfl, rfl⟩ := hrel
        have hi := it_lt j _ hx
        by_cases hj8 : j < 8
        · have HS : Hid (it (j + 1) (q ^^^ s[k].toNat) = sp (it j (q ^^^ s[k].toNat))) := Lib.hid rfl
          generalize it j (q ^^^ s[k].toNat) = z at *
          have hand := bits_and_one_u32 z hi
          by_cases h1 : z % 2 = 1
          · have ht : (bits .and .u32 (z : Int) 1 == 1) = true := by rw [hand, h1]; rfl
            have HY := Lib.hid (spec_yes z h1)
            have hx2 : bits .xor .u32 ((z : Int) / 2) 3988292384 = (((z / 2) ^^^ crcP : Nat) : Int) := by
              have := bits_xor_u32_nat (z / 2) crcP (by omega) crcP_lt
              simpa [crcP] using this
            have HX2 := Lib.hid hx2
            clear hx2 hand h1
            go_wp2
            go_round
            case rel => exact ⟨j + 1, by omega, by go_num, by rw [HS.out, HY.out, HX2.out]⟩
            case measure => simp [intOf]; omega
          · have h0 : z % 2 = 0 := by omega
            have ht : (bits .and .u32 (z : Int) 1 == 1) = false := by rw [hand, h0]; rfl
            have HY := Lib.hid (spec_no z h1)
            clear hand h1 h0
            go_wp2
            go_round
            case rel => exact ⟨j + 1, by omega, by go_num, by rw [HS.out, HY.out]; go_num⟩
            case measure => simp [intOf]; omega
        · obtain rfl : j = 8 := by omega
          have HB : Hid (byteStep q s[k].toNat = it 8 (q ^^^ s[k].toNat)) := Lib.hid rfl
          generalize it 8 (q ^^^ s[k].toNat) = z at *
          go_wp2
          go_round
          case rel => exact ⟨k + 1, by omega, by go_num, by rw [HT.out, HC.out, HB.out]⟩
          case measure => simp [intOf]; omega
    · have e : s.data.toList.take k = s.data.toList := List.take_of_length_le (by simp; omega)
      rw [e] at hb ⊢
      have H2 := Lib.hid (flip_r (crcReg (4294967295 - r) s.data.toList) (by omega))
      have H3 : Hid (crcOf r s.data.toList = 4294967295 - crcReg (4294967295 - r) s.data.toList) := Lib.hid rfl
      generalize crcReg (4294967295 - r) s.data.toList = q at *
      clear e
      go_wp2
      go_ret
      exact ⟨ret_int (by rw [H2.out, H3.out, w64 _ (by omega) (by omega)]), rfl⟩
end Go.Proofs.Ytifcplmgdndmhaa
