/- Norm: what the texts of the program and of the specification return. -/
import Derived.Test.YtjajpdghamecoaaNormMath
import Derived.Test.YtjajpdghamecoaaBytes
namespace Go.Proofs.Ytjajpdghamecoaa
open Go.RowKit

set_option maxHeartbeats 400000 in
theorem isPrintable_any (s : ByteArray) (w : World) (hs : s.size ≤ maxLen) :
    Calls Try.prog 126 #[.string s] w fun e w' => e = .returned (.bool (plainB s.data.toList)) ∧ w = w' := by
  unfold maxLen at hs
  go_enter Try.func126, Try.ntmps126
  go_wp2
  go_loop [6] (fun i => ∃ k : Nat, k ≤ s.size ∧ i = .int .i64 k ∧ plainB (s.data.toList.take k) = true) (fun i => s.size - (intOf i).toNat)
  case atStart => exact ⟨0, Nat.zero_le _, rfl, rfl⟩
  case round =>
    obtain ⟨k, hk, rfl, ha⟩ := hrel
    have Ha := Lib.hid ha; clear ha
    by_cases hlt : k < s.size
    · have hts := Lib.hid (take_snoc s k hlt)
      by_cases hp : 32 ≤ (s[k].toNat : Int) ∧ (s[k].toNat : Int) ≤ 126
      · obtain ⟨c1, c2⟩ := hp
        have HT : Hid (plainB (s.data.toList.take (k + 1)) = true) := Lib.hid (by rw [hts.out, plainB_snoc, Ha.out]; simp; omega)
        go_wp2
        go_round
        case rel => exact ⟨k + 1, by omega, by go_num, HT.out⟩
        case measure => simp [intOf]; omega
      · have HF := Lib.hid (plainB_false s k hlt hp)
        by_cases c1 : 32 ≤ (s[k].toNat : Int)
        · have c2 : ¬ (s[k].toNat : Int) ≤ 126 := by omega
          clear hp
          go_wp2
          go_ret
          exact ⟨ret_bool HF.out.symm, rfl⟩
        · clear hp
          go_wp2
          go_ret
          exact ⟨ret_bool HF.out.symm, rfl⟩
    · have e : s.data.toList.take k = s.data.toList := List.take_of_length_le (by simp; omega)
      have HT : Hid (plainB s.data.toList = true) := Lib.hid (by rw [← e]; exact Ha.out)
      clear e
      go_wp2
      go_ret
      exact ⟨ret_bool HT.out.symm, rfl⟩
set_option maxHeartbeats 400000 in
theorem l02Plain_any (s : ByteArray) (w : World) (hs : s.size ≤ maxLen) :
    Calls Try.prog 124 #[.string s] w fun e w' => e = .returned (.bool (plainB s.data.toList)) ∧ w = w' := by
  unfold maxLen at hs
  go_enter Try.func124, Try.ntmps124
  go_wp2
  go_loop [3] (fun i => ∃ k : Nat, k ≤ s.size ∧ i = .int .i64 k ∧ plainB (s.data.toList.take k) = true) (fun i => s.size - (intOf i).toNat)
  case atStart => exact ⟨0, Nat.zero_le _, rfl, rfl⟩
  case round =>
    obtain ⟨k, hk, rfl, ha⟩ := hrel
    have Ha := Lib.hid ha; clear ha
    by_cases hlt : k < s.size
    · have hts := Lib.hid (take_snoc s k hlt)
      by_cases hp : 32 ≤ (s[k].toNat : Int) ∧ (s[k].toNat : Int) ≤ 126
      · obtain ⟨c1, c2⟩ := hp
        have HT : Hid (plainB (s.data.toList.take (k + 1)) = true) := Lib.hid (by rw [hts.out, plainB_snoc, Ha.out]; simp; omega)
        go_wp2
        go_round
        case rel => exact ⟨k + 1, by omega, by go_num, HT.out⟩
        case measure => simp [intOf]; omega
      · have HF := Lib.hid (plainB_false s k hlt hp)
        by_cases c1 : 32 ≤ (s[k].toNat : Int)
        · have c2 : ¬ (s[k].toNat : Int) ≤ 126 := by omega
          clear hp
          go_wp2
          go_ret
          exact ⟨ret_bool HF.out.symm, rfl⟩
        · clear hp
          go_wp2
          go_ret
          exact ⟨ret_bool HF.out.symm, rfl⟩
    · have e : s.data.toList.take k = s.data.toList := List.take_of_length_le (by simp; omega)
      have HT : Hid (plainB s.data.toList = true) := Lib.hid (by rw [← e]; exact Ha.out)
      clear e
      go_wp2
      go_ret
      exact ⟨ret_bool HT.out.symm, rfl⟩

theorem ret_int' {k : IntKind} {a b : Int} (h : a = b) : Ending.returned (.int k a) = .returned (.int k b) := by rw [h]
set_option maxHeartbeats 400000 in
theorem lowerByte_any (c : UInt8) (w : World) :
    Calls Try.prog 127 #[.int .u8 (c.toNat : Int)] w fun e w' => e = .returned (.int .u8 ((low c).toNat : Int)) ∧ w = w' := by
  by_cases h : 65 ≤ c.toNat ∧ c.toNat ≤ 90
  · have H := Lib.hid (low_in c h)
    have h1 : 65 ≤ (c.toNat : Int) := by omega
    have h2 : (c.toNat : Int) ≤ 90 := by omega
    clear h
    go_enter Try.func127, Try.ntmps127
    go_wp2
    go_ret
    exact ⟨ret_int' (by rw [H.out]; omega), rfl⟩
  · have H := Lib.hid (low_out c h)
    by_cases h1 : 65 ≤ (c.toNat : Int)
    · have h2 : ¬ (c.toNat : Int) ≤ 90 := by omega
      clear h
      go_enter Try.func127, Try.ntmps127
      go_wp2
      go_ret
      exact ⟨ret_int' (by rw [H.out]), rfl⟩
    · clear h
      go_enter Try.func127, Try.ntmps127
      go_wp2
      go_ret
      exact ⟨ret_int' (by rw [H.out]), rfl⟩
end Go.Proofs.Ytjajpdghamecoaa
