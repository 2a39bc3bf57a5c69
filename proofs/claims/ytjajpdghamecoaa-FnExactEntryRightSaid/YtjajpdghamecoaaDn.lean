/- DnRight: what the texts of the program and of the specification return. -/
import Derived.Test.YtjajpdghamecoaaDnMath
import Derived.Below
namespace Go.Proofs.Ytjajpdghamecoaa
open Go.RowKit

def isValB (s : ByteArray) : Bool := decide (1 ≤ s.size) && decide (s.size ≤ 40) && plainB s.data.toList
set_option maxHeartbeats 400000 in
theorem isValue_any (s : ByteArray) (w : World) (hs : s.size ≤ maxLen) :
    Calls Try.prog 123 #[.string s] w fun e w' => e = .returned (.bool (isValB s)) ∧ w = w' := by
  have hM := hs
  unfold maxLen at hs
  by_cases h1 : 1 ≤ s.size
  all_goals by_cases h2 : s.size ≤ 40
  all_goals try omega
  all_goals
    have HV : Hid (isValB s = (decide (1 ≤ s.size) && decide (s.size ≤ 40) && plainB s.data.toList)) := Lib.hid rfl
    go_enter Try.func123, Try.ntmps123
    go_wp2_with (first | (go_at_call 126; refine (isPrintable_any _ _ hM).mono ?_; rintro e w' ⟨rfl, rfl⟩))
    go_ret
    exact ⟨ret_bool (by rw [HV.out]; simp [h1, h2]), rfl⟩
theorem val_of {s : ByteArray} : (isValB s && !(normS s).toList.isEmpty) = valB s := by
  unfold isValB valB
  cases h : plainB s.data.toList
  · simp [plain_of_norm h]
  · simp
set_option maxHeartbeats 400000 in
theorem isProperValue_any (s : ByteArray) (w : World) (hs : s.size ≤ maxLen) :
    Calls Try.prog 92 #[.string s] w fun e w' => e = .returned (.bool (valB s)) ∧ Below w.heap.size w w' := by
  have HV := Lib.hid (@val_of s)
  cases h1 : isValB s
  · rw [h1] at HV
    go_enter Try.func92, Try.ntmps92
    go_wp2_with (first | (go_at_call 123; refine (isValue_any _ _ hs).mono ?_; rintro e w' ⟨rfl, rfl⟩))
    go_ret
    exact ⟨ret_bool (by rw [← HV.out]; rfl), Below.refl _ _⟩
  · rw [h1] at HV
    go_enter Try.func92, Try.ntmps92
    go_wp2_with (first | (go_at_call 123; refine (isValue_any _ _ hs).mono ?_; rintro e w' ⟨rfl, rfl⟩) | (go_at_call 99; refine (Norm_any _ _ hs).mono ?_; rintro e w1 ⟨rfl, hb1⟩))
    go_ret
    exact ⟨ret_bool (by rw [← HV.out]; simp), hb1⟩
set_option maxHeartbeats 400000 in
theorem l02Value_any (s : ByteArray) (w : World) (hs : s.size ≤ maxLen) :
    Calls Try.prog 51 #[.string s] w fun e w' => e = .returned (.bool (valB s)) ∧ Below w.heap.size w w' := by
  have hM := hs
  unfold maxLen at hs
  have HV : Hid (valB s = (decide (1 ≤ s.size) && decide (s.size ≤ 40) && !(normS s).toList.isEmpty)) := Lib.hid rfl
  by_cases h1 : 1 ≤ s.size
  all_goals by_cases h2 : s.size ≤ 40
  all_goals try omega
  · go_enter Try.func51, Try.ntmps51
    go_wp2_with (first | (go_at_call 93; refine (SpecNorm_any _ _ hM).mono ?_; rintro e w1 ⟨rfl, hb1⟩))
    go_ret
    exact ⟨ret_bool (by rw [HV.out]; simp [h1, h2]), hb1⟩
  all_goals
    go_enter Try.func51, Try.ntmps51
    go_wp2
    go_ret
    exact ⟨ret_bool (by rw [HV.out]; simp [h1, h2]), Below.refl _ _⟩
end Go.Proofs.Ytjajpdghamecoaa
