/- What the two texts of NameRight return. -/
import Derived.Test.YtjajpdghamecoaaRows
import Derived.WalkKit
import Derived.WalkSpells
import Derived.WalkLawsBesides
import Derived.Lib.Hide
namespace Go.Proofs.Ytjajpdghamecoaa
open Go.RowKit

def letB (c : Int) : Bool := decide (97 ≤ c) && decide (c ≤ 122)
def digB (c : Int) : Bool := decide (48 ≤ c) && decide (c ≤ 57)
def nameB (c : Int) : Bool := letB c || digB c || (c == 95)

set_option maxHeartbeats 400000 in
theorem isLetter_any (c : Int) (w : World) :
    Calls Try.prog 121 #[.int .u8 c] w fun e w' => e = .returned (.bool (letB c)) ∧ w = w' := by
  by_cases h1 : 97 ≤ c
  all_goals by_cases h2 : c ≤ 122
  all_goals
    go_enter Try.func121, Try.ntmps121
    go_wp2
    go_ret
    exact ⟨by simp [letB, h1, h2], rfl⟩

set_option maxHeartbeats 400000 in
theorem isNameByte_any (c : Int) (w : World) :
    Calls Try.prog 122 #[.int .u8 c] w fun e w' => e = .returned (.bool (nameB c)) ∧ w = w' := by
  by_cases h1 : 97 ≤ c
  all_goals by_cases h2 : c ≤ 122
  all_goals by_cases h3 : 48 ≤ c
  all_goals by_cases h4 : c ≤ 57
  all_goals by_cases h5 : c = 95
  all_goals try omega
  all_goals
    first | (have hl : letB c = true := by simp [letB, h1, h2]) | (have hl : letB c = false := by simp [letB, h1, h2])
    first | (have h6 : (c == 95) = true := by simp [h5]) | (have h6 : (c == 95) = false := by simp [h5])
    go_enter Try.func122, Try.ntmps122
    go_wp2_with (first | (go_at_call 121; refine (isLetter_any _ _).mono ?_; rintro e w' ⟨rfl, rfl⟩))
    go_ret
    exact ⟨by simp [nameB, hl, digB, h3, h4, h6], rfl⟩
end Go.Proofs.Ytjajpdghamecoaa
