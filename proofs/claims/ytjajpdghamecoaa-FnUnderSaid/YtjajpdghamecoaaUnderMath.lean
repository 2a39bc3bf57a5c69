/- Names under their ends; two names under each other are the same. -/
import Derived.Test.YtjajpdghamecoaaUnder
import Derived.Test.YtjajpdghamecoaaKey3
namespace Go.Proofs.Ytjajpdghamecoaa

theorem under_drop {d : RdnL} (h : dnB d = true) {i : Nat} (hi : i ≤ d.length) : underB d (d.drop i) = true := by
  unfold underB
  have e : d.length - (d.drop i).length = i := by rw [List.length_drop]; omega
  rw [h, dnB_drop h, e]
  simp [sameB]
theorem dnB_rdns {d : RdnL} (h : dnB d = true) : d.all rdnB = true := by
  unfold dnB at h
  simp only [Bool.and_eq_true] at h
  exact h.2
theorem same_length {a b : RdnL} (h : sameB a b = true) : a.length = b.length := by
  unfold sameB at h
  have := congrArg List.length (of_decide_eq_true h)
  simpa using this
theorem sameB_comm (a b : RdnL) : sameB a b = sameB b a := by
  unfold sameB
  exact decide_eq_decide.2 ⟨Eq.symm, Eq.symm⟩
theorem under_two {a b : RdnL} (ha : dnB a = true) (hb : dnB b = true) : sameB a b = (underB a b && underB b a) := by
  unfold underB
  rw [ha, hb]
  by_cases h : a.length = b.length
  · have e1 : a.length - b.length = 0 := by omega
    have e2 : b.length - a.length = 0 := by omega
    rw [e1, e2, List.drop_zero, List.drop_zero, sameB_comm b a]
    have h1 : decide (b.length ≤ a.length) = true := decide_eq_true (by omega)
    have h2 : decide (a.length ≤ b.length) = true := decide_eq_true (by omega)
    rw [h1, h2]
    simp
  · have hs : sameB a b = false := by
      cases hs : sameB a b
      · rfl
      · exact absurd (same_length hs) h
    rw [hs]
    by_cases h1 : b.length ≤ a.length
    · have h2 : decide (a.length ≤ b.length) = false := decide_eq_false (by omega)
      rw [h2]; simp
    · have h2 : decide (b.length ≤ a.length) = false := decide_eq_false h1
      rw [h2]; simp
theorem key_two {a b : RdnL} (ha : dnB a = true) (hb : dnB b = true) : ((dnKeyS a).toList == (dnKeyS b).toList) = sameB a b := by
  have ea : dnKeyS a = keyS a := by unfold dnKeyS; simp [ha]
  have eb : dnKeyS b = keyS b := by unfold dnKeyS; simp [hb]
  rw [ea, eb]
  exact key_same (dnB_rdns ha) (dnB_rdns hb)
end Go.Proofs.Ytjajpdghamecoaa
