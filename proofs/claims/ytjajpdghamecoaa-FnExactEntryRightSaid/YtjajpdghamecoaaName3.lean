/- What the specification's text of NameRight returns. -/
import Derived.Test.YtjajpdghamecoaaName2
namespace Go.Proofs.Ytjajpdghamecoaa
open Go.RowKit

/-- the first k bytes are as they must be -/
def goodTo (s : ByteArray) (k : Nat) : Bool := allB (s.data.toList.take k) && (decide (k = 0) || letB ((s.data.toList.getD 0 0).toNat : Int))

theorem nameB_of_let {c : Int} (h : letB c = true) : nameB c = true := by simp [nameB, h]

set_option maxHeartbeats 1000000 in
theorem SpecNameRight_any (s : ByteArray) (w : World) (hs : s.size ≤ maxLen) :
    Calls Try.prog 50 #[.string s] w fun e w' => e = .returned (.bool (nmL s)) ∧ w = w' := by
  unfold maxLen at hs
  by_cases h1 : s.size < 1
  · have hf : nmL s = false := by have : ¬ 1 ≤ s.size := by omega
                                  simp [nmL, this]
    have Hf := Lib.hid hf; clear hf
    go_enter Try.func50, Try.ntmps50
    go_wp2
    go_ret
    exact ⟨ret_bool Hf.out.symm, rfl⟩
  by_cases h2 : 20 < s.size
  · have hf : nmL s = false := by have : ¬ s.size ≤ 20 := by omega
                                  simp [nmL, this]
    have Hf := Lib.hid hf; clear hf
    go_enter Try.func50, Try.ntmps50
    go_wp2
    go_ret
    exact ⟨ret_bool Hf.out.symm, rfl⟩
  have h0 : 0 < s.size := by omega
  have Hg := Lib.hid (getD_zero s h0)
  go_enter Try.func50, Try.ntmps50
  go_wp2
  go_loop [3] (fun i => ∃ k : Nat, k ≤ s.size ∧ i = .int .i64 k ∧ allB (s.data.toList.take k) = true ∧ (0 < k → letB ((s.data.toList.getD 0 0).toNat : Int) = true)) (fun i => s.size - (intOf i).toNat)
  case atStart => exact ⟨0, Nat.zero_le _, rfl, rfl, fun h => absurd h (by omega)⟩
  case round =>
    obtain ⟨k, hk, rfl, ha, hl⟩ := hrel
    have Ha := Lib.hid ha; clear ha
    have Hl := Lib.hid hl; clear hl
    by_cases hlt : k < s.size
    · have hts := Lib.hid (take_snoc s k hlt)
      by_cases hL : 97 ≤ (s[k].toNat : Int) ∧ (s[k].toNat : Int) ≤ 122
      · obtain ⟨c1, c2⟩ := hL
        have hb : letB (s[k].toNat : Int) = true := by simp [letB]; omega
        have hT : allB (s.data.toList.take (k + 1)) = true := by rw [hts.out, allB_snoc, Ha.out, nameB_of_let hb]; rfl
        have HT := Lib.hid hT; clear hT
        have hZ : letB ((s.data.toList.getD 0 0).toNat : Int) = true := by
          by_cases e : k = 0
          · subst e; rw [Hg.out]; exact hb
          · exact Hl.out (by omega)
        have HZ := Lib.hid hZ; clear hZ hb
        go_wp2
        go_round
        case rel => exact ⟨k + 1, by omega, by go_num, HT.out, fun _ => HZ.out⟩
        case measure => simp [intOf]; omega
      · have hb : letB (s[k].toNat : Int) = false := by simp [letB]; omega
        by_cases e : k = 0
        · subst e
          have hF : nmL s = false := by simp only [nmL, Hg.out, hb]; simp
          have HF := Lib.hid hF; clear hF hb
          by_cases c1 : 97 ≤ (s[0].toNat : Int)
          · have c2 : ¬ (s[0].toNat : Int) ≤ 122 := by omega
            clear hL
            go_wp2
            go_ret
            exact ⟨ret_bool HF.out.symm, rfl⟩
          · clear hL
            go_wp2
            go_ret
            exact ⟨ret_bool HF.out.symm, rfl⟩
        · have hz : ((k : Int) == 0) = false := by rw [beq_eq_false_iff_ne]; omega
          by_cases hD : 48 ≤ (s[k].toNat : Int) ∧ (s[k].toNat : Int) ≤ 57
          · obtain ⟨c1, c2⟩ := hD
            have c3 : ¬ 97 ≤ (s[k].toNat : Int) := by omega
            have hb : nameB (s[k].toNat : Int) = true := by simp [nameB, digB]; omega
            have hT : allB (s.data.toList.take (k + 1)) = true := by rw [hts.out, allB_snoc, Ha.out, hb]; rfl
            have HT := Lib.hid hT; clear hT hL hb
            go_wp2
            go_round
            case rel => exact ⟨k + 1, by omega, by go_num, HT.out, fun _ => Hl.out (by omega)⟩
            case measure => simp [intOf]; omega
          · by_cases hU : (s[k].toNat : Int) = 95
            · have c3 : ¬ 97 ≤ (s[k].toNat : Int) := by omega
              have c1 : 48 ≤ (s[k].toNat : Int) := by omega
              have c2 : ¬ (s[k].toNat : Int) ≤ 57 := by omega
              have hb : nameB (s[k].toNat : Int) = true := by simp [nameB]; omega
              have hT : allB (s.data.toList.take (k + 1)) = true := by rw [hts.out, allB_snoc, Ha.out, hb]; rfl
              have hu : ((s[k].toNat : Int) != 95) = false := by rw [hU]; rfl
              have HT := Lib.hid hT; clear hT hL hb hD hU
              go_wp2
              go_round
              case rel => exact ⟨k + 1, by omega, by go_num, HT.out, fun _ => Hl.out (by omega)⟩
              case measure => simp [intOf]; omega
            · have hb : nameB (s[k].toNat : Int) = false := by simp [nameB, letB, digB]; omega
              have hF : nmL s = false := by simp only [nmL, allB_false s k hlt hb]; simp
              have hu : ((s[k].toNat : Int) != 95) = true := by rw [bne_iff_ne]; exact hU
              have HF := Lib.hid hF; clear hF hb
              by_cases c1 : 97 ≤ (s[k].toNat : Int)
              · have c2 : ¬ (s[k].toNat : Int) ≤ 122 := by omega
                have c3 : 48 ≤ (s[k].toNat : Int) := by omega
                have c4 : ¬ (s[k].toNat : Int) ≤ 57 := by omega
                clear hL hD hU
                go_wp2
                go_ret
                exact ⟨ret_bool HF.out.symm, rfl⟩
              · by_cases c3 : 48 ≤ (s[k].toNat : Int)
                · have c4 : ¬ (s[k].toNat : Int) ≤ 57 := by omega
                  clear hL hD hU
                  go_wp2
                  go_ret
                  exact ⟨ret_bool HF.out.symm, rfl⟩
                · clear hL hD hU
                  go_wp2
                  go_ret
                  exact ⟨ret_bool HF.out.symm, rfl⟩
    · go_wp2
      go_ret
      refine ⟨ret_bool ?_, rfl⟩
      have e : s.data.toList.take k = s.data.toList := List.take_of_length_le (by simp; omega)
      have a1 := Ha.out
      rw [e] at a1
      have a2 := Hl.out (by omega)
      simp only [nmL, a1, a2]; simp; omega
end Go.Proofs.Ytjajpdghamecoaa
