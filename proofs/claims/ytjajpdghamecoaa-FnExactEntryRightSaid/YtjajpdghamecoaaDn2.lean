/- DnRight: what the texts of the program and of the specification return. -/
import Derived.Test.YtjajpdghamecoaaDn
namespace Go.Proofs.Ytjajpdghamecoaa
open Go.RowKit

theorem bcell {W w1 : World} (hb : Below W.heap.size W w1) : (∀ b o, b < W.heap.size → w1.cell? ⟨b, o, none⟩ = W.cell? ⟨b, o, none⟩) ∧ (∀ b o, b < W.heap.size → w1.frozen? ⟨b, o, none⟩ = W.frozen? ⟨b, o, none⟩) :=
  ⟨fun b o h => hb.cell (p := ⟨b, o, none⟩) h, fun b o h => hb.frozen (p := ⟨b, o, none⟩) h⟩
set_option maxHeartbeats 400000 in
theorem rdnRight_any (a v : ByteArray) (w : World) (ha : a.size ≤ maxLen) (hv : v.size ≤ maxLen) :
    Calls Try.prog 49 #[.agg #[.string a, .string v]] w fun e w' => e = .returned (.bool (rdnB (a, v))) ∧ Below w.heap.size w w' := by
  have HV : Hid (rdnB (a, v) = (nmL a && valB v)) := Lib.hid rfl
  cases h1 : nmL a
  · rw [h1] at HV
    go_enter Try.func49, Try.ntmps49
    go_wp2_with (first | (go_at_call 91; refine (NameRight_any _ _ ha).mono ?_; rintro e w' ⟨rfl, rfl⟩))
    go_ret
    exact ⟨ret_bool (by rw [HV.out]; rfl), (Below.refl _ _).alloc (Nat.le_refl _) _⟩
  · rw [h1] at HV
    go_enter Try.func49, Try.ntmps49
    go_wp2_with (first | (go_at_call 91; refine (NameRight_any _ _ ha).mono ?_; rintro e w' ⟨rfl, rfl⟩) | (go_at_call 92; refine (isProperValue_any _ _ hv).mono ?_; rintro e w1 ⟨rfl, hb1⟩))
    go_ret
    exact ⟨ret_bool (by rw [HV.out]; rfl), ((Below.refl _ _).alloc (Nat.le_refl _) _).trans (hb1.mono (by simp))⟩

theorem dnB_long {d : RdnL} (h : ¬ d.length ≤ 6) : dnB d = false := by unfold dnB; simp [h]
theorem dnB_short {d : RdnL} (h : d.length ≤ 6) : dnB d = d.all rdnB := by unfold dnB; simp [h]
set_option maxHeartbeats 400000 in
theorem DnRight_any (ao : Option Addr) (d : RdnL) (cap : Nat) (w : World) (hd : DnAt w ao d) (hf : Fits d) :
    Calls Try.prog 13 #[.slice ao d.length cap] w fun e w' => e = .returned (.bool (dnB d)) ∧ Below w.heap.size w w' := by
  have hl := hf.1
  have HD := Lib.hid hd; have HF := Lib.hid hf; clear hd hf
  by_cases h6 : d.length ≤ 6
  · have HV := Lib.hid (dnB_short h6)
    go_enter Try.func13, Try.ntmps13
    go_wp2
    go_loopw [9] (fun i wr => ∃ k : Nat, k ≤ d.length ∧ i = .int .i64 k ∧ (d.take k).all rdnB = true ∧ Below w.heap.size w wr) (fun i _ => d.length - (intOf i).toNat)
    case atStart => exact ⟨0, Nat.zero_le _, rfl, rfl, Below.refl _ _⟩
    case round =>
      obtain ⟨k, hk, rfl, ha, hbel⟩ := hrel
      have Ha := Lib.hid ha; clear ha
      have hsz := hbel.size
      by_cases hlt : k < d.length
      · obtain ⟨b, off, rfl, hb, hc1, hc2⟩ := (HD.out.below hbel).at hlt
        have hz := HF.out.at hlt
        generalize hr : rdnB d[k] = r at *
        have HR := Lib.hid hr; clear hr
        cases r
        · have HX := Lib.hid (all_bad rdnB d k hlt HR.out)
          go_wp2_with (first | (go_at_call 49; refine (rdnRight_any _ _ _ hz.1 hz.2).mono ?_; rintro e w1 ⟨rfl, hb1⟩; rw [HR.out]))
          go_ret
          exact ⟨ret_bool (by rw [HV.out, HX.out]), hbel.trans (hb1.mono hsz)⟩
        · have HT : Hid ((d.take (k + 1)).all rdnB = true) := Lib.hid (by rw [all_take rdnB d k hlt, Ha.out, HR.out]; rfl)
          go_wp2_with (first | (go_at_call 49; refine (rdnRight_any _ _ _ hz.1 hz.2).mono ?_; rintro e w1 ⟨rfl, hb1⟩; rw [HR.out]))
          go_roundw
          case rel => exact ⟨k + 1, by omega, by go_num, HT.out, hbel.trans (hb1.mono hsz)⟩
          case measure => simp [intOf]; omega
      · have e : d.take k = d := List.take_of_length_le (by omega)
        have HT : Hid (d.all rdnB = true) := Lib.hid (by rw [← e]; exact Ha.out)
        clear e
        go_wp2
        go_ret
        exact ⟨ret_bool (by rw [HV.out, HT.out]), hbel⟩
  · have HV := Lib.hid (dnB_long h6)
    have h6' : 6 < d.length := by omega
    clear h6
    go_enter Try.func13, Try.ntmps13
    go_wp2
    go_ret
    exact ⟨ret_bool HV.out.symm, Below.refl _ _⟩
theorem dnB_bad {d : RdnL} {k : Nat} (h : k < d.length) (hb : rdnB d[k] = false) : dnB d = false := by unfold dnB; rw [all_bad rdnB d k h hb]; simp
theorem dnB_all {d : RdnL} (h : d.all rdnB = true) : dnB d = decide (d.length ≤ 6) := by unfold dnB; rw [h]; simp
set_option maxHeartbeats 400000 in
theorem SpecDnRight_any (ao : Option Addr) (d : RdnL) (cap : Nat) (w : World) (hd : DnAt w ao d) (hf : Fits d) :
    Calls Try.prog 14 #[.slice ao d.length cap] w fun e w' => e = .returned (.bool (dnB d)) ∧ Below w.heap.size w w' := by
  have hl := hf.1
  have HD := Lib.hid hd; have HF := Lib.hid hf; clear hd hf
  go_enter Try.func14, Try.ntmps14
  go_wp2
  go_loopw [3] (fun i wr => ∃ k : Nat, k ≤ d.length ∧ i = .int .i64 k ∧ (d.take k).all rdnB = true ∧ Below w.heap.size w wr) (fun i _ => d.length - (intOf i).toNat)
  case atStart => exact ⟨0, Nat.zero_le _, rfl, rfl, Below.refl _ _⟩
  case round =>
    obtain ⟨k, hk, rfl, ha, hbel⟩ := hrel
    have Ha := Lib.hid ha; clear ha
    have hsz := hbel.size
    by_cases hlt : k < d.length
    · obtain ⟨b, off, rfl, hb, hc1, hc2⟩ := (HD.out.below hbel).at hlt
      have hz := HF.out.at hlt
      have HR : Hid (rdnB d[k] = (nmL d[k].1 && valB d[k].2)) := Lib.hid rfl
      cases hn : nmL d[k].1
      · have HX := Lib.hid (dnB_bad hlt (by rw [HR.out, hn]; rfl))
        go_wp2_with (first | (go_at_call 50; refine (SpecNameRight_any _ _ hz.1).mono ?_; rintro e w' ⟨rfl, rfl⟩))
        go_ret
        exact ⟨ret_bool HX.out.symm, hbel⟩
      · cases hv : valB d[k].2
        · have HX := Lib.hid (dnB_bad hlt (by rw [HR.out, hn, hv]; rfl))
          go_wp2_with (first | (go_at_call 50; refine (SpecNameRight_any _ _ hz.1).mono ?_; rintro e w' ⟨rfl, rfl⟩) | (go_at_call 51; refine (l02Value_any _ _ hz.2).mono ?_; rintro e w1 ⟨rfl, hb1⟩))
          go_ret
          exact ⟨ret_bool HX.out.symm, hbel.trans (hb1.mono hsz)⟩
        · have HT : Hid ((d.take (k + 1)).all rdnB = true) := Lib.hid (by rw [all_take rdnB d k hlt, Ha.out, HR.out, hn, hv]; rfl)
          go_wp2_with (first | (go_at_call 50; refine (SpecNameRight_any _ _ hz.1).mono ?_; rintro e w' ⟨rfl, rfl⟩) | (go_at_call 51; refine (l02Value_any _ _ hz.2).mono ?_; rintro e w1 ⟨rfl, hb1⟩))
          go_roundw
          case rel => exact ⟨k + 1, by omega, by go_num, HT.out, hbel.trans (hb1.mono hsz)⟩
          case measure => simp [intOf]; omega
    · have e : d.take k = d := List.take_of_length_le (by omega)
      have HT := Lib.hid (dnB_all (d := d) (by rw [← e]; exact Ha.out))
      clear e
      go_wp2
      go_ret
      exact ⟨ret_bool (by rw [HT.out]; exact decide_eq_decide.2 (by omega)), hbel⟩
end Go.Proofs.Ytjajpdghamecoaa
