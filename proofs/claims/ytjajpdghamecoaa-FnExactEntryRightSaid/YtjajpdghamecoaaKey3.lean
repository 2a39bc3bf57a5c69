/- Keys of names, and what is under what: what the texts return. -/
import Derived.Test.YtjajpdghamecoaaKey2
namespace Go.Proofs.Ytjajpdghamecoaa
open Go.RowKit
attribute [local go_sem ↓] Go.wp_at_zero Go.wp_at_succ

theorem SpecNorm_from (w0 : World) (v : ByteArray) (w : World) (hv : v.size ≤ maxLen) (hB : Below w0.heap.size w0 w) :
    Calls Try.prog 93 #[.string v] w fun e w' => e = .returned (.string (normS v)) ∧ Below w0.heap.size w0 w' :=
  (SpecNorm_any v w hv).mono fun _ _ ⟨he, hb⟩ => ⟨he, hB.trans (hb.mono hB.size)⟩
theorem keyS_drop (d : RdnL) (k : Nat) (h : k < d.length) : keyS (d.drop k) = keyS (d.drop (k + 1)) ++ ⟨#[1]⟩ ++ d[k].1 ++ ⟨#[61]⟩ ++ normS d[k].2 := by
  unfold keyS
  rw [keyL_drop d k h]
  apply ByteArray.ext
  simp [rkL, normS]
theorem keyS_take (d : RdnL) (k : Nat) (h : k < d.length) : keyS (d.take (k + 1)) = ⟨#[1]⟩ ++ d[k].1 ++ ⟨#[61]⟩ ++ normS d[k].2 ++ keyS (d.take k) := by
  unfold keyS
  rw [keyL_take d k h]
  apply ByteArray.ext
  simp [rkL, normS]

set_option maxRecDepth 100000 in
set_option maxHeartbeats 1000000 in
theorem l02Key_any (ao : Option Addr) (d : RdnL) (cap : Nat) (w : World) (hd : DnAt w ao d) (hf : Fits d) (h6 : d.length ≤ 6) :
    Calls Try.prog 59 #[.slice ao d.length cap] w fun e w' => e = .returned (.string (keyS d)) ∧ Below w.heap.size w w' := by
  have HD := Lib.hid hd; have HF := Lib.hid hf; clear hd hf
  go_enter Try.func59, Try.ntmps59
  go_wp2
  go_loopw [3, 4] (fun t i wr => ∃ k : Nat, k ≤ d.length ∧ i = .int .i64 ((k : Int) - 1) ∧ t = .string (keyS (d.drop k)) ∧ Below w.heap.size w wr) (fun _ i _ => (intOf i + 1).toNat)
  case atStart => exact ⟨d.length, Nat.le_refl _, rfl, by rw [List.drop_length]; rfl, Below.refl _ _⟩
  case round =>
    obtain ⟨k1, hk, rfl, rfl, hbel⟩ := hrel
    have hsz := hbel.size
    have hts := keyS_small (d.drop k1) (HF.out.drop k1) (by rw [List.length_drop]; omega)
    by_cases h0 : k1 = 0
    · subst h0
      rw [show ((0 : Nat) : Int) - 1 = -1 by rfl, List.drop_zero]
      go_wp2
      go_ret
      exact ⟨rfl, hbel⟩
    · obtain ⟨k, rfl⟩ : ∃ k, k1 = k + 1 := ⟨k1 - 1, by omega⟩
      clear h0
      have hlt : k < d.length := by omega
      rw [show ((k + 1 : Nat) : Int) - 1 = (k : Int) by omega]
      obtain ⟨b, off, rfl, hb0, hd1, hd2⟩ := HD.out.at hlt
      have hz := HF.out.small hlt
      have hzM := (HF.out.at hlt).2
      have HN := Lib.hid (keyS_drop d k hlt)
      have hns := normS_size d[k].2
      have g1 : (0 : Int) ≤ (k : Int) := by omega
      have g2 : (k : Int) < (d.length : Int) := by omega
      generalize keyS (d.drop (k + 1)) = T at *
      generalize d[k].1 = A at *
      generalize d[k].2 = V at *
      have SK : Hid (∀ W : World, Below w.heap.size w W → (Below w.heap.size w W ∧ W.cell? ⟨b, off + k * 2, none⟩ = some (.string A) ∧ W.cell? ⟨b, off + k * 2 + 1, none⟩ = some (.string V))) :=
        Lib.hid (fun W h => ⟨h, (h.cell (p := ⟨b, _, none⟩) hb0).trans hd1, (h.cell (p := ⟨b, _, none⟩) hb0).trans hd2⟩)
      have hbd := hbel.drew
      clear hd1 hd2
      have ha := cat T ⟨#[1]⟩ (by rw [sz1]; omega)
      have ha0 := cat (T ++ ⟨#[1]⟩) A (by rw [ByteArray.size_append, sz1]; omega)
      have ha1 := cat (T ++ ⟨#[1]⟩ ++ A) ⟨#[61]⟩ (by rw [ByteArray.size_append, ByteArray.size_append, sz1, sz1]; omega)
      have ha2 := cat (T ++ ⟨#[1]⟩ ++ A ++ ⟨#[61]⟩) (normS V) (by rw [ByteArray.size_append, ByteArray.size_append, ByteArray.size_append, sz1, sz1]; omega)
      go_wp2_with fail
      go_region_held3 (fun W => Below w.heap.size w W ∧ W.cell? ⟨b, off + k * 2, none⟩ = some (.string A) ∧ W.cell? ⟨b, off + k * 2 + 1, none⟩ = some (.string V))
        (exact SK.out _ (by assumption))
        (first | (go_at_call 93; refine (SpecNorm_from w _ _ (by assumption) (by assumption)).mono ?_; rintro e w2 ⟨rfl, hb2⟩))
      all_goals
        go_wp2
        go_roundw
        case rel => exact ⟨k, by omega, by go_num, by rw [HN.out], hb2⟩
        case measure => simp [intOf]
def dnKeyS (d : RdnL) : ByteArray := if dnB d = true then keyS d else ByteArray.empty
theorem dnKey_yes {d : RdnL} (h : dnB d = true) : dnKeyS d = keyS d := by unfold dnKeyS; rw [if_pos h]
theorem dnKey_no {d : RdnL} (h : dnB d = false) : dnKeyS d = ByteArray.empty := by unfold dnKeyS; rw [h]; rfl

set_option maxRecDepth 100000 in
set_option maxHeartbeats 1000000 in
theorem DnKey_any (ao : Option Addr) (d : RdnL) (cap : Nat) (w : World) (hd : DnAt w ao d) (hf : Fits d) :
    Calls Try.prog 25 #[.slice ao d.length cap] w fun e w' => e = .returned (.string (dnKeyS d)) ∧ Below w.heap.size w w' := by
  cases hr : dnB d
  · have HE := Lib.hid (dnKey_no hr)
    go_enter Try.func25, Try.ntmps25
    go_wp2_with (first | (go_at_call 13; refine (DnRight_any _ _ _ _ hd hf).mono ?_; rintro e w1 ⟨rfl, hb1⟩; rw [hr]))
    go_ret
    exact ⟨ret_str HE.out.symm, hb1⟩
  · have HE := Lib.hid (dnKey_yes hr)
    have h6 := dnB_six hr
    have HD := Lib.hid hd; have HF := Lib.hid hf; clear hd hf
    go_enter Try.func25, Try.ntmps25
    go_wp2_with (first | (go_at_call 13; refine (DnRight_any _ _ _ _ HD.out HF.out).mono ?_; rintro e w1 ⟨rfl, hb1⟩; rw [hr]))
    clear hr
    go_loopw [3, 11] (fun t i wr => ∃ k : Nat, k ≤ d.length ∧ i = .int .i64 k ∧ t = .string (keyS (d.take k)) ∧ Below w.heap.size w wr) (fun _ i _ => d.length - (intOf i).toNat)
    case atStart => exact ⟨0, Nat.zero_le _, rfl, rfl, hb1⟩
    case round =>
      obtain ⟨k, hk, rfl, rfl, hbel⟩ := hrel
      have hsz := hbel.size
      have hts := keyS_small (d.take k) (HF.out.take k) (by rw [List.length_take]; omega)
      by_cases hlt : k < d.length
      · obtain ⟨b, off, rfl, hb0, hd1, hd2⟩ := HD.out.at hlt
        have hc1 := (hbel.cell (p := ⟨b, off + k * 2, none⟩) hb0).trans hd1
        have hc2 := (hbel.cell (p := ⟨b, off + k * 2 + 1, none⟩) hb0).trans hd2
        have hz := HF.out.small hlt
        have hzM := (HF.out.at hlt).2
        have HN := Lib.hid (keyS_take d k hlt)
        have hns := normS_size d[k].2
        clear hd1 hd2
        generalize keyS (d.take k) = T at *
        generalize d[k].1 = A at *
        generalize d[k].2 = V at *
        have ha := cat ⟨#[1]⟩ A (by rw [sz1]; omega)
        have ha0 := cat (⟨#[1]⟩ ++ A) ⟨#[61]⟩ (by rw [ByteArray.size_append, sz1, sz1]; omega)
        have ha1 := cat (⟨#[1]⟩ ++ A ++ ⟨#[61]⟩) (normS V) (by rw [ByteArray.size_append, ByteArray.size_append, sz1, sz1]; omega)
        have ha2 := cat (⟨#[1]⟩ ++ A ++ ⟨#[61]⟩ ++ normS V) T (by rw [ByteArray.size_append, ByteArray.size_append, ByteArray.size_append, sz1, sz1]; omega)
        go_wp2_with fail
        refine (normRdn_from w _ _ _ hzM hbel).mono ?_
        rintro e w2 ⟨rfl, hb2⟩
        go_wp2
        go_roundw
        case rel => exact ⟨k + 1, by omega, by go_num, by rw [HN.out], hb2.alloc hb2.size _⟩
        case measure => simp [intOf]; omega
      · have HT : Hid (keyS (d.take k) = keyS d) := Lib.hid (by rw [List.take_of_length_le (by omega)])
        go_wp2
        go_ret
        exact ⟨ret_str (by rw [HE.out, HT.out]), hbel⟩
set_option maxHeartbeats 400000 in
theorem SpecDnKey_any (ao : Option Addr) (d : RdnL) (cap : Nat) (w : World) (hd : DnAt w ao d) (hf : Fits d) :
    Calls Try.prog 26 #[.slice ao d.length cap] w fun e w' => e = .returned (.string (dnKeyS d)) ∧ Below w.heap.size w w' := by
  have hl := hf.1
  cases hr : dnB d
  · have HE := Lib.hid (dnKey_no hr)
    by_cases h4 : 400 < d.length
    · go_enter Try.func26, Try.ntmps26
      go_wp2
      go_ret
      exact ⟨ret_str HE.out.symm, Below.refl _ _⟩
    · go_enter Try.func26, Try.ntmps26
      go_wp2_with (first | (go_at_call 14; refine (SpecDnRight_any _ _ _ _ hd hf).mono ?_; rintro e w1 ⟨rfl, hb1⟩; rw [hr]))
      go_ret
      exact ⟨ret_str HE.out.symm, hb1⟩
  · have HE := Lib.hid (dnKey_yes hr)
    have h6 := dnB_six hr
    go_enter Try.func26, Try.ntmps26
    go_wp2_with (first | (go_at_call 14; refine (SpecDnRight_any _ _ _ _ hd hf).mono ?_; rintro e w1 ⟨rfl, hb1⟩; rw [hr]) | (go_at_call 59; refine (l02Key_any _ _ _ _ (hd.below hb1) hf h6).mono ?_; rintro e w2 ⟨rfl, hb2⟩))
    go_ret
    exact ⟨ret_str HE.out.symm, hb1.trans (hb2.mono hb1.size)⟩
end Go.Proofs.Ytjajpdghamecoaa
