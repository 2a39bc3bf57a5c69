/- Merged texts: Key3, Under, JoinR, Scan2, Scan3, Cut, Cut2, Rdn2, Parent, JoinD, JoinD2, Read, Read2. -/
import Derived.Test.YtjajpdghamecoaaM2
import Derived.Test.YtjajpdghamecoaaM1
import Derived.Laws.AppendOwnNone
/- Keys of names, and what is under what: what the texts return. -/
namespace Go.Proofs.Ytjajpdghamecoaa
open Go.RowKit
attribute [local go_sem ↓] Go.wp_at_zero Go.wp_at_succ

theorem SpecNorm_from (w0 : World) (v : ByteArray) (w : World) (hv : v.size ≤ maxLen) (hB : Below w0.heap.size w0 w) :
    Calls Try.prog 93 #[.string v] w fun e w' => e = .returned (.string (normS v)) ∧ Below w0.heap.size w0 w' :=
  (SpecNorm_any v w hv).mono fun _ _ ⟨he, hb⟩ => ⟨he, hB.trans (hb.mono hB.size)⟩
theorem keyS_drop (d : RdnL) (k : Nat) (h : k < d.length) : keyS (d.drop k) = keyS (d.drop (k + 1)) ++ ⟨#[1]⟩ ++ d[k].1 ++ ⟨#[61]⟩ ++ normS d[k].2 := by
  unfold keyS
  rw [keyL_drop d k h]
  apply ByteArray.ext
  simp [rkL, normS]
theorem keyS_take (d : RdnL) (k : Nat) (h : k < d.length) : keyS (d.take (k + 1)) = ⟨#[1]⟩ ++ d[k].1 ++ ⟨#[61]⟩ ++ normS d[k].2 ++ keyS (d.take k) := by
  unfold keyS
  rw [keyL_take d k h]
  apply ByteArray.ext
  simp [rkL, normS]

set_option maxRecDepth 100000 in
set_option maxHeartbeats 1000000 in
theorem l02Key_any (ao : Option Addr) (d : RdnL) (cap : Nat) (w : World) (hd : DnAt w ao d) (hf : Fits d) (h6 : d.length ≤ 6) :
    Calls Try.prog 59 #[.slice ao d.length cap] w fun e w' => e = .returned (.string (keyS d)) ∧ Below w.heap.size w w' := by
  have HD := Lib.hid hd; have HF := Lib.hid hf; clear hd hf
  go_enter Try.func59, Try.ntmps59
  go_wp2
  go_loopw [3, 4] (fun t i wr => ∃ k : Nat, k ≤ d.length ∧ i = .int .i64 ((k : Int) - 1) ∧ t = .string (keyS (d.drop k)) ∧ Below w.heap.size w wr) (fun _ i _ => (intOf i + 1).toNat)
  case atStart => exact ⟨d.length, Nat.le_refl _, rfl, by rw [List.drop_length]; rfl, Below.refl _ _⟩
  case round =>
    obtain ⟨k1, hk, rfl, rfl, hbel⟩ := hrel
    have hsz := hbel.size
    have hts := keyS_small (d.drop k1) (HF.out.drop k1) (by rw [List.length_drop]; omega)
    by_cases h0 : k1 = 0
    · subst h0
      rw [show ((0 : Nat) : Int) - 1 = -1 by rfl, List.drop_zero]
      go_wp2
      go_ret
      exact ⟨rfl, hbel⟩
    · obtain ⟨k, rfl⟩ : ∃ k, k1 = k + 1 := ⟨k1 - 1, by omega⟩
      clear h0
      have hlt : k < d.length := by omega
      rw [show ((k + 1 : Nat) : Int) - 1 = (k : Int) by omega]
      obtain ⟨b, off, rfl, hb0, hd1, hd2⟩ := HD.out.at hlt
      have hz := HF.out.small hlt
      have hzM := (HF.out.at hlt).2
      have HN := Lib.hid (keyS_drop d k hlt)
      have hns := normS_size d[k].2
      have g1 : (0 : Int) ≤ (k : Int) := by omega
      have g2 : (k : Int) < (d.length : Int) := by omega
      generalize keyS (d.drop (k + 1)) = T at *
      generalize d[k].1 = A at *
      generalize d[k].2 = V at *
      have SK : Hid (∀ W : World, Below w.heap.size w W → (Below w.heap.size w W ∧ W.cell? ⟨b, off + k * 2, none⟩ = some (.string A) ∧ W.cell? ⟨b, off + k * 2 + 1, none⟩ = some (.string V))) :=
        Lib.hid (fun W h => ⟨h, (h.cell (p := ⟨b, _, none⟩) hb0).trans hd1, (h.cell (p := ⟨b, _, none⟩) hb0).trans hd2⟩)
      have hbd := hbel.drew
      clear hd1 hd2
      have ha := cat T ⟨#[1]⟩ (by rw [sz1]; omega)
      have ha0 := cat (T ++ ⟨#[1]⟩) A (by rw [ByteArray.size_append, sz1]; omega)
      have ha1 := cat (T ++ ⟨#[1]⟩ ++ A) ⟨#[61]⟩ (by rw [ByteArray.size_append, ByteArray.size_append, sz1, sz1]; omega)
      have ha2 := cat (T ++ ⟨#[1]⟩ ++ A ++ ⟨#[61]⟩) (normS V) (by rw [ByteArray.size_append, ByteArray.size_append, ByteArray.size_append, sz1, sz1]; omega)
      go_wp2_with fail
      go_region_held3 (fun W => Below w.heap.size w W ∧ W.cell? ⟨b, off + k * 2, none⟩ = some (.string A) ∧ W.cell? ⟨b, off + k * 2 + 1, none⟩ = some (.string V))
        (exact SK.out _ (by assumption))
        (first | (go_at_call 93; refine (SpecNorm_from w _ _ (by assumption) (by assumption)).mono ?_; rintro e w2 ⟨rfl, hb2⟩))
      all_goals
        go_wp2
        go_roundw
        case rel => exact ⟨k, by omega, by go_num, by rw [HN.out], hb2⟩
        case measure => simp [intOf]
def dnKeyS (d : RdnL) : ByteArray := if dnB d = true then keyS d else ByteArray.empty
theorem dnKey_yes {d : RdnL} (h : dnB d = true) : dnKeyS d = keyS d := by unfold dnKeyS; rw [if_pos h]
theorem dnKey_no {d : RdnL} (h : dnB d = false) : dnKeyS d = ByteArray.empty := by unfold dnKeyS; rw [h]; rfl

set_option maxRecDepth 100000 in
set_option maxHeartbeats 1000000 in
theorem DnKey_any (ao : Option Addr) (d : RdnL) (cap : Nat) (w : World) (hd : DnAt w ao d) (hf : Fits d) :
    Calls Try.prog 25 #[.slice ao d.length cap] w fun e w' => e = .returned (.string (dnKeyS d)) ∧ Below w.heap.size w w' := by
  cases hr : dnB d
  · have HE := Lib.hid (dnKey_no hr)
    go_enter Try.func25, Try.ntmps25
    go_wp2_with (first | (go_at_call 13; refine (DnRight_any _ _ _ _ hd hf).mono ?_; rintro e w1 ⟨rfl, hb1⟩; rw [hr]))
    go_ret
    exact ⟨ret_str HE.out.symm, hb1⟩
  · have HE := Lib.hid (dnKey_yes hr)
    have h6 := dnB_six hr
    have HD := Lib.hid hd; have HF := Lib.hid hf; clear hd hf
    go_enter Try.func25, Try.ntmps25
    go_wp2_with (first | (go_at_call 13; refine (DnRight_any _ _ _ _ HD.out HF.out).mono ?_; rintro e w1 ⟨rfl, hb1⟩; rw [hr]))
    clear hr
    go_loopw [3, 11] (fun t i wr => ∃ k : Nat, k ≤ d.length ∧ i = .int .i64 k ∧ t = .string (keyS (d.take k)) ∧ Below w.heap.size w wr) (fun _ i _ => d.length - (intOf i).toNat)
    case atStart => exact ⟨0, Nat.zero_le _, rfl, rfl, hb1⟩
    case round =>
      obtain ⟨k, hk, rfl, rfl, hbel⟩ := hrel
      have hsz := hbel.size
      have hts := keyS_small (d.take k) (HF.out.take k) (by rw [List.length_take]; omega)
      by_cases hlt : k < d.length
      · obtain ⟨b, off, rfl, hb0, hd1, hd2⟩ := HD.out.at hlt
        have hc1 := (hbel.cell (p := ⟨b, off + k * 2, none⟩) hb0).trans hd1
        have hc2 := (hbel.cell (p := ⟨b, off + k * 2 + 1, none⟩) hb0).trans hd2
        have hz := HF.out.small hlt
        have hzM := (HF.out.at hlt).2
        have HN := Lib.hid (keyS_take d k hlt)
        have hns := normS_size d[k].2
        clear hd1 hd2
        generalize keyS (d.take k) = T at *
        generalize d[k].1 = A at *
        generalize d[k].2 = V at *
        have ha := cat ⟨#[1]⟩ A (by rw [sz1]; omega)
        have ha0 := cat (⟨#[1]⟩ ++ A) ⟨#[61]⟩ (by rw [ByteArray.size_append, sz1, sz1]; omega)
        have ha1 := cat (⟨#[1]⟩ ++ A ++ ⟨#[61]⟩) (normS V) (by rw [ByteArray.size_append, ByteArray.size_append, sz1, sz1]; omega)
        have ha2 := cat (⟨#[1]⟩ ++ A ++ ⟨#[61]⟩ ++ normS V) T (by rw [ByteArray.size_append, ByteArray.size_append, ByteArray.size_append, sz1, sz1]; omega)
        go_wp2_with fail
        refine (normRdn_from w _ _ _ hzM hbel).mono ?_
        rintro e w2 ⟨rfl, hb2⟩
        go_wp2
        go_roundw
        case rel => exact ⟨k + 1, by omega, by go_num, by rw [HN.out], hb2.alloc hb2.size _⟩
        case measure => simp [intOf]; omega
      · have HT : Hid (keyS (d.take k) = keyS d) := Lib.hid (by rw [List.take_of_length_le (by omega)])
        go_wp2
        go_ret
        exact ⟨ret_str (by rw [HE.out, HT.out]), hbel⟩
set_option maxHeartbeats 400000 in
theorem SpecDnKey_any (ao : Option Addr) (d : RdnL) (cap : Nat) (w : World) (hd : DnAt w ao d) (hf : Fits d) :
    Calls Try.prog 26 #[.slice ao d.length cap] w fun e w' => e = .returned (.string (dnKeyS d)) ∧ Below w.heap.size w w' := by
  have hl := hf.1
  cases hr : dnB d
  · have HE := Lib.hid (dnKey_no hr)
    by_cases h4 : 400 < d.length
    · go_enter Try.func26, Try.ntmps26
      go_wp2
      go_ret
      exact ⟨ret_str HE.out.symm, Below.refl _ _⟩
    · go_enter Try.func26, Try.ntmps26
      go_wp2_with (first | (go_at_call 14; refine (SpecDnRight_any _ _ _ _ hd hf).mono ?_; rintro e w1 ⟨rfl, hb1⟩; rw [hr]))
      go_ret
      exact ⟨ret_str HE.out.symm, hb1⟩
  · have HE := Lib.hid (dnKey_yes hr)
    have h6 := dnB_six hr
    go_enter Try.func26, Try.ntmps26
    go_wp2_with (first | (go_at_call 14; refine (SpecDnRight_any _ _ _ _ hd hf).mono ?_; rintro e w1 ⟨rfl, hb1⟩; rw [hr]) | (go_at_call 59; refine (l02Key_any _ _ _ _ (hd.below hb1) hf h6).mono ?_; rintro e w2 ⟨rfl, hb2⟩))
    go_ret
    exact ⟨ret_str HE.out.symm, hb1.trans (hb2.mono hb1.size)⟩
end Go.Proofs.Ytjajpdghamecoaa
/- What is the same, and what is under what: what the texts return. -/
namespace Go.Proofs.Ytjajpdghamecoaa
open Go.RowKit

theorem dnB_all_of {d : RdnL} (h : dnB d = true) : d.all rdnB = true := by unfold dnB at h; simp only [Bool.and_eq_true] at h; exact h.2
theorem same_no {a b : RdnL} (h : dnB a = false ∨ dnB b = false) : dnSameB a b = false := by
  unfold dnSameB; rcases h with h | h <;> rw [h] <;> simp
theorem same_yes {a b : RdnL} (h1 : dnB a = true) (h2 : dnB b = true) : dnSameB a b = ((keyS a).toList == (keyS b).toList) := by
  unfold dnSameB; rw [h1, h2, key_same (dnB_all_of h1) (dnB_all_of h2)]; simp
set_option maxHeartbeats 1000000 in
theorem SpecDnSame_any (ao bo : Option Addr) (a b : RdnL) (ca cb : Nat) (w : World) (hda : DnAt w ao a) (hdb : DnAt w bo b) (hfa : Fits a) (hfb : Fits b) :
    Calls Try.prog 24 #[.slice ao a.length ca, .slice bo b.length cb] w fun e w' => e = .returned (.bool (dnSameB a b)) ∧ Below w.heap.size w w' := by
  have hla := hfa.1
  have hlb := hfb.1
  by_cases h4 : 400 < a.length
  · have HE := Lib.hid (same_no (a := a) (b := b) (.inl (dnB_long (by omega))))
    clear hda hdb hfa hfb
    go_enter Try.func24, Try.ntmps24
    go_wp2
    go_ret
    exact ⟨ret_bool HE.out.symm, Below.refl _ _⟩
  by_cases h5 : 400 < b.length
  · have HE := Lib.hid (same_no (a := a) (b := b) (.inr (dnB_long (by omega))))
    clear hda hdb hfa hfb
    go_enter Try.func24, Try.ntmps24
    go_wp2
    go_ret
    exact ⟨ret_bool HE.out.symm, Below.refl _ _⟩
  cases h1 : dnB a
  · have HE := Lib.hid (same_no (a := a) (b := b) (.inl h1))
    go_enter Try.func24, Try.ntmps24
    go_wp2_with fail
    refine (SpecDnRight_any _ _ _ _ hda hfa).mono ?_
    rintro e w1 ⟨rfl, hb1⟩
    rw [h1]
    go_wp2
    go_ret
    exact ⟨ret_bool HE.out.symm, hb1⟩
  cases h2 : dnB b
  · have HE := Lib.hid (same_no (a := a) (b := b) (.inr h2))
    go_enter Try.func24, Try.ntmps24
    go_wp2_with fail
    refine (SpecDnRight_any _ _ _ _ hda hfa).mono ?_
    rintro e w1 ⟨rfl, hb1⟩
    rw [h1]
    go_wp2_with fail
    refine (SpecDnRight_any _ _ _ _ (hdb.below hb1) hfb).mono ?_
    rintro e w2 ⟨rfl, hb2⟩
    rw [h2]
    go_wp2
    go_ret
    exact ⟨ret_bool HE.out.symm, hb1.trans (hb2.mono hb1.size)⟩
  · have HE := Lib.hid (same_yes h1 h2)
    have a6 := dnB_six h1
    have b6 := dnB_six h2
    go_enter Try.func24, Try.ntmps24
    go_wp2_with fail
    refine (SpecDnRight_any _ _ _ _ hda hfa).mono ?_
    rintro e w1 ⟨rfl, hb1⟩
    rw [h1]
    go_wp2_with fail
    refine (SpecDnRight_any _ _ _ _ (hdb.below hb1) hfb).mono ?_
    rintro e w2 ⟨rfl, hb2⟩
    rw [h2]
    have hb12 := hb1.trans (hb2.mono hb1.size)
    go_wp2_with fail
    refine (l02Key_any _ _ _ _ (hda.below hb12) hfa a6).mono ?_
    rintro e w3 ⟨rfl, hb3⟩
    have hb13 := hb12.trans (hb3.mono hb12.size)
    go_wp2_with fail
    refine (l02Key_any _ _ _ _ (hdb.below hb13) hfb b6).mono ?_
    rintro e w4 ⟨rfl, hb4⟩
    go_wp2
    go_ret
    exact ⟨ret_bool HE.out.symm, hb13.trans (hb4.mono hb13.size)⟩

theorem Try.elem23 : Try.prog.elem 23 = 61 := by kernel_rfl
theorem Try.size61 (w : World) : (sizeOf 61).run Try.prog w = .ok 2 w := by kernel_rfl
/-- dn[k:] -/
theorem cut27 (w : World) (ao : Option Addr) (d : RdnL) (k cap : Nat) (hk : k ≤ d.length) (hc : d.length ≤ cap) (hd : DnAt w ao d) :
    ∃ ao', (∀ W : World, (Instr.slice 23 (.slice ao d.length cap) (some (.int .i64 (k : Int))) none none).run Try.prog W = .ok (.slice ao' (d.length - k) (cap - k)) W) ∧ DnAt w ao' (d.drop k) := by
  refine ⟨if cap = k then ao else ao.map (·.add (k * 2)), fun W => ?_, ?_⟩
  · rw [run_slice_l W 23 ao d.length cap (by rw [Try.elem23]; exact Try.underlying23) .i64 (k : Int) (by omega) (by omega), Try.elem23, Try.size61]
    simp [Result.andThen, sliced]
  · by_cases h0 : d.length = k
    · exact .inl (List.drop_eq_nil_of_le (by omega))
    · rw [if_neg (by omega)]
      obtain ⟨b, off, rfl, hb, _⟩ := hd.at (k := 0) (by omega)
      refine .inr ⟨b, off + k * 2, ?_, hb, fun i hi => ?_⟩
      · simp [Addr.add]
      · rw [List.length_drop] at hi
        rw [List.getElem_drop]
        obtain ⟨b', off', e, _, c1, c2⟩ := hd.at (k := k + i) (by omega)
        cases e
        rw [show off + k * 2 + i * 2 = off + (k + i) * 2 by omega]
        exact ⟨c1, c2⟩

def underB (d b : RdnL) : Bool := dnB d && dnB b && decide (b.length ≤ d.length) && sameB (d.drop (d.length - b.length)) b
theorem under_no {d b : RdnL} (h : dnB d = false ∨ dnB b = false ∨ d.length < b.length) : underB d b = false := by
  unfold underB; rcases h with h | h | h
  · rw [h]; simp
  · rw [h]; simp
  · have : decide (b.length ≤ d.length) = false := decide_eq_false (by omega)
    rw [this]; simp
theorem under_yes {d b : RdnL} (h1 : dnB d = true) (h2 : dnB b = true) (h3 : b.length ≤ d.length) : underB d b = sameB (d.drop (d.length - b.length)) b := by
  unfold underB; rw [h1, h2]; simp [h3]
set_option maxHeartbeats 1000000 in
theorem DnUnder_any (ao bo : Option Addr) (d b : RdnL) (ca cb : Nat) (w : World) (hc : d.length ≤ ca) (hda : DnAt w ao d) (hdb : DnAt w bo b) (hfa : Fits d) (hfb : Fits b) :
    Calls Try.prog 22 #[.slice ao d.length ca, .slice bo b.length cb] w fun e w' => e = .returned (.bool (underB d b)) ∧ Below w.heap.size w w' := by
  have hla := hfa.1
  have hlb := hfb.1
  cases h1 : dnB d
  · have HE := Lib.hid (under_no (d := d) (b := b) (.inl h1))
    go_enter Try.func22, Try.ntmps22
    go_wp2_with fail
    refine (DnRight_any _ _ _ _ hda hfa).mono ?_
    rintro e w1 ⟨rfl, hb1⟩
    rw [h1]
    go_wp2
    go_ret
    exact ⟨ret_bool HE.out.symm, hb1⟩
  cases h2 : dnB b
  · have HE := Lib.hid (under_no (d := d) (b := b) (.inr (.inl h2)))
    go_enter Try.func22, Try.ntmps22
    go_wp2_with fail
    refine (DnRight_any _ _ _ _ hda hfa).mono ?_
    rintro e w1 ⟨rfl, hb1⟩
    rw [h1]
    go_wp2_with fail
    refine (DnRight_any _ _ _ _ (hdb.below hb1) hfb).mono ?_
    rintro e w2 ⟨rfl, hb2⟩
    rw [h2]
    go_wp2
    go_ret
    exact ⟨ret_bool HE.out.symm, hb1.trans (hb2.mono hb1.size)⟩
  by_cases h3 : d.length < b.length
  · have HE := Lib.hid (under_no (d := d) (b := b) (.inr (.inr h3)))
    go_enter Try.func22, Try.ntmps22
    go_wp2_with fail
    refine (DnRight_any _ _ _ _ hda hfa).mono ?_
    rintro e w1 ⟨rfl, hb1⟩
    rw [h1]
    go_wp2_with fail
    refine (DnRight_any _ _ _ _ (hdb.below hb1) hfb).mono ?_
    rintro e w2 ⟨rfl, hb2⟩
    rw [h2]
    go_wp2
    go_ret
    exact ⟨ret_bool HE.out.symm, hb1.trans (hb2.mono hb1.size)⟩
  · have HE := Lib.hid (under_yes h1 h2 (by omega))
    go_enter Try.func22, Try.ntmps22
    go_wp2_with fail
    refine (DnRight_any _ _ _ _ hda hfa).mono ?_
    rintro e w1 ⟨rfl, hb1⟩
    rw [h1]
    go_wp2_with fail
    refine (DnRight_any _ _ _ _ (hdb.below hb1) hfb).mono ?_
    rintro e w2 ⟨rfl, hb2⟩
    rw [h2]
    have hb12 := hb1.trans (hb2.mono hb1.size)
    obtain ⟨ao', hcut, hdr⟩ := cut27 w2 ao d (d.length - b.length) ca (by omega) hc (hda.below hb12)
    rw [show ((d.length - b.length : Nat) : Int) = (d.length : Int) - (b.length : Int) by omega] at hcut
    have HL : Hid ((d.drop (d.length - b.length)).length = d.length - (d.length - b.length)) := Lib.hid (List.length_drop ..)
    have HS := Lib.hid (sameRdns_any ao' bo (d.drop (d.length - b.length)) b (ca - (d.length - b.length)) cb w2 hdr (hdb.below hb12) (hfa.drop _) hfb)
    rw [HL.out] at HS
    have HDR := Lib.hid hdr
    clear hdr
    go_wp2_with fail
    refine HS.out.mono ?_
    rintro e w3 ⟨rfl, hb3⟩
    go_wp2
    go_ret
    exact ⟨ret_bool HE.out.symm, hb12.trans (hb3.mono hb12.size)⟩
theorem dnB_drop {d : RdnL} (h : dnB d = true) (k : Nat) : dnB (d.drop k) = true := by
  have h1 := dnB_six h
  have h2 := dnB_all_of h
  unfold dnB
  rw [Bool.and_eq_true]
  refine ⟨decide_eq_true (by rw [List.length_drop]; omega), ?_⟩
  rw [List.all_eq_true] at h2 ⊢
  exact fun x hx => h2 x (List.mem_of_mem_drop hx)
set_option maxHeartbeats 1000000 in
theorem SpecDnUnder_any (ao bo : Option Addr) (d b : RdnL) (ca cb : Nat) (w : World) (hc : d.length ≤ ca) (hda : DnAt w ao d) (hdb : DnAt w bo b) (hfa : Fits d) (hfb : Fits b) :
    Calls Try.prog 23 #[.slice ao d.length ca, .slice bo b.length cb] w fun e w' => e = .returned (.bool (underB d b)) ∧ Below w.heap.size w w' := by
  have hla := hfa.1
  have hlb := hfb.1
  by_cases h4 : 400 < d.length
  · have HE := Lib.hid (under_no (d := d) (b := b) (.inl (dnB_long (by omega))))
    clear hda hdb hfa hfb
    go_enter Try.func23, Try.ntmps23
    go_wp2
    go_ret
    exact ⟨ret_bool HE.out.symm, Below.refl _ _⟩
  by_cases h5 : 400 < b.length
  · have HE := Lib.hid (under_no (d := d) (b := b) (.inr (.inl (dnB_long (by omega)))))
    clear hda hdb hfa hfb
    go_enter Try.func23, Try.ntmps23
    go_wp2
    go_ret
    exact ⟨ret_bool HE.out.symm, Below.refl _ _⟩
  cases h1 : dnB d
  · have HE := Lib.hid (under_no (d := d) (b := b) (.inl h1))
    go_enter Try.func23, Try.ntmps23
    go_wp2_with fail
    refine (SpecDnRight_any _ _ _ _ hda hfa).mono ?_
    rintro e w1 ⟨rfl, hb1⟩
    rw [h1]
    go_wp2
    go_ret
    exact ⟨ret_bool HE.out.symm, hb1⟩
  cases h2 : dnB b
  · have HE := Lib.hid (under_no (d := d) (b := b) (.inr (.inl h2)))
    go_enter Try.func23, Try.ntmps23
    go_wp2_with fail
    refine (SpecDnRight_any _ _ _ _ hda hfa).mono ?_
    rintro e w1 ⟨rfl, hb1⟩
    rw [h1]
    go_wp2_with fail
    refine (SpecDnRight_any _ _ _ _ (hdb.below hb1) hfb).mono ?_
    rintro e w2 ⟨rfl, hb2⟩
    rw [h2]
    go_wp2
    go_ret
    exact ⟨ret_bool HE.out.symm, hb1.trans (hb2.mono hb1.size)⟩
  by_cases h3 : d.length < b.length
  · have HE := Lib.hid (under_no (d := d) (b := b) (.inr (.inr h3)))
    go_enter Try.func23, Try.ntmps23
    go_wp2_with fail
    refine (SpecDnRight_any _ _ _ _ hda hfa).mono ?_
    rintro e w1 ⟨rfl, hb1⟩
    rw [h1]
    go_wp2_with fail
    refine (SpecDnRight_any _ _ _ _ (hdb.below hb1) hfb).mono ?_
    rintro e w2 ⟨rfl, hb2⟩
    rw [h2]
    go_wp2
    go_ret
    exact ⟨ret_bool HE.out.symm, hb1.trans (hb2.mono hb1.size)⟩
  · have HE : Hid (underB d b = ((keyS (d.drop (d.length - b.length))).toList == (keyS b).toList)) := Lib.hid (by
      rw [under_yes h1 h2 (by omega), key_same (dnB_all_of (dnB_drop h1 _)) (dnB_all_of h2)])
    have a6 := dnB_six (dnB_drop h1 (d.length - b.length))
    have b6 := dnB_six h2
    go_enter Try.func23, Try.ntmps23
    go_wp2_with fail
    refine (SpecDnRight_any _ _ _ _ hda hfa).mono ?_
    rintro e w1 ⟨rfl, hb1⟩
    rw [h1]
    go_wp2_with fail
    refine (SpecDnRight_any _ _ _ _ (hdb.below hb1) hfb).mono ?_
    rintro e w2 ⟨rfl, hb2⟩
    rw [h2]
    have hb12 := hb1.trans (hb2.mono hb1.size)
    obtain ⟨ao', hcut, hdr⟩ := cut27 w2 ao d (d.length - b.length) ca (by omega) hc (hda.below hb12)
    rw [show ((d.length - b.length : Nat) : Int) = (d.length : Int) - (b.length : Int) by omega] at hcut
    have HL : Hid ((d.drop (d.length - b.length)).length = d.length - (d.length - b.length)) := Lib.hid (List.length_drop ..)
    have HS := Lib.hid (l02Key_any ao' (d.drop (d.length - b.length)) (ca - (d.length - b.length)) w2 hdr (hfa.drop _) a6)
    rw [HL.out] at HS
    have HDR := Lib.hid hdr
    clear hdr a6
    go_wp2_with fail
    refine HS.out.mono ?_
    rintro e w3 ⟨rfl, hb3⟩
    have hb13 := hb12.trans (hb3.mono hb12.size)
    go_wp2_with fail
    refine (l02Key_any _ _ _ _ (hdb.below hb13) hfb b6).mono ?_
    rintro e w4 ⟨rfl, hb4⟩
    go_wp2
    go_ret
    exact ⟨ret_bool HE.out.symm, hb13.trans (hb4.mono hb13.size)⟩
end Go.Proofs.Ytjajpdghamecoaa
/- joinRdns: what the program's text returns. -/
namespace Go.Proofs.Ytjajpdghamecoaa
open Go.RowKit
attribute [local go_sem ↓] Go.wp_at_zero Go.wp_at_succ

theorem more {w0 W : World} (h : Below w0.heap.size w0 W) (o : Obj) : Below w0.heap.size w0 (W.alloc o) := h.alloc h.size o
/-- a copy of a string -/
theorem concat_at (w0 : World) (B : Nat) (a : ByteArray) (w : World) (ha : a.size ≤ 1048576) (hB : B < w.heap.size) (hc : w.cell? ⟨B, 0, none⟩ = some (.string a)) (hb : Below w0.heap.size w0 w) :
    Calls Try.prog 84 #[.slice (some ⟨B, 0, none⟩) 1 1] w fun e w' => e = .returned (.string a) ∧ Below w0.heap.size w0 w' ∧ Below w.heap.size w w' := by
  have := concat_any B 0 1 [a] w (by simp) hB (by simp [joinL]; omega) (fun i hi => by
    match i, hi with
    | 0, _ => exact hc)
  rw [joinS_one] at this
  exact this.mono fun e w' ⟨he, h⟩ => ⟨he, hb.trans (h.mono hb.size), h⟩
theorem wp_world {P : Program} {c : Code} {Q : Exit → Act → World → Prop} {a : Act} {w : World} (R : World → Prop) (h : R w) (k : ∀ W, R W → c.wp P Q a W) : c.wp P Q a w := k w h
theorem keep_two {W w2 : World} {R : Nat} {A V : Value} (hb : Below W.heap.size W w2) (h : W.cell? ⟨R, 0, none⟩ = some A ∧ W.cell? ⟨R, 1, none⟩ = some V) : w2.cell? ⟨R, 0, none⟩ = some A ∧ w2.cell? ⟨R, 1, none⟩ = some V :=
  ⟨(hb.cell (p := ⟨R, 0, none⟩) (World.block_lt_of_cell? _ _ h.1)).trans h.1, (hb.cell (p := ⟨R, 1, none⟩) (World.block_lt_of_cell? _ _ h.2)).trans h.2⟩
theorem keep_far {W w2 : World} {R : Nat} {A V : Value} {row : Option Nat} (hg : W.grownBy w2 row) (hne : row ≠ some R) (h : W.cell? ⟨R, 0, none⟩ = some A ∧ W.cell? ⟨R, 1, none⟩ = some V) : w2.cell? ⟨R, 0, none⟩ = some A ∧ w2.cell? ⟨R, 1, none⟩ = some V :=
  ⟨(hg.cell_far ⟨R, 0, none⟩ (World.block_lt_of_cell? _ _ h.1) (Ne.symm hne)).trans h.1, (hg.cell_far ⟨R, 1, none⟩ (World.block_lt_of_cell? _ _ h.2) (Ne.symm hne)).trans h.2⟩
section
variable {ops : Array Oper} {o : Oper} {a : Act} {Q : Exit → Act → World → Prop} {K : Act → World → Prop} {E : Prop} {w0 wr : World}
theorem step_rdn2 (B : Nat) (hgd : o.guard = none) (s x : Operand)
    (ho : o.op = .call { callee := .builtin .append, args := #[s, x], argTypes := #[23, 23] }) (v : Value) (pre : RdnL) (hs : a.eval s = v) (hown : wr.ownsRow B 61 2 v pre.length (rs pre))
    (A V : ByteArray) (hx : a.eval x = .slice (some ⟨wr.heap.size, 0, none⟩) 1 1) (hlen : pre.length ≤ 1000000000) (hB : B ≤ wr.heap.size) (hbel : Below B w0 wr)
    (h : ∀ g cap w', w'.ownsRow B 61 2 (.slice (some ⟨g, 0, none⟩) (pre.length + 1) cap) (pre ++ [(A, V)]).length (rs (pre ++ [(A, V)])) → Below B w0 w' → (wr.alloc (.cells #[.string A, .string V] 61)).grownBy w' v.ownBlock → K (a.put o.dst (.slice (some ⟨g, 0, none⟩) (pre.length + 1) cap)) w') :
    if Region.wanted o (yielded ops a.tmps) = true then Oper.wp Try.prog o a (wr.alloc (.cells #[.string A, .string V] 61)) K Q else E := by
  obtain ⟨i0, hi, hz0, hz1, hz2⟩ := info_parts Try.info61
  refine step_append_lies _ hgd s x 23 ho B 61 i0 _ 2 32 Try.underlying23 hi hz0 hz1 hz2 rfl (by decide) v pre.length (rs pre) hs (hown.alloc _) ⟨wr.heap.size, 0, none⟩ 1 1 [.string A, .string V] hx rfl (World.news_of_block (cs := #[.string A, .string V]) (t := 61) (fr := (0, 0)) (heap_alloc_new wr _)) ?_ (by omega) ?_ ?_ ?_ (wr.heap.size + 1) (by simp) ?_
  · intro u hu; simp at hu; rcases hu with rfl | rfl <;> rfl
  · unfold maxLen; omega
  · omega
  · simp; omega
  · intro g cap w' h1 h2 h3 h4
    have hb' : Below B w0 w' := (hbel.alloc hB _).grown h2 (by simp; omega) (fun k hk => (hown.lt k hk).1)
    refine h g cap w' ?_ hb' h2
    rw [rs_snoc]; simpa using h1
end
/-- lists of names, as slices -/
def PartsAt (w : World) (pb po : Nat) (ps : List (Option Addr × Nat × RdnL)) : Prop :=
  pb < w.heap.size ∧ ∀ i (h : i < ps.length), w.cell? ⟨pb, po + i, none⟩ = some (.slice ps[i].1 ps[i].2.2.length ps[i].2.1) ∧ DnAt w ps[i].1 ps[i].2.2 ∧ Fits ps[i].2.2
theorem PartsAt.below {w w' : World} {pb po : Nat} {ps : List (Option Addr × Nat × RdnL)} (h : PartsAt w pb po ps) (hb : Below w.heap.size w w') : PartsAt w' pb po ps :=
  ⟨Nat.lt_of_lt_of_le h.1 hb.size, fun i hi => ⟨(hb.cell (p := ⟨pb, _, none⟩) h.1).trans (h.2 i hi).1, (h.2 i hi).2.1.below hb, (h.2 i hi).2.2⟩⟩
def flat (ps : List (Option Addr × Nat × RdnL)) : RdnL := ps.flatMap (·.2.2)
theorem flat_succ (ps : List (Option Addr × Nat × RdnL)) (k : Nat) (h : k < ps.length) : flat (ps.take (k + 1)) = flat (ps.take k) ++ ps[k].2.2 := by
  unfold flat; rw [List.take_succ_eq_append_getElem h, List.flatMap_append]; simp

theorem flat_len (ps : List (Option Addr × Nat × RdnL)) (h : ∀ p ∈ ps, p.2.2.length ≤ 1048576) : (flat ps).length ≤ ps.length * 1048576 := by
  induction ps with
  | nil => simp [flat]
  | cons p ps ih =>
    have h1 := ih (fun x hx => h x (List.mem_cons_of_mem _ hx))
    have h2 := h p (List.mem_cons_self ..)
    have e : flat (p :: ps) = p.2.2 ++ flat ps := by unfold flat; simp
    rw [e, List.length_append, List.length_cons, Nat.add_mul]; omega
theorem PartsAt.len {w : World} {pb po : Nat} {ps : List (Option Addr × Nat × RdnL)} (h : PartsAt w pb po ps) (hm : ps.length ≤ 10) (k : Nat) : (flat (ps.take k)).length ≤ 100000000 := by
  have := flat_len (ps.take k) (fun p hp => by
    obtain ⟨i, hi, rfl⟩ := List.getElem_of_mem (List.mem_of_mem_take hp)
    exact (h.2 i hi).2.2.1)
  have h2 : (ps.take k).length ≤ 10 := by rw [List.length_take]; omega
  omega
end Go.Proofs.Ytjajpdghamecoaa
/- Reading names: scanDn of the program. -/
namespace Go.Proofs.Ytjajpdghamecoaa
open Go.RowKit

def att (l : List UInt8) : List UInt8 := l.takeWhile (· != 61)
def vlu (l : List UInt8) : List UInt8 := (l.dropWhile (· != 61)).drop 1
def CutAt (s : ByteArray) (e : Ending) : Prop := ∃ b : Bool, e = .returned (.tuple #[.string (toS (att s.data.toList)), .string (toS (vlu s.data.toList)), .bool b])
theorem ext_take (s : ByteArray) (k : Nat) : s.extract 0 k = toS (s.data.toList.take k) := by
  apply ByteArray.ext; apply Array.toList_inj.1; rw [extract_list]; simp [toS]
theorem ext_drop (s : ByteArray) (k : Nat) : s.extract k s.size = toS (s.data.toList.drop k) := by
  apply ByteArray.ext; apply Array.toList_inj.1; rw [extract_list, List.take_of_length_le (by simp)]; simp [toS]
theorem below_drewN (w : World) (n : Nat) : Below w.heap.size w (w.drewN n) := ⟨rfl, rfl, rfl, Nat.le_refl _, fun _ _ => rfl⟩
set_option maxHeartbeats 1000000 in
theorem cutIn_any (s : ByteArray) (w : World) (hs : s.size ≤ 1048576) :
    Calls Try.prog 125 #[.string s, .string ⟨#[61]⟩] w fun e w' => CutAt s e ∧ Below w.heap.size w w' := by
  rcases idx s.data.toList with ⟨h1, h2, h3⟩ | ⟨k, hk, h1, h2, h3⟩
  · have HR : Hid (toS (att s.data.toList) = s ∧ toS (vlu s.data.toList) = ByteArray.empty) := Lib.hid ⟨by unfold att; rw [h2, toS_self], by unfold vlu; rw [h3]; rfl⟩
    have HI := Lib.hid (Try.stringslite_Index_one s 61 w)
    rw [h1] at HI
    clear h1 h2 h3
    go_enter Try.func125, Try.ntmps125
    go_wp2_with fail
    refine HI.out.mono ?_
    rintro e w1 ⟨rfl, hw⟩
    subst hw
    go_wp2
    go_ret3
    exact ⟨⟨false, by rw [HR.out.1, HR.out.2]; rfl⟩, Below.refl _ _⟩
  · have hk' : k < s.size := by simpa using hk
    have HR : Hid (toS (att s.data.toList) = s.extract 0 k ∧ toS (vlu s.data.toList) = s.extract (k + 1) s.size) := Lib.hid ⟨by unfold att; rw [← h2, ext_take], by unfold vlu; rw [← h3, List.drop_drop, ext_drop]⟩
    have HI := Lib.hid (Try.stringslite_Index_one s 61 w)
    rw [h1] at HI
    clear h1 h2 h3 hk
    have g1 : (0 : Int) ≤ (k : Int) := by omega
    have g2 : (k : Int) ≤ (s.size : Int) := by omega
    have g3 : (0 : Int) ≤ (k : Int) + 1 := by omega
    have g4 : (k : Int) + 1 ≤ (s.size : Int) := by omega
    have g5 : ((k : Int) + 1).toNat = k + 1 := by omega
    go_enter Try.func125, Try.ntmps125
    go_wp2_with fail
    refine HI.out.mono ?_
    rintro e w1 ⟨rfl, hw⟩
    subst hw
    go_wp2
    have g6 : IntKind.i64.wrap ((k : Int) + 1) = (k : Int) + 1 := IntWalk.i64_in _ (by omega)
    go_quiet (fail)
    go_wp2
    go_ret3
    exact ⟨⟨true, by rw [HR.out.1, HR.out.2]; rfl⟩, below_drewN _ _⟩
set_option maxHeartbeats 400000 in
theorem cut_any (s : ByteArray) (w : World) (hs : s.size ≤ 1048576) :
    Calls Try.prog 95 #[.string s, .string ⟨#[61]⟩] w fun e w' => CutAt s e ∧ Below w.heap.size w w' := by
  go_enter Try.func95, Try.ntmps95
  go_wp2_with fail
  refine (cutIn_any s w hs).mono ?_
  rintro e w1 ⟨⟨b, rfl⟩, hb1⟩
  go_wp2
  go_ret3
  exact ⟨⟨b, rfl⟩, hb1⟩
end Go.Proofs.Ytjajpdghamecoaa
/- Reading names: scanDn of the program. -/
namespace Go.Proofs.Ytjajpdghamecoaa
open Go.RowKit

def strOf : Value → ByteArray
  | .string s => s
  | _ => ByteArray.empty
theorem takeWhile_len (l : List UInt8) : (att l).length ≤ l.length := by unfold att; exact (List.takeWhile_sublist _).length_le
theorem vlu_len (l : List UInt8) : (vlu l).length ≤ l.length := by
  unfold vlu
  rw [List.length_drop]
  have : (l.dropWhile (· != 61)).length ≤ l.length := (List.dropWhile_sublist _).length_le
  omega
theorem toS_size (l : List UInt8) : (toS l).size = l.length := by rw [← size_len, toS_list]
theorem scan_step (s : ByteArray) (h : 0 < s.size) : scanL s.data.toList = [rdn1 (s.data.toList.take (endF false s.data.toList))] ++ scanL (s.data.toList.drop (endF false s.data.toList + 1)) := by
  rw [scanL_cons (by intro e; have := size_len s; rw [e] at this; simp at this; omega)]; rfl
set_option maxRecDepth 100000 in
set_option maxHeartbeats 1000000 in
theorem scanDn_any (t : ByteArray) (w : World) (ht : t.size ≤ 8000) :
    Calls Try.prog 52 #[.string t] w fun e w' => (∃ v, e = .returned v ∧ w'.ownsRow w.heap.size 61 2 v (scanL t.data.toList).length (rs (scanL t.data.toList))) ∧ Below w.heap.size w w' := by
  have hsl := scanL_len t.data.toList
  rw [size_len] at hsl
  go_enter Try.func52, Try.ntmps52
  go_wp2
  go_loopw [0, 3] (fun u v wr => ∃ (s : ByteArray) (pre : RdnL), u = .string s ∧ s.size ≤ 8000 ∧ scanL t.data.toList = pre ++ scanL s.data.toList ∧ wr.ownsRow w.heap.size 61 2 v pre.length (rs pre) ∧ Below w.heap.size w wr) (fun u _ _ => (strOf u).size)
  case atStart => exact ⟨t, [], rfl, ht, rfl, ⟨rfl, .inl ⟨rfl, rfl⟩⟩, Below.refl _ _⟩
  case round =>
    obtain ⟨s, pre, rfl, hs, hS, hown, hbel⟩ := hrel
    have hpl : pre.length ≤ 8000 := by
      have := congrArg List.length hS
      rw [List.length_append] at this; omega
    have HS := Lib.hid hS; clear hS
    have HO := Lib.hid hown; clear hown
    have hsz := hbel.size
    by_cases h0 : 0 < s.size
    · have hle := endF_le false s.data.toList
      rw [size_len] at hle
      have HST := Lib.hid (scan_step s h0)
      have HEn := Lib.hid (fun w => rdnEnd_any s w (by omega))
      generalize hn : endF false s.data.toList = n at *
      clear hn
      have g1 : (0 : Int) ≤ (n : Int) := by omega
      have g2 : (n : Int) ≤ (s.size : Int) := by omega
      go_wp2_with fail
      refine (HEn.out _).mono ?_
      rintro e w1 ⟨rfl, rfl⟩
      have HX := Lib.hid (ext_take s n)
      have hxs : (s.extract 0 n).size ≤ 1048576 := by rw [HX.out, toS_size, List.length_take]; omega
      have HC := Lib.hid (fun w => cut_any (s.extract 0 n) w hxs)
      go_wp2_with fail
      refine (HC.out _).mono ?_
      rintro e w2 ⟨⟨fl, rfl⟩, hb2⟩
      have B2 := Lib.hid (hbel.trans (hb2.mono hsz))
      have HO2 := Lib.hid (own_below HO.out hb2)
      clear hb2
      have HA : Hid ((s.extract 0 n).data.toList = s.data.toList.take n) := Lib.hid (by rw [HX.out, toS_list])
      have ha : (toS (att (s.extract 0 n).data.toList)).size ≤ 1000000 := by
        rw [toS_size]; refine Nat.le_trans (takeWhile_len _) ?_; rw [size_len]; rw [HX.out, toS_size, List.length_take]; omega
      have hv : (toS (vlu (s.extract 0 n).data.toList)).size ≤ 1048576 := by
        rw [toS_size]; refine Nat.le_trans (vlu_len _) ?_; rw [size_len]; exact hxs
      have HR : Hid (rdn1 (s.data.toList.take n) = (toS (att (s.extract 0 n).data.toList), toS (unescF false (toS (vlu (s.extract 0 n).data.toList)).data.toList))) := Lib.hid (by rw [toS_list, HA.out]; rfl)
      generalize toS (att (s.extract 0 n).data.toList) = A at *
      generalize toS (vlu (s.extract 0 n).data.toList) = V at *
      go_wp2_with fail
      refine (concat_one A w2 ha).mono ?_
      rintro e w3 ⟨rfl, hb3⟩
      have B3 := Lib.hid (B2.out.trans (hb3.mono B2.out.size))
      have HO3 := Lib.hid (own_below HO2.out hb3)
      clear hb3
      go_wp2_with fail
      refine (unescapeValue_any V w3 hv).mono ?_
      rintro e w4 ⟨rfl, hb4⟩
      have B4 := Lib.hid (B3.out.trans (hb4.mono B3.out.size))
      have HO4 := Lib.hid (own_below HO3.out hb4)
      clear hb4
      generalize toS (unescF false V.data.toList) = U at *
      have HD : Hid ((s.extract (min ((n : Int) + 1) (s.size : Int)).toNat s.size).data.toList = s.data.toList.drop (n + 1)) := Lib.hid (by
        rw [ext_drop, toS_list]
        by_cases he : n < s.size
        · rw [show (min ((n : Int) + 1) (s.size : Int)).toNat = n + 1 by omega]
        · rw [List.drop_eq_nil_of_le (by rw [size_len]; omega), List.drop_eq_nil_of_le (by rw [size_len]; omega)])
      have HL : Hid ((s.extract (min ((n : Int) + 1) (s.size : Int)).toNat s.size).size < s.size) := Lib.hid (by
        rw [← size_len, HD.out, List.length_drop, size_len]; omega)
      go_wp2_with (first | (at_builtin; refine append_rdn w.heap.size rfl _ _ rfl _ pre rfl HO4.out (A, U) rfl (by omega) B4.out.size B4.out ?_; intro v' w5 hown5 hbel5 hsz5; have HO5 := Lib.hid hown5; clear hown5) | (fail "none"))
      refine ⟨⟨_, pre ++ [(A, U)], rfl, by have := HL.out; omega, ?_, HO5.out, hbel5⟩, HL.out⟩
      rw [HS.out, HST.out, HR.out, HD.out, List.append_assoc]
    · have HE : Hid (scanL t.data.toList = pre) := Lib.hid (by
        rw [HS.out, List.eq_nil_of_length_eq_zero (show s.data.toList.length = 0 by rw [size_len]; omega), scanL_nil, List.append_nil])
      go_wp2
      go_ret
      exact ⟨⟨_, rfl, by rw [HE.out]; exact HO.out⟩, hbel⟩
end Go.Proofs.Ytjajpdghamecoaa
/- Reading names: l02Cut of the specification. -/
namespace Go.Proofs.Ytjajpdghamecoaa
open Go.RowKit
attribute [local go_sem ↓] Go.wp_at_zero Go.wp_at_succ

/-- rows of different elements lie in different blocks -/
theorem own_apart {w : World} {B e e' z z' n n' : Nat} {v u : Value} {xs ys : List Value} (h : w.ownsRow B e z v n xs) (g : w.ownsRow B e' z' u n' ys) (hne : e ≠ e') : u.ownBlock = none ∨ u.ownBlock ≠ v.ownBlock := by
  rcases g.2 with ⟨rfl, _⟩ | ⟨k, cap, cur, rfl, _, hk, _⟩
  · exact .inl rfl
  · right
    rcases h.2 with ⟨rfl, _⟩ | ⟨k', cap', cur', rfl, _, hk', _⟩
    · simp [Value.ownBlock]
    · intro hh
      have : k = k' := by simpa [Value.ownBlock] using hh
      subst this
      rw [hk] at hk'
      injection hk' with hk'
      injection hk' with _ ht
      exact hne ht.symm
section
variable {ops : Array Oper} {rest : List Oper} {o : Oper} {a : Act} {Q : Exit → Act → World → Prop} {K : Act → World → Prop} {E : Prop} {w0 wr : World}
theorem append_byte2 (B : Nat) (hgd : o.guard = none) (s x : Operand)
    (ho : o.op = .call { callee := .builtin .append, args := #[s, x], argTypes := #[22, 22] }) (v : Value) (pre : List UInt8) (hs : a.eval s = v) (hown : wr.ownsRow B 5 1 v pre.length (bs pre))
    (c : UInt8) (n : Int) (hn : n = (c.toNat : Int)) (hx : a.eval x = .slice (some ⟨wr.heap.size, 0, none⟩) 1 1) (hlen : pre.length ≤ 1000000000) (hB : B ≤ wr.heap.size) (hbel : Below B w0 wr)
    (h : ∀ v' w', w'.ownsRow B 5 1 v' (pre ++ [c]).length (bs (pre ++ [c])) → Below B w0 w' → (wr.alloc (.cells #[.int .u8 n] 5)).grownBy w' v.ownBlock → wpList Try.prog ops Q rest (a.put o.dst v') w') :
    wpList Try.prog ops Q (o :: rest) a (wr.alloc (.cells #[.int .u8 n] 5)) := by
  obtain ⟨i0, hi, hz0, hz1, hz2⟩ := info_parts Try.info5
  subst hn
  refine wpList_append_own _ hgd s x 22 ho B 5 i0 (.int .u8 0) 1 1 Try.underlying22 hi hz0 hz1 hz2 rfl (by decide) v pre.length (bs pre) hs (hown.alloc _) ⟨wr.heap.size, 0, none⟩ 1 1 [.int .u8 (c.toNat : Int)] hx rfl (cell_one_new _ _ _) ?_ ?_ ?_ ?_ ?_
  · intro u hu; simp at hu; subst hu; rfl
  · unfold maxLen; omega
  · omega
  · simp; omega
  · intro v' w' h1 h2 h3
    refine h v' w' ?_ ((hbel.alloc hB _).grown h2 (by simp; omega) (fun k hk => (hown.lt k hk).1)) h2
    rw [bs_snoc]; simpa using h1
theorem step_two (B : Nat) (hgd : o.guard = none) (s x : Operand)
    (ho : o.op = .call { callee := .builtin .append, args := #[s, x], argTypes := #[22, 22] }) (v : Value) (pre : List UInt8) (hs : a.eval s = v) (hown : wr.ownsRow B 5 1 v pre.length (bs pre))
    (c d : UInt8) (hx : a.eval x = .slice (some ⟨wr.heap.size, 0, none⟩) 2 2) (hlen : pre.length ≤ 1000000000) (hB : B ≤ wr.heap.size) (hbel : Below B w0 wr)
    (h : ∀ g cap w', w'.ownsRow B 5 1 (.slice (some ⟨g, 0, none⟩) (pre.length + 2) cap) (pre ++ [c, d]).length (bs (pre ++ [c, d])) → Below B w0 w' → (wr.alloc (.cells #[.int .u8 (c.toNat : Int), .int .u8 (d.toNat : Int)] 5)).grownBy w' v.ownBlock → K (a.put o.dst (.slice (some ⟨g, 0, none⟩) (pre.length + 2) cap)) w') :
    if Region.wanted o (yielded ops a.tmps) = true then Oper.wp Try.prog o a (wr.alloc (.cells #[.int .u8 (c.toNat : Int), .int .u8 (d.toNat : Int)] 5)).drew K Q else E := by
  obtain ⟨i0, hi, hz0, hz1, hz2⟩ := info_parts Try.info5
  refine step_append_lies _ hgd s x 22 ho B 5 i0 _ 1 1 Try.underlying22 hi hz0 hz1 hz2 rfl (by decide) v pre.length (bs pre) hs ((hown.alloc _).drew) ⟨wr.heap.size, 0, none⟩ 2 2 [.int .u8 (c.toNat : Int), .int .u8 (d.toNat : Int)] hx rfl (World.news_of_block (cs := #[.int .u8 (c.toNat : Int), .int .u8 (d.toNat : Int)]) (t := 5) (fr := (0, 0)) (heap_alloc_new wr _)) ?_ (by omega) ?_ ?_ ?_ (wr.heap.size + 1) (by simp) ?_
  · intro u hu; simp at hu; rcases hu with rfl | rfl <;> rfl
  · unfold maxLen; omega
  · omega
  · simp; omega
  · intro g cap w' h1 h2 h3 h4
    have h2' : (wr.alloc (.cells #[.int .u8 (c.toNat : Int), .int .u8 (d.toNat : Int)] 5)).grownBy w' v.ownBlock := ⟨h2.os, h2.tape, h2.output, h2.size, h2.block⟩
    refine h g cap w' ?_ ((hbel.alloc hB _).grown h2' (by simp; omega) (fun k hk => (hown.lt k hk).1)) h2'
    have e : bs (pre ++ [c, d]) = bs pre ++ [.int .u8 (c.toNat : Int), .int .u8 (d.toNat : Int)] := by simp [bs]
    rw [e]; simpa using h1
end
def tss (l : List (List UInt8)) : List ByteArray := l.map toS
theorem tss_snoc (l : List (List UInt8)) (x : List UInt8) : tss (l ++ [x]) = tss l ++ [toS x] := by unfold tss; simp
theorem tss_len (l : List (List UInt8)) : (tss l).length = l.length := by unfold tss; simp
/-- what is known of the parts at byte k -/
def CutS (s : ByteArray) (outs : List (List UInt8)) (b : List UInt8) (k : Nat) : Prop := cutF [] s.data.toList = outs ++ cutF b (s.data.toList.drop k) ∧ outs.length ≤ k ∧ b.length ≤ k
theorem CutS.one {s : ByteArray} {outs : List (List UInt8)} {b : List UInt8} {k : Nat} (h : CutS s outs b k) (hk : k < s.size) (h44 : s[k] ≠ 44) (h92 : s[k] ≠ 92 ∨ k + 1 = s.size) : CutS s outs (b ++ [s[k]]) (k + 1) := by
  refine ⟨?_, by have := h.2.1; omega, by have := h.2.2; simp; omega⟩
  rw [h.1, drop_at s k hk]
  rcases he : s.data.toList.drop (k + 1) with _ | ⟨d, l⟩
  · rw [cutF_one, if_neg h44, cutF_nil]
  · have hne : s[k] ≠ 92 := by
      rcases h92 with h | h
      · exact h
      · rw [List.drop_eq_nil_of_le (by rw [size_len]; omega)] at he; cases he
    rw [cutF_two, if_neg hne, if_neg h44]
theorem CutS.comma {s : ByteArray} {outs : List (List UInt8)} {b : List UInt8} {k : Nat} (h : CutS s outs b k) (hk : k < s.size) (h44 : s[k] = 44) : CutS s (outs ++ [b]) [] (k + 1) := by
  refine ⟨?_, by have := h.2.1; simp; omega, by simp⟩
  rw [h.1, drop_at s k hk]
  rcases he : s.data.toList.drop (k + 1) with _ | ⟨d, l⟩
  · rw [cutF_one, if_pos h44, cutF_nil]; simp
  · rw [cutF_two, if_neg (by rw [h44]; decide), if_pos h44]; simp
theorem CutS.two {s : ByteArray} {outs : List (List UInt8)} {b : List UInt8} {k : Nat} (h : CutS s outs b k) (hk : k < s.size) (hk1 : k + 1 < s.size) (h92 : s[k] = 92) : CutS s outs (b ++ [s[k], s[k + 1]]) (k + 2) := by
  refine ⟨?_, by have := h.2.1; omega, by have := h.2.2; simp; omega⟩
  rw [h.1, drop_at s k hk, drop_at s (k + 1) hk1, cutF_two, if_pos h92]
theorem CutS.last {s : ByteArray} {outs : List (List UInt8)} {b : List UInt8} {k : Nat} (h : CutS s outs b k) (hk : ¬ k < s.size) : cutF [] s.data.toList = outs ++ [b] := by
  rw [h.1, List.drop_eq_nil_of_le (by rw [size_len]; omega), cutF_nil]
end Go.Proofs.Ytjajpdghamecoaa
/- Reading names: l02Cut of the specification. -/
namespace Go.Proofs.Ytjajpdghamecoaa
open Go.RowKit
attribute [local go_sem ↓] Go.wp_at_zero Go.wp_at_succ

theorem wpl_world {P : Program} {ops : Array Oper} {Q : Exit → Act → World → Prop} {l : List Oper} {a : Act} {w : World} (R : World → Prop) (h : R w) (k : ∀ W, R W → wpList P ops Q l a W) : wpList P ops Q l a w := k w h
theorem made2 (w : World) : ((w.alloc (.cells #[] 9)).alloc (.cells #[] 5)).ownsRow w.heap.size 5 1 (.slice (some ⟨w.heap.size + 1, 0, none⟩) 0 0) 0 (bs []) := by
  have h := World.ownsRow_made (base := w.heap.size) (e := 5) (size := 1) (w.alloc (.cells #[] 9)) #[] 0 (by simp) (by unfold maxLen; omega) rfl
  rw [World.size_alloc] at h; exact h
set_option maxRecDepth 100000 in
set_option maxHeartbeats 2000000 in
theorem l02Cut_any (s : ByteArray) (w : World) (hs : s.size ≤ 8000) :
    Calls Try.prog 97 #[.string s] w fun e w' => (∃ v, e = .returned v ∧ w'.ownsRow w.heap.size 9 1 v (tss (cutF [] s.data.toList)).length (ss (tss (cutF [] s.data.toList)))) ∧ Below w.heap.size w w' := by
  go_enter Try.func97, Try.ntmps97
  go_wp2
  go_loopw [3, 4, 5] (fun v u i wr => ∃ (k : Nat) (outs : List (List UInt8)) (b : List UInt8), k ≤ s.size ∧ i = .int .i64 k ∧ CutS s outs b k ∧ wr.ownsRow w.heap.size 9 1 v (tss outs).length (ss (tss outs)) ∧ wr.ownsRow w.heap.size 5 1 u b.length (bs b) ∧ Below w.heap.size w wr) (fun _ _ i _ => s.size - (intOf i).toNat)
  case atStart => exact ⟨0, [], [], Nat.zero_le _, rfl, ⟨by simp, by simp, by simp⟩, (World.ownsRow_made _ _ 0 (Nat.le_refl _) (by unfold maxLen; omega) rfl).alloc _, made2 w, more (more (Below.refl _ _) _) _⟩
  case round =>
    obtain ⟨k, outs, b, hk, rfl, hC, hv, hu, hbel⟩ := hrel
    have hlo : (tss outs).length ≤ 8000 := by have := hC.2.1; rw [tss_len]; omega
    have hlb : b.length ≤ 8000 := by have := hC.2.2; omega
    have HC := Lib.hid hC; have HV := Lib.hid hv; have HU := Lib.hid hu
    have HA := Lib.hid (own_apart hv hu (by decide))
    have HA' := Lib.hid (own_apart hu hv (by decide))
    clear hC hv hu
    have hsz := hbel.size
    by_cases hlt : k < s.size
    · by_cases h92 : (s[k].toNat : Int) = 92
      · have hb1 : ((s[k].toNat : Int) == 92) = true := by rw [h92]; rfl
        have hb2 : ((s[k].toNat : Int) == 44) = false := by rw [h92]; rfl
        have E92 := Lib.hid (nat_of_u8 (n := 92) h92 (by omega))
        clear h92
        by_cases hl2 : k + 1 < s.size
        · have HN := Lib.hid (HC.out.two hlt hl2 E92.out)
          have g0 : (0 : Int) ≤ (k : Int) := by omega
          have g1 : (k : Int) < (s.size : Int) := by omega
          have g2 : (0 : Int) ≤ (k : Int) + 1 := by omega
          have g3 : (k : Int) + 1 < (s.size : Int) := by omega
          have g4 : ((k : Int) + 1).toNat = k + 1 := by omega
          go_wp2_with fail
          have g5 : IntKind.i64.wrap ((k : Int) + 1) = (k : Int) + 1 := IntWalk.i64_in _ (by omega)
          go_region_held3 (fun _ => True) (trivial)
            (first | (refine step_two w.heap.size (by rfl) _ _ (by rfl) _ b (by rfl) HU.out _ _ (by rfl) (Nat.le_trans hlb (by omega)) hsz hbel ?_; intro g cp w1 hown1 hbel1 hg1) | (fail "none"))
          all_goals
            have HV1 := Lib.hid ((HV.out.alloc (.cells #[.int .u8 (s[k].toNat : Int), .int .u8 (s[k + 1].toNat : Int)] 5)).kept hg1 HA'.out)
            have HU1 := Lib.hid hown1
            clear hown1 hg1 g5
            go_wp2
            go_roundw
            case rel => exact ⟨k + 2, outs, b ++ [s[k], s[k + 1]], by omega, by go_num, HN.out, HV1.out, HU1.out, hbel1⟩
            case measure => simp [intOf]; omega
        · have HN := Lib.hid (HC.out.one hlt (by rw [E92.out]; decide) (.inr (by omega)))
          go_wp2_with (first | (at_builtin; refine append_byte2 w.heap.size rfl _ _ rfl _ b rfl HU.out s[k] _ rfl rfl (by omega) hsz hbel ?_; intro v' w1 hown1 hbel1 hg1; have HV1 := Lib.hid ((HV.out.alloc _).kept hg1 HA'.out); have HU1 := Lib.hid hown1; clear hown1 hg1) | (fail "none"))
          go_roundw
          case rel => exact ⟨k + 1, outs, b ++ [s[k]], by omega, by go_num, HN.out, HV1.out, HU1.out, hbel1⟩
          case measure => simp [intOf]; omega
      · have hb1 : ((s[k].toNat : Int) == 92) = false := by rw [beq_eq_false_iff_ne]; exact h92
        have N92 : Hid (s[k] ≠ 92) := Lib.hid (fun e => h92 (by rw [e]; rfl))
        clear h92
        by_cases h44 : (s[k].toNat : Int) = 44
        · have hb2 : ((s[k].toNat : Int) == 44) = true := by rw [h44]; rfl
          have HN := Lib.hid (HC.out.comma hlt (nat_of_u8 (n := 44) h44 (by omega)))
          clear h44
          have hcv := fun (W : World) (h : W.ownsRow w.heap.size 5 1 u4 b.length (bs b)) => str_own W _ _ _ h
          have hcv0 := hcv wr HU.out
          clear hcv
          go_wp2_with (first | (at_builtin; refine append_str w.heap.size rfl _ _ rfl _ (tss outs) rfl HV.out _ rfl (by omega) hsz hbel ?_; intro v' w1 hown1 hbel1 hsz1 hat1 hg1; have HV1 := Lib.hid hown1; clear hown1 hg1 hat1) | (fail "none"))
          go_roundw
          case rel => exact ⟨k + 1, outs ++ [b], [], by omega, by go_num, HN.out, by rw [tss_snoc]; exact HV1.out.alloc _, World.ownsRow_made _ _ 0 hsz1 (by unfold maxLen; omega) rfl, more hbel1 _⟩
          case measure => simp [intOf]; omega
        · have hb2 : ((s[k].toNat : Int) == 44) = false := by rw [beq_eq_false_iff_ne]; exact h44
          have HN := Lib.hid (HC.out.one hlt (fun e => h44 (by rw [e]; rfl)) (.inl N92.out))
          clear h44
          go_wp2_with (first | (at_builtin; refine append_byte2 w.heap.size rfl _ _ rfl _ b rfl HU.out s[k] _ rfl rfl (by omega) hsz hbel ?_; intro v' w1 hown1 hbel1 hg1; have HV1 := Lib.hid ((HV.out.alloc _).kept hg1 HA'.out); have HU1 := Lib.hid hown1; clear hown1 hg1) | (fail "none"))
          go_roundw
          case rel => exact ⟨k + 1, outs, b ++ [s[k]], by omega, by go_num, HN.out, HV1.out, HU1.out, hbel1⟩
          case measure => simp [intOf]; omega
    · have HE := Lib.hid (HC.out.last hlt)
      have hcv0 := str_own wr _ _ _ HU.out
      go_wp2_with (first | (at_builtin; refine append_str w.heap.size rfl _ _ rfl _ (tss outs) rfl HV.out _ rfl (by omega) hsz hbel ?_; intro v' w1 hown1 hbel1 hsz1 hat1 hg1; have HV1 := Lib.hid hown1; clear hown1 hg1 hat1) | (fail "none"))
      go_ret
      exact ⟨⟨_, rfl, by rw [HE.out, tss_snoc]; exact HV1.out⟩, hbel1⟩
end Go.Proofs.Ytjajpdghamecoaa
/- Reading names: l02Rdn of the specification. -/
namespace Go.Proofs.Ytjajpdghamecoaa
open Go.RowKit
attribute [local go_sem ↓] Go.wp_at_zero Go.wp_at_succ

theorem unesc2_one (c : UInt8) : unesc2 [c] = [c] := by rw [unesc2]
theorem unesc2_two (c d : UInt8) (l : List UInt8) : unesc2 (c :: d :: l) = if c = 92 then d :: unesc2 l else c :: unesc2 (d :: l) := by rw [unesc2]
def No61 (s : ByteArray) (k : Nat) : Prop := ∀ c ∈ s.data.toList.take k, c ≠ 61
theorem No61.step {s : ByteArray} {k : Nat} (h : No61 s k) (hk : k < s.size) (hc : s[k] ≠ 61) : No61 s (k + 1) := by
  intro c hm
  rw [take_snoc s k hk, List.mem_append] at hm
  rcases hm with hm | hm
  · exact h c hm
  · simp at hm; subst hm; exact hc
theorem No61.none {s : ByteArray} {k : Nat} (h : No61 s k) (hk : ¬ k < s.size) : rdn2 s.data.toList = (toS [], toS []) := by
  unfold rdn2
  rw [if_neg]
  intro hm
  have : s.data.toList.take k = s.data.toList := List.take_of_length_le (by rw [size_len]; omega)
  exact h 61 (by rw [this]; exact hm) rfl
theorem No61.some {s : ByteArray} {k : Nat} (h : No61 s k) (hk : k < s.size) (hc : s[k] = 61) : rdn2 s.data.toList = (toS (s.data.toList.take k), toS (unesc2 (s.data.toList.drop (k + 1)))) := by
  have e : s.data.toList = s.data.toList.take k ++ 61 :: s.data.toList.drop (k + 1) := by
    conv => lhs; rw [← List.take_append_drop k s.data.toList]
    rw [drop_at s k hk, hc]
  obtain ⟨h1, h2⟩ := takeWhile_name (l := s.data.toList.take k) (t := s.data.toList.drop (k + 1)) h
  unfold rdn2
  rw [if_pos (by rw [e]; simp)]
  rw [← e] at h1 h2
  rw [h1, h2]; simp
def UnB (s : ByteArray) (k : Nat) (pre : List UInt8) (j : Nat) : Prop := unesc2 (s.data.toList.drop (k + 1)) = pre ++ unesc2 (s.data.toList.drop j) ∧ pre.length ≤ j
theorem UnB.one {s : ByteArray} {k j : Nat} {pre : List UInt8} (h : UnB s k pre j) (hj : j < s.size) (hc : s[j] ≠ 92 ∨ j + 1 = s.size) : UnB s k (pre ++ [s[j]]) (j + 1) := by
  refine ⟨?_, by have := h.2; simp; omega⟩
  rw [h.1, drop_at s j hj]
  rcases he : s.data.toList.drop (j + 1) with _ | ⟨d, l⟩
  · rw [unesc2_one]; simp [unesc2]
  · have hne : s[j] ≠ 92 := by
      rcases hc with h | h
      · exact h
      · rw [List.drop_eq_nil_of_le (by rw [size_len]; omega)] at he; cases he
    rw [unesc2_two, if_neg hne]; simp
theorem UnB.two {s : ByteArray} {k j : Nat} {pre : List UInt8} (h : UnB s k pre j) (hj : j < s.size) (hj1 : j + 1 < s.size) (hc : s[j] = 92) : UnB s k (pre ++ [s[j + 1]]) (j + 2) := by
  refine ⟨?_, by have := h.2; simp; omega⟩
  rw [h.1, drop_at s j hj, drop_at s (j + 1) hj1, unesc2_two, if_pos hc]; simp
theorem UnB.last {s : ByteArray} {k j : Nat} {pre : List UInt8} (h : UnB s k pre j) (hj : ¬ j < s.size) : unesc2 (s.data.toList.drop (k + 1)) = pre := by
  rw [h.1, List.drop_eq_nil_of_le (by rw [size_len]; omega)]; simp [unesc2]
/-- two cells of block R that may be written -/
theorem two_new {w wr : World} {a b : Value} {T : TypeId} (hb : Below (w.heap.size + 1) (w.alloc (.cells #[a, b] T)) wr) :
    (wr.cell? ⟨w.heap.size, 0, none⟩ = some a ∧ wr.cell? ⟨w.heap.size, 1, none⟩ = some b) ∧ wr.frozen? ⟨w.heap.size, 0, none⟩ = false ∧ wr.frozen? ⟨w.heap.size, 1, none⟩ = false := by
  have hblk : wr.heap[w.heap.size]? = some (.cells #[a, b] T) := by rw [hb.block _ (by omega)]; exact heap_alloc_new w _
  refine ⟨⟨?_, ?_⟩, ?_, ?_⟩
  all_goals first | (unfold World.cell?; rw [hblk]; rfl) | (unfold World.frozen?; rw [hblk]; rfl)
theorem below_one {w wr : World} {o : Obj} (hb : Below (w.heap.size + 1) (w.alloc o) wr) : Below w.heap.size w wr := (more (Below.refl _ _) o).trans (hb.mono (by omega))
theorem made3 (w : World) (o : Obj) : ((w.alloc o).alloc (.cells #[] 5)).ownsRow (w.heap.size + 1) 5 1 (.slice (some ⟨w.heap.size + 1, 0, none⟩) 0 0) 0 (bs []) := by
  have h := World.ownsRow_made (base := w.heap.size + 1) (e := 5) (size := 1) (w.alloc o) #[] 0 (by simp) (by unfold maxLen; omega) rfl
  rw [World.size_alloc] at h; exact h
set_option maxRecDepth 100000 in
set_option maxHeartbeats 2000000 in
theorem l02Rdn_any (s : ByteArray) (w : World) (hs : s.size ≤ 8000) :
    Calls Try.prog 98 #[.string s] w fun e w' => e = .returned (.agg #[.string (rdn2 s.data.toList).1, .string (rdn2 s.data.toList).2]) ∧ Below w.heap.size w w' := by
  go_enter Try.func98, Try.ntmps98
  go_wp2
  go_loop [3] (fun i => ∃ k : Nat, k ≤ s.size ∧ i = .int .i64 k ∧ No61 s k) (fun i => s.size - (intOf i).toNat)
  case atStart => exact ⟨0, Nat.zero_le _, rfl, by unfold No61; simp⟩
  case round =>
    obtain ⟨k, hk, rfl, hN⟩ := hrel
    have HN := Lib.hid hN; clear hN
    by_cases hlt : k < s.size
    · by_cases h61 : (s[k].toNat : Int) = 61
      · have hb1 : ((s[k].toNat : Int) != 61) = false := by rw [h61]; rfl
        have HR := Lib.hid (HN.out.some hlt (nat_of_u8 (n := 61) h61 (by omega)))
        have hb2 : ((k : Int) == (s.size : Int)) = false := by rw [beq_eq_false_iff_ne]; omega
        clear h61
        go_wp2
        go_loopw [4, 5] (fun v i wr => ∃ (j : Nat) (pre : List UInt8), j ≤ s.size ∧ i = .int .i64 j ∧ UnB s k pre j ∧ wr.ownsRow (w.heap.size + 1) 5 1 v pre.length (bs pre) ∧ Below (w.heap.size + 1) (w.alloc (.cells #[.string ByteArray.empty, .string ByteArray.empty] 61)) wr) (fun _ i _ => s.size - (intOf i).toNat)
        case atStart => exact ⟨k + 1, [], by omega, by go_num, ⟨by simp, by simp⟩, made3 w _, (Below.refl _ _).alloc (by simp) _⟩
        case round =>
          obtain ⟨j, pre, hj, rfl, hU, hown, hbel⟩ := hrel
          have hpl := hU.2
          have HU := Lib.hid hU; clear hU
          have hsz : w.heap.size + 1 ≤ wr.heap.size := by have := hbel.size; simpa using this
          by_cases hjl : j < s.size
          · by_cases h92 : (s[j].toNat : Int) = 92
            · have hb3 : ((s[j].toNat : Int) == 92) = true := by rw [h92]; rfl
              have E92 := Lib.hid (nat_of_u8 (n := 92) h92 (by omega))
              clear h92
              by_cases hj1 : j + 1 < s.size
              · have HM := Lib.hid (HU.out.two hjl hj1 E92.out)
                go_wp2_with (first | (at_builtin; refine append_byte (w.heap.size + 1) rfl _ _ rfl _ pre rfl hown s[j + 1] _ rfl rfl (by omega) hsz hbel ?_; intro v' w1 hown1 hbel1 hsz1) | (fail "none"))
                go_roundw
                case rel => exact ⟨j + 2, _, by omega, by go_num, HM.out, hown1, hbel1⟩
                case measure => simp [intOf]; omega
              · have HM := Lib.hid (HU.out.one hjl (.inr (by omega)))
                go_wp2_with (first | (at_builtin; refine append_byte (w.heap.size + 1) rfl _ _ rfl _ pre rfl hown s[j] _ rfl rfl (by omega) hsz hbel ?_; intro v' w1 hown1 hbel1 hsz1) | (fail "none"))
                go_roundw
                case rel => exact ⟨j + 1, _, by omega, by go_num, HM.out, hown1, hbel1⟩
                case measure => simp [intOf]; omega
            · have hb3 : ((s[j].toNat : Int) == 92) = false := by rw [beq_eq_false_iff_ne]; exact h92
              have HM := Lib.hid (HU.out.one hjl (.inl (fun e => h92 (by rw [e]; rfl))))
              clear h92
              go_wp2_with (first | (at_builtin; refine append_byte (w.heap.size + 1) rfl _ _ rfl _ pre rfl hown s[j] _ rfl rfl (by omega) hsz hbel ?_; intro v' w1 hown1 hbel1 hsz1) | (fail "none"))
              go_roundw
              case rel => exact ⟨j + 1, _, by omega, by go_num, HM.out, hown1, hbel1⟩
              case measure => simp [intOf]; omega
          · have HL := Lib.hid (HU.out.last hjl)
            have hcv := str_own wr.drew _ _ _ hown.drew
            obtain ⟨⟨c0, c1⟩, f0, f1⟩ := two_new hbel
            have HX := Lib.hid (ext_take s k)
            have HB := Lib.hid hbel
            clear hbel hown
            go_wp2_with fail
            go_region
            go_wp2
            have e1 : (rdn2 s.data.toList).1 = s.extract 0 k := by rw [HR.out, HX.out]
            have e2 : (rdn2 s.data.toList).2 = ⟨pre.toArray⟩ := by rw [HR.out, HL.out]; rfl
            rw [e1, e2]
            refine bodyPost_ret (v := .agg #[.string (s.extract 0 k), .string ⟨pre.toArray⟩]) (by simp [results, Try.results98, go_sem, c0, c1]) rfl ⟨rfl, ?_⟩
            exact (((below_one HB.out).setCell (Nat.le_refl _) _).setCell (Nat.le_refl _) _).drew
      · have hb1 : ((s[k].toNat : Int) != 61) = true := by rw [bne_iff_ne]; exact h61
        have HM := Lib.hid (HN.out.step hlt (fun e => h61 (by rw [e]; rfl)))
        clear h61
        go_wp2
        go_round
        case rel => exact ⟨k + 1, by omega, by go_num, HM.out⟩
        case measure => simp [intOf]; omega
    · have HR := Lib.hid (HN.out.none hlt)
      have hb2 : ((k : Int) == (s.size : Int)) = true := by rw [beq_iff_eq]; omega
      go_wp2
      refine bodyPost_ret (v := .agg #[.string (rdn2 s.data.toList).1, .string (rdn2 s.data.toList).2]) (by rw [HR.out]; simp [results, Try.results98, go_sem]; rfl) rfl ⟨rfl, ?_⟩
      exact (Below.refl _ _).alloc (Nat.le_refl _) _
end Go.Proofs.Ytjajpdghamecoaa
/- DnParent and DnJoin: what the texts of the program and of the specification return. -/
namespace Go.Proofs.Ytjajpdghamecoaa
open Go.RowKit
attribute [local go_sem ↓] Go.wp_at_zero Go.wp_at_succ

theorem own_mono {w : World} {B B' e z n : Nat} {v : Value} {xs : List Value} (h : w.ownsRow B e z v n xs) (hB : B' ≤ B) : w.ownsRow B' e z v n xs := by
  refine ⟨h.1, ?_⟩
  rcases h.2 with h | ⟨g, cap, cur, h1, h2, h3⟩
  · exact .inl h
  · exact .inr ⟨g, cap, cur, h1, Nat.le_trans hB h2, h3⟩
/-- a new name is returned -/
def GivesDn (w : World) (d : RdnL) (e : Ending) (w' : World) : Prop := (∃ v, e = .returned v ∧ w'.ownsRow w.heap.size 61 2 v d.length (rs d)) ∧ Below w.heap.size w w'
theorem own_nil (w : World) (B : Nat) : w.ownsRow B 61 2 (.slice none 0 0) 0 (rs []) := ⟨rfl, .inl ⟨rfl, rfl⟩⟩
theorem dn_cells {w : World} {b off : Nat} {d : RdnL} (h : DnAt w (some ⟨b, off, none⟩) d) : ∀ j u, (rs d)[j]? = some u → w.cell? ((⟨b, off, none⟩ : Addr).add j) = some u := by
  intro j u hu
  have hj : j < (rs d).length := by
    rcases Nat.lt_or_ge j (rs d).length with h | h
    · exact h
    · rw [List.getElem?_eq_none h] at hu; cases hu
  rw [rs_length] at hj
  obtain ⟨b', off', e, _, c1, c2⟩ := h.at (k := j / 2) (by omega)
  cases e
  have ea : (⟨b, off, none⟩ : Addr).add j = ⟨b, off + j, none⟩ := by unfold Addr.add; split <;> simp_all
  rw [ea]
  have hg := rs_get d (j / 2) (by omega)
  rcases Nat.mod_two_eq_zero_or_one j with hm | hm
  · have ej : j = j / 2 * 2 := by omega
    rw [ej] at hu ⊢
    rw [hg.1] at hu
    rw [← hu]; exact c1
  · have ej : j = j / 2 * 2 + 1 := by omega
    rw [ej] at hu ⊢
    rw [hg.2] at hu
    rw [← hu, ← Nat.add_assoc]; exact c2
theorem rs_one (d : RdnL) : ∀ u ∈ rs d, u.oneCell' = true := by
  intro u hu
  unfold rs at hu
  rw [List.mem_flatMap] at hu
  obtain ⟨r, _, hr⟩ := hu
  simp at hr
  rcases hr with rfl | rfl <;> rfl
theorem rs_append (a b : RdnL) : rs (a ++ b) = rs a ++ rs b := by unfold rs; rw [List.flatMap_append]
/-- append(v, dn...) onto a row that the call owns -/
theorem append_dn {ops : Array Oper} {rest : List Oper} {o : Oper} {a : Act} {Q : Exit → Act → World → Prop} {w0 wr : World} (B : Nat) (hgd : o.guard = none) (s x : Operand)
    (ho : o.op = .call { callee := .builtin .append, args := #[s, x], argTypes := #[23, 23] }) (v : Value) (pre : RdnL) (hs : a.eval s = v) (hown : wr.ownsRow B 61 2 v pre.length (rs pre))
    (ao : Option Addr) (d : RdnL) (c n : Nat) (hn : n = d.length) (hx : a.eval x = .slice ao n c) (hd : DnAt wr ao d) (hc : ao = none → c = 0) (hlen : pre.length + d.length ≤ 1000000000) (hB : B ≤ wr.heap.size) (hbel : Below B w0 wr)
    (h : ∀ v' w', w'.ownsRow B 61 2 v' (pre ++ d).length (rs (pre ++ d)) → Below B w0 w' → wpList Try.prog ops Q rest (a.put o.dst v') w') :
    wpList Try.prog ops Q (o :: rest) a wr := by
  obtain ⟨i0, hi, hz0, hz1, hz2⟩ := info_parts Try.info61
  subst hn
  rcases ao with _ | ad
  · have hd0 : d = [] := by
      rcases hd with h | ⟨b, off, e, _⟩
      · exact h
      · cases e
    subst hd0
    have := hc rfl
    subst this
    refine wpList_append_own_none hgd s x 23 ho B 61 i0 2 Try.underlying23 hi v pre.length (rs pre) hs hown hx (h v wr (by rw [List.append_nil]; exact hown) hbel)
  · have hnews : ∀ j u, (rs d)[j]? = some u → wr.cell? (ad.add j) = some u := by
      rcases hd with hd | ⟨b, off, e, h2, h3⟩
      · subst hd; intro j u hu; simp [rs] at hu
      · cases e; exact dn_cells (.inr ⟨b, off, rfl, h2, h3⟩)
    refine wpList_append_own _ hgd s x 23 ho B 61 i0 _ 2 32 Try.underlying23 hi hz0 hz1 hz2 rfl (by decide) v pre.length (rs pre) hs hown ad d.length c (rs d) hx (rs_length d) hnews (rs_one d) ?_ ?_ hB ?_
    · unfold maxLen; omega
    · omega
    · intro v' w' h1 h2 h3
      refine h v' w' ?_ (hbel.grown h2 hB (fun k hk => (hown.lt k hk).1))
      rw [rs_append, List.length_append]; exact h1

theorem cut27s (w : World) (ao : Option Addr) (d : RdnL) (k cap : Nat) (hk : k ≤ d.length) (h0 : d.length ≠ 0) (hc : d.length ≤ cap) (hd : DnAt w ao d) :
    ∃ ad, (∀ W : World, (Instr.slice 23 (.slice ao d.length cap) (some (.int .i64 (k : Int))) none none).run Try.prog W = .ok (.slice (some ad) (d.length - k) (cap - k)) W) ∧ DnAt w (some ad) (d.drop k) := by
  obtain ⟨ao', h1, h2⟩ := cut27 w ao d k cap hk hc hd
  obtain ⟨b, off, rfl, hb, _⟩ := hd.at (k := 0) (by omega)
  have h3 := h1 w
  rw [run_slice_l w 23 _ d.length cap (by rw [Try.elem23]; exact Try.underlying23) .i64 (k : Int) (by omega) (by omega), Try.elem23, Try.size61] at h3
  rcases ao' with _ | ad
  · simp [Result.andThen, sliced] at h3
    split at h3 <;> simp at h3
  · exact ⟨ad, h1, h2⟩
def parentL (d : RdnL) : RdnL := if dnB d = true then d.drop 1 else []
theorem parent_no {d : RdnL} (h : dnB d = false ∨ d.length = 0) : parentL d = [] := by
  unfold parentL
  rcases h with h | h
  · rw [h]; rfl
  · rw [List.length_eq_zero_iff.1 h]; simp
theorem parent_yes {d : RdnL} (h : dnB d = true) : parentL d = d.drop 1 := by unfold parentL; rw [if_pos h]
end Go.Proofs.Ytjajpdghamecoaa
/- DnJoin: what the texts of the program and of the specification return. -/
namespace Go.Proofs.Ytjajpdghamecoaa
open Go.RowKit
attribute [local go_sem ↓] Go.wp_at_zero Go.wp_at_succ

theorem grown_set (w : World) (q j : Nat) (v : Value) : w.grownBy (w.setCell ⟨q, j, none⟩ v) (some q) :=
  ⟨rfl, rfl, rfl, by simp [World.setCell], fun k _ hk => Below.heap_setCell _ _ _ _ (fun e => hk (by simp [e]))⟩
theorem own_set {w : World} {B e z n q j : Nat} {v u : Value} {xs : List Value} (h : w.ownsRow B e z v n xs) (hq : q < B) : (w.setCell ⟨q, j, none⟩ u).ownsRow B e z v n xs :=
  h.kept (grown_set w q j u) (by
    cases hv : v.ownBlock with
    | none => exact .inl rfl
    | some g => exact .inr (fun hh => by have := (h.lt g hv).1; have := Option.some.inj hh; omega))
/-- four cells, of blocks R and R + 1, that are known and may be written -/
def Four (w : World) (R : Nat) (a b x y : Value) : Prop :=
  ((w.cell? ⟨R, 0, none⟩ = some a ∧ w.cell? ⟨R, 1, none⟩ = some b ∧ w.cell? ⟨R + 1, 0, none⟩ = some x ∧ w.cell? ⟨R + 1, 1, none⟩ = some y) ∧
    (w.frozen? ⟨R, 0, none⟩ = false ∧ w.frozen? ⟨R, 1, none⟩ = false ∧ w.frozen? ⟨R + 1, 0, none⟩ = false ∧ w.frozen? ⟨R + 1, 1, none⟩ = false)) ∧ R + 1 < w.heap.size
theorem Four.keep {W w1 : World} {R : Nat} {a b x y : Value} (h : Four W R a b x y) (hb : Below W.heap.size W w1) : Four w1 R a b x y := by
  obtain ⟨⟨⟨c0, c1, c2, c3⟩, ⟨f0, f1, f2, f3⟩⟩, hz⟩ := h
  exact ⟨⟨⟨(hb.cell (p := ⟨R, 0, none⟩) (by show R < _; omega)).trans c0, (hb.cell (p := ⟨R, 1, none⟩) (by show R < _; omega)).trans c1, (hb.cell (p := ⟨R + 1, 0, none⟩) hz).trans c2, (hb.cell (p := ⟨R + 1, 1, none⟩) hz).trans c3⟩,
    ⟨(hb.frozen (p := ⟨R, 0, none⟩) (by show R < _; omega)).trans f0, (hb.frozen (p := ⟨R, 1, none⟩) (by show R < _; omega)).trans f1, (hb.frozen (p := ⟨R + 1, 0, none⟩) hz).trans f2, (hb.frozen (p := ⟨R + 1, 1, none⟩) hz).trans f3⟩⟩, Nat.lt_of_lt_of_le hz hb.size⟩
theorem four_new (w : World) (a b x y : Value) (T U : TypeId) : Four ((w.alloc (.cells #[a, b] T)).alloc (.cells #[x, y] U)) w.heap.size a b x y := by
  obtain ⟨h1, h2, h3⟩ := keep22 (w := w) (W := ((w.alloc (.cells #[a, b] T)).alloc (.cells #[x, y] U))) (Below.refl _ _) rfl
  exact ⟨⟨h1, h2⟩, h3⟩

/-- a name and a code are returned -/
def GivesOut (w : World) (d : RdnL) (c : Int) (e : Ending) (w' : World) : Prop := (∃ v, e = .returned (.agg #[v, .int .i64 c]) ∧ w'.ownsRow w.heap.size 61 2 v d.length (rs d)) ∧ Below w.heap.size w w'
def joinC (r : ByteArray × ByteArray) (p : RdnL) : Int := if 400 < p.length then 2 else if (dnB p && rdnB r) = false then 1 else if 6 ≤ p.length then 9 else 0
def joinD (r : ByteArray × ByteArray) (p : RdnL) : RdnL := if joinC r p = 0 then r :: p else []
theorem join_cases (r : ByteArray × ByteArray) (p : RdnL) :
    (400 < p.length ∧ joinC r p = 2 ∧ joinD r p = []) ∨ (¬ 400 < p.length ∧ dnB p = false ∧ joinC r p = 1 ∧ joinD r p = []) ∨ (¬ 400 < p.length ∧ dnB p = true ∧ rdnB r = false ∧ joinC r p = 1 ∧ joinD r p = []) ∨
    (dnB p = true ∧ rdnB r = true ∧ p.length = 6 ∧ joinC r p = 9 ∧ joinD r p = []) ∨ (dnB p = true ∧ rdnB r = true ∧ p.length < 6 ∧ joinC r p = 0 ∧ joinD r p = r :: p) := by
  unfold joinD
  unfold joinC
  by_cases h1 : 400 < p.length
  · left; simp [h1]
  · right
    cases h2 : dnB p
    · left; simp [h1]
    · right
      have h6 := dnB_six h2
      cases h3 : rdnB r
      · left; simp [h1]
      · right
        by_cases h4 : 6 ≤ p.length
        · left; simp [h1, h4]; omega
        · right; simp [h1, h4]; omega
theorem own_any_nil (w : World) : w.ownsRow w.heap.size 61 2 (.slice none 0 0) 0 (rs []) := own_nil _ _

end Go.Proofs.Ytjajpdghamecoaa
/- DnJoin: what the specification's text returns. -/
namespace Go.Proofs.Ytjajpdghamecoaa
open Go.RowKit

theorem dnB_one (r : ByteArray × ByteArray) : dnB [r] = rdnB r := by unfold dnB; simp
theorem one_at (w : World) (A V : ByteArray) : DnAt (w.alloc (.cells #[.string A, .string V] 61)) (some ⟨w.heap.size, 0, none⟩) [(A, V)] :=
  .inr ⟨w.heap.size, 0, rfl, by simp, fun i hi => by
    match i, hi with
    | 0, _ => exact ⟨by simp, by simp⟩⟩
theorem own_one (w : World) (A V : ByteArray) (B : Nat) (hB : B ≤ w.heap.size) : (w.alloc (.cells #[.string A, .string V] 61)).ownsRow B 61 2 (.slice (some ⟨w.heap.size, 0, none⟩) 1 1) [(A, V)].length (rs [(A, V)]) :=
  ⟨rfl, .inr ⟨w.heap.size, 1, #[.string A, .string V], rfl, hB, heap_alloc_new w _, by simp, by unfold maxLen; simp, rfl, rfl⟩⟩
end Go.Proofs.Ytjajpdghamecoaa
/- Reading names: l02Read of the specification; DnRead. -/
namespace Go.Proofs.Ytjajpdghamecoaa
open Go.RowKit
attribute [local go_sem ↓] Go.wp_at_zero Go.wp_at_succ

theorem append_rdn2 {ops : Array Oper} {rest : List Oper} {o : Oper} {a : Act} {Q : Exit → Act → World → Prop} {w0 wr : World} (B : Nat) (hgd : o.guard = none) (s x : Operand)
    (ho : o.op = .call { callee := .builtin .append, args := #[s, x], argTypes := #[23, 23] }) (v : Value) (pre : RdnL) (hs : a.eval s = v) (hown : wr.ownsRow B 61 2 v pre.length (rs pre))
    (A V : ByteArray) (hx : a.eval x = .slice (some ⟨wr.heap.size, 0, none⟩) 1 1) (hlen : pre.length ≤ 1000000000) (hB : B ≤ wr.heap.size) (hbel : Below B w0 wr)
    (h : ∀ v' w', w'.ownsRow B 61 2 v' (pre ++ [(A, V)]).length (rs (pre ++ [(A, V)])) → Below B w0 w' → (wr.alloc (.cells #[.string A, .string V] 61)).grownBy w' v.ownBlock → wpList Try.prog ops Q rest (a.put o.dst v') w') :
    wpList Try.prog ops Q (o :: rest) a (wr.alloc (.cells #[.string A, .string V] 61)) := by
  obtain ⟨i0, hi, hz0, hz1, hz2⟩ := info_parts Try.info61
  refine wpList_append_lies _ hgd s x 23 ho B 61 i0 _ 2 32 Try.underlying23 hi hz0 hz1 hz2 rfl (by decide) v pre.length (rs pre) hs (hown.alloc _) ⟨wr.heap.size, 0, none⟩ 1 1 [.string A, .string V] hx rfl (World.news_of_block (cs := #[.string A, .string V]) (t := 61) (fr := (0, 0)) (heap_alloc_new wr _)) ?_ (by omega) ?_ ?_ ?_ (wr.heap.size + 1) (by simp) ?_
  · intro u hu; simp at hu; rcases hu with rfl | rfl <;> rfl
  · unfold maxLen; omega
  · omega
  · simp; omega
  · intro g cap w' h1 h2 h3 h4
    refine h _ w' ?_ ((hbel.alloc hB _).grown h2 (by simp; omega) (fun k hk => (hown.lt k hk).1)) h2
    rw [rs_snoc]; simpa using h1
theorem cutF_part (n : Nat) : ∀ (b l : List UInt8), l.length ≤ n → ∀ x ∈ cutF b l, x.length ≤ b.length + l.length := by
  induction n with
  | zero =>
    intro b l hl x hx
    have : l = [] := List.eq_nil_of_length_eq_zero (by omega)
    subst this
    rw [cutF_nil] at hx; simp at hx; subst hx; simp
  | succ n ih =>
    intro b l hl x hx
    match l, hl, hx with
    | [], _, hx => rw [cutF_nil] at hx; simp at hx; subst hx; simp
    | [c], _, hx =>
      rw [cutF_one] at hx
      split at hx
      · simp at hx; rcases hx with rfl | rfl <;> simp
      · simp at hx; subst hx; simp
    | c :: d :: l, hl, hx =>
      rw [cutF_two] at hx
      simp only [List.length_cons] at hl ⊢
      split at hx
      · have := ih (b ++ [c, d]) l (by omega) x hx
        simp only [List.length_append, List.length_cons, List.length_nil] at this; omega
      · split at hx
        · rw [List.mem_cons] at hx
          rcases hx with rfl | hx
          · omega
          · have := ih [] (d :: l) (by simp only [List.length_cons]; omega) x hx
            simp only [List.length_cons, List.length_nil] at this; omega
        · have := ih (b ++ [c]) (d :: l) (by simp only [List.length_cons]; omega) x hx
          simp only [List.length_append, List.length_cons, List.length_nil] at this; omega
theorem cutF_count (n : Nat) : ∀ (b l : List UInt8), l.length ≤ n → (cutF b l).length ≤ l.length + 1 := by
  induction n with
  | zero =>
    intro b l hl
    have : l = [] := List.eq_nil_of_length_eq_zero (by omega)
    subst this
    rw [cutF_nil]; simp
  | succ n ih =>
    intro b l hl
    match l, hl with
    | [], _ => rw [cutF_nil]; simp
    | [c], _ => rw [cutF_one]; split <;> simp
    | c :: d :: l, hl =>
      rw [cutF_two]
      simp only [List.length_cons] at hl ⊢
      split
      · have := ih (b ++ [c, d]) l (by omega); omega
      · split
        · have := ih [] (d :: l) (by simp only [List.length_cons]; omega)
          simp only [List.length_cons] at this ⊢; omega
        · have := ih (b ++ [c]) (d :: l) (by simp only [List.length_cons]; omega)
          simp only [List.length_cons] at this; omega
def specD (l : List UInt8) : RdnL := (cutF [] l).map rdn2
theorem unesc2_len (n : Nat) : ∀ l : List UInt8, l.length ≤ n → (unesc2 l).length ≤ l.length := by
  induction n with
  | zero =>
    intro l hl
    have : l = [] := List.eq_nil_of_length_eq_zero (by omega)
    subst this; simp [unesc2]
  | succ n ih =>
    intro l hl
    match l, hl with
    | [], _ => simp [unesc2]
    | [c], _ => rw [unesc2_one]; simp
    | c :: d :: l, hl =>
      rw [unesc2_two]
      simp only [List.length_cons] at hl ⊢
      split
      · have := ih l (by omega); simp only [List.length_cons]; omega
      · have := ih (d :: l) (by simp only [List.length_cons]; omega); simp only [List.length_cons] at this ⊢; omega
theorem rdn2_len (l : List UInt8) : (rdn2 l).1.size ≤ l.length ∧ (rdn2 l).2.size ≤ l.length := by
  unfold rdn2
  split
  · refine ⟨by rw [toS_size]; exact takeWhile_len l, ?_⟩
    rw [toS_size]
    exact Nat.le_trans (unesc2_len _ _ (Nat.le_refl _)) (vlu_len l)
  · simp [toS_size]
theorem spec_fits (s : ByteArray) (hs : s.size ≤ 8000) (k : Nat) : Fits ((specD s.data.toList).take k) := by
  have hc := cutF_count _ [] s.data.toList (Nat.le_refl _)
  rw [size_len] at hc
  refine Fits.take ⟨by unfold specD; rw [List.length_map]; omega, fun r hr => ?_⟩ k
  unfold specD at hr
  obtain ⟨x, hx, rfl⟩ := List.mem_map.1 hr
  have h1 := cutF_part _ [] s.data.toList (Nat.le_refl _) x hx
  have h2 := rdn2_len x
  rw [size_len] at h1
  simp only [List.length_nil] at h1
  omega
theorem rdn1_len (l : List UInt8) : (rdn1 l).1.size ≤ l.length ∧ (rdn1 l).2.size ≤ l.length := by
  have hu : ∀ (b : Bool) (l : List UInt8), (unescF b l).length ≤ l.length := by
    intro b l
    induction l generalizing b with
    | nil => simp [unescF]
    | cons c l ih =>
      rw [unescF]
      split
      · have := ih true; rw [List.length_cons]; omega
      · have := ih false; rw [List.length_cons, List.length_cons]; omega
  exact ⟨by unfold rdn1; rw [toS_size]; exact takeWhile_len l, by unfold rdn1; rw [toS_size]; exact Nat.le_trans (hu _ _) (vlu_len l)⟩
theorem scan_fits (s : ByteArray) (hs : s.size ≤ 8000) : Fits (scanL s.data.toList) := by
  have hl := scanL_len s.data.toList
  rw [size_len] at hl
  have : ∀ n (l : List UInt8), l.length ≤ 8000 → ∀ r ∈ scanN n l, r.1.size ≤ 8000 ∧ r.2.size ≤ 8000 := by
    intro n
    induction n with
    | zero => intro l _ r hr; simp [scanN] at hr
    | succ n ih =>
      intro l hl r hr
      cases l with
      | nil => simp [scanN] at hr
      | cons c l =>
        simp only [scanN, List.mem_cons] at hr
        rcases hr with rfl | hr
        · have := rdn1_len ((c :: l).take (endF false (c :: l)))
          have h2 : ((c :: l).take (endF false (c :: l))).length ≤ (c :: l).length := List.length_take_le' ..
          omega
        · exact ih _ (by rw [List.length_drop]; omega) r hr
  refine ⟨by omega, fun r hr => ?_⟩
  have := this _ s.data.toList (by rw [size_len]; exact hs) r hr
  omega
end Go.Proofs.Ytjajpdghamecoaa
/- Reading names: l02Read and DnRead. -/
namespace Go.Proofs.Ytjajpdghamecoaa
open Go.RowKit
attribute [local go_sem ↓] Go.wp_at_zero Go.wp_at_succ

/-- the text of the name read is the text -/
def okB (s : ByteArray) : Bool := (dnTextS (specD s.data.toList)).toList == s.toList
def ReadS (w : World) (s : ByteArray) (e : Ending) (w' : World) : Prop :=
  (∃ v, e = .returned (.tuple #[v, .bool (okB s)]) ∧ w'.ownsRow w.heap.size 61 2 v (specD s.data.toList).length (rs (specD s.data.toList))) ∧ Below w.heap.size w w'
theorem spec_succ (s : ByteArray) (k : Nat) (h : k < (cutF [] s.data.toList).length) : (specD s.data.toList).take (k + 1) = (specD s.data.toList).take k ++ [rdn2 (cutF [] s.data.toList)[k]] := by
  rw [List.take_succ_eq_append_getElem (by unfold specD; simpa using h)]
  unfold specD
  rw [List.getElem_map]
set_option maxRecDepth 100000 in
set_option maxHeartbeats 2000000 in
theorem l02Read_some (s : ByteArray) (w : World) (hs : s.size ≤ 8000) (h0 : 0 < s.size) :
    Calls Try.prog 56 #[.string s] w fun e w' => ReadS w s e w' := by
  have hcn := cutF_count _ [] s.data.toList (Nat.le_refl _)
  rw [size_len] at hcn
  have hemp : s.toList.isEmpty = false := by
    rw [Lib.toList_data, List.isEmpty_eq_false_iff]
    intro h; have := size_len s; rw [h] at this; simp at this; omega
  have HF := Lib.hid (spec_fits s hs)
  go_enter Try.func56, Try.ntmps56
  go_wp2_with fail
  refine (l02Cut_any s _ hs).mono ?_
  rintro e w2 ⟨⟨l, rfl, hl⟩, hb2⟩
  obtain ⟨lo, lc, rfl⟩ := own_slice hl
  have hlen : (tss (cutF [] s.data.toList)).length = (cutF [] s.data.toList).length := tss_len _
  rw [hlen] at hl ⊢
  have HL := Lib.hid (own_mono (B' := w.heap.size) hl (by simp))
  have B2 := Lib.hid ((more (Below.refl w.heap.size w) (.cells #[] 61)).trans (hb2.mono (by simp)))
  have HO : Hid (w2.ownsRow w.heap.size 61 2 (.slice (some ⟨w.heap.size, 0, none⟩) 0 0) 0 (rs [])) := Lib.hid (own_below (World.ownsRow_made _ _ 0 (Nat.le_refl _) (by unfold maxLen; omega) rfl) hb2)
  clear hl hb2 hlen
  generalize hn : (cutF [] s.data.toList).length = n at *
  have Hn := Lib.hid hn; clear hn
  go_wp2_with fail
  go_loopw [4, 6] (fun v i wr => ∃ k : Nat, k ≤ n ∧ i = .int .i64 k ∧ wr.ownsRow w.heap.size 61 2 v ((specD s.data.toList).take k).length (rs ((specD s.data.toList).take k)) ∧ wr.ownsRow w.heap.size 9 1 (.slice lo n lc) n (ss (tss (cutF [] s.data.toList))) ∧ Below w.heap.size w wr) (fun _ i _ => n - (intOf i).toNat)
  case atStart => exact ⟨0, Nat.zero_le _, rfl, by rw [List.take_zero]; exact HO.out, HL.out, B2.out⟩
  case round =>
    clear HO HL B2
    obtain ⟨k, hk, rfl, hown, hl, hbel⟩ := hrel
    have hpl : ((specD s.data.toList).take k).length ≤ 8001 := by rw [List.length_take]; omega
    have hsz := hbel.size
    have HO := Lib.hid hown
    have HL := Lib.hid hl
    by_cases hlt : k < n
    · have hkl : k < (cutF [] s.data.toList).length := by have := Hn.out; omega
      have HN := Lib.hid (spec_succ s k hkl)
      obtain ⟨g, cp, hv, _, hg⟩ := hl.form (by omega)
      have e : lo = some ⟨g, 0, none⟩ := by injection hv
      subst e
      have hcell : wr.cell? ⟨g, k, none⟩ = some (.string (toS (cutF [] s.data.toList)[k])) := by
        have := hl.cells (g := g) rfl k (.string (toS (cutF [] s.data.toList)[k])) (by
          unfold ss tss; rw [List.getElem?_map, List.getElem?_map, List.getElem?_eq_getElem hkl]; rfl)
        rwa [add_plain] at this
      have hxs : (toS (cutF [] s.data.toList)[k]).size ≤ 8000 := by
        have := cutF_part _ [] s.data.toList (Nat.le_refl _) _ (List.getElem_mem hkl)
        rw [size_len] at this
        rw [toS_size]; simp only [List.length_nil] at this; omega
      have HR := Lib.hid (fun w => l02Rdn_any (toS (cutF [] s.data.toList)[k]) w hxs)
      rw [toS_list] at HR
      have HD : Hid (rdn2 (cutF [] s.data.toList)[k] = ((rdn2 (cutF [] s.data.toList)[k]).1, (rdn2 (cutF [] s.data.toList)[k]).2)) := Lib.hid rfl
      clear hown hl hv
      generalize rdn2 (cutF [] s.data.toList)[k] = r at *
      generalize toS (cutF [] s.data.toList)[k] = x at *
      generalize r.1 = A at *
      generalize r.2 = V at *
      generalize (specD s.data.toList).take k = pre at *
      go_wp2_with fail
      refine (HR.out _).mono ?_
      rintro e w3 ⟨rfl, hb3⟩
      have HO3 := Lib.hid (own_below HO.out hb3)
      have HL3 := Lib.hid (own_below HL.out hb3)
      have B3 := Lib.hid (hbel.trans (hb3.mono hsz))
      have HA := Lib.hid (own_apart HO3.out HL3.out (by decide))
      clear hb3 hcell
      go_wp2_with (first | (at_builtin; refine append_rdn2 w.heap.size rfl _ _ rfl _ pre rfl HO3.out A V rfl (by omega) B3.out.size B3.out ?_; intro v' w4 hown4 hbel4 hg4; have HO4 := Lib.hid hown4; have HL4 := Lib.hid ((HL3.out.alloc _).kept hg4 HA.out); clear hown4 hg4) | (fail "none"))
      go_roundw
      case rel => exact ⟨k + 1, by omega, by go_num, by rw [HN.out, HD.out]; exact HO4.out, HL4.out, hbel4⟩
      case measure => simp [intOf]; omega
    · have e : (specD s.data.toList).take k = specD s.data.toList := List.take_of_length_le (by unfold specD; rw [List.length_map, Hn.out]; omega)
      rw [e] at HO hown
      have HF2 : Hid (Fits (specD s.data.toList)) := Lib.hid (by have := HF.out k; rw [e] at this; exact this)
      have HOK : Hid (okB s = ((dnTextS (specD s.data.toList)).toList == s.toList)) := Lib.hid rfl
      obtain ⟨ao, ac, rfl⟩ := own_slice hown
      have HDN := Lib.hid (own_dn hown)
      clear e hpl hown hl
      generalize hD : specD s.data.toList = D at *
      have HDs := Lib.hid hD; clear hD
      go_wp2_with fail
      refine (SpecDnText_any _ _ _ _ HDN.out HF2.out).mono ?_
      rintro e w3 ⟨rfl, hb3⟩
      have HO3 := Lib.hid (own_below HO.out hb3)
      have B3 := Lib.hid (hbel.trans (hb3.mono hsz))
      clear hb3
      go_wp2
      go_ret2
      exact ⟨⟨.slice ao D.length ac, by rw [HOK.out]; rfl, by rw [HDs.out]; exact HO3.out⟩, B3.out⟩
end Go.Proofs.Ytjajpdghamecoaa
