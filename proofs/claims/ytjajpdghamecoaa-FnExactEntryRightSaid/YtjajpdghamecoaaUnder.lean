/- What is the same, and what is under what: what the texts return. -/
import Derived.Test.YtjajpdghamecoaaKey3
namespace Go.Proofs.Ytjajpdghamecoaa
open Go.RowKit

theorem dnB_all_of {d : RdnL} (h : dnB d = true) : d.all rdnB = true := by unfold dnB at h; simp only [Bool.and_eq_true] at h; exact h.2
theorem same_no {a b : RdnL} (h : dnB a = false ∨ dnB b = false) : dnSameB a b = false := by
  unfold dnSameB; rcases h with h | h <;> rw [h] <;> simp
theorem same_yes {a b : RdnL} (h1 : dnB a = true) (h2 : dnB b = true) : dnSameB a b = ((keyS a).toList == (keyS b).toList) := by
  unfold dnSameB; rw [h1, h2, key_same (dnB_all_of h1) (dnB_all_of h2)]; simp
set_option maxHeartbeats 1000000 in
theorem SpecDnSame_any (ao bo : Option Addr) (a b : RdnL) (ca cb : Nat) (w : World) (hda : DnAt w ao a) (hdb : DnAt w bo b) (hfa : Fits a) (hfb : Fits b) :
    Calls Try.prog 24 #[.slice ao a.length ca, .slice bo b.length cb] w fun e w' => e = .returned (.bool (dnSameB a b)) ∧ Below w.heap.size w w' := by
  have hla := hfa.1
  have hlb := hfb.1
  by_cases h4 : 400 < a.length
  · have HE := Lib.hid (same_no (a := a) (b := b) (.inl (dnB_long (by omega))))
    clear hda hdb hfa hfb
    go_enter Try.func24, Try.ntmps24
    go_wp2
    go_ret
    exact ⟨ret_bool HE.out.symm, Below.refl _ _⟩
  by_cases h5 : 400 < b.length
  · have HE := Lib.hid (same_no (a := a) (b := b) (.inr (dnB_long (by omega))))
    clear hda hdb hfa hfb
    go_enter Try.func24, Try.ntmps24
    go_wp2
    go_ret
    exact ⟨ret_bool HE.out.symm, Below.refl _ _⟩
  cases h1 : dnB a
  · have HE := Lib.hid (same_no (a := a) (b := b) (.inl h1))
    go_enter Try.func24, Try.ntmps24
    go_wp2_with fail
    refine (SpecDnRight_any _ _ _ _ hda hfa).mono ?_
    rintro e w1 ⟨rfl, hb1⟩
    rw [h1]
    go_wp2
    go_ret
    exact ⟨ret_bool HE.out.symm, hb1⟩
  cases h2 : dnB b
  · have HE := Lib.hid (same_no (a := a) (b := b) (.inr h2))
    go_enter Try.func24, Try.ntmps24
    go_wp2_with fail
    refine (SpecDnRight_any _ _ _ _ hda hfa).mono ?_
    rintro e w1 ⟨rfl, hb1⟩
    rw [h1]
    go_wp2_with fail
    refine (SpecDnRight_any _ _ _ _ (hdb.below hb1) hfb).mono ?_
    rintro e w2 ⟨rfl, hb2⟩
    rw [h2]
    go_wp2
    go_ret
    exact ⟨ret_bool HE.out.symm, hb1.trans (hb2.mono hb1.size)⟩
  · have HE := Lib.hid (same_yes h1 h2)
    have a6 := dnB_six h1
    have b6 := dnB_six h2
    go_enter Try.func24, Try.ntmps24
    go_wp2_with fail
    refine (SpecDnRight_any _ _ _ _ hda hfa).mono ?_
    rintro e w1 ⟨rfl, hb1⟩
    rw [h1]
    go_wp2_with fail
    refine (SpecDnRight_any _ _ _ _ (hdb.below hb1) hfb).mono ?_
    rintro e w2 ⟨rfl, hb2⟩
    rw [h2]
    have hb12 := hb1.trans (hb2.mono hb1.size)
    go_wp2_with fail
    refine (l02Key_any _ _ _ _ (hda.below hb12) hfa a6).mono ?_
    rintro e w3 ⟨rfl, hb3⟩
    have hb13 := hb12.trans (hb3.mono hb12.size)
    go_wp2_with fail
    refine (l02Key_any _ _ _ _ (hdb.below hb13) hfb b6).mono ?_
    rintro e w4 ⟨rfl, hb4⟩
    go_wp2
    go_ret
    exact ⟨ret_bool HE.out.symm, hb13.trans (hb4.mono hb13.size)⟩

theorem Try.elem23 : Try.prog.elem 23 = 61 := by kernel_rfl
theorem Try.size61 (w : World) : (sizeOf 61).run Try.prog w = .ok 2 w := by kernel_rfl
/-- dn[k:] -/
theorem cut27 (w : World) (ao : Option Addr) (d : RdnL) (k cap : Nat) (hk : k ≤ d.length) (hc : d.length ≤ cap) (hd : DnAt w ao d) :
    ∃ ao', (∀ W : World, (Instr.slice 23 (.slice ao d.length cap) (some (.int .i64 (k : Int))) none none).run Try.prog W = .ok (.slice ao' (d.length - k) (cap - k)) W) ∧ DnAt w ao' (d.drop k) := by
  refine ⟨if cap = k then ao else ao.map (·.add (k * 2)), fun W => ?_, ?_⟩
  · rw [run_slice_l W 23 ao d.length cap (by rw [Try.elem23]; exact Try.underlying23) .i64 (k : Int) (by omega) (by omega), Try.elem23, Try.size61]
    simp [Result.andThen, sliced]
  · by_cases h0 : d.length = k
    · exact .inl (List.drop_eq_nil_of_le (by omega))
    · rw [if_neg (by omega)]
      obtain ⟨b, off, rfl, hb, _⟩ := hd.at (k := 0) (by omega)
      refine .inr ⟨b, off + k * 2, ?_, hb, fun i hi => ?_⟩
      · simp [Addr.add]
      · rw [List.length_drop] at hi
        rw [List.getElem_drop]
        obtain ⟨b', off', e, _, c1, c2⟩ := hd.at (k := k + i) (by omega)
        cases e
        rw [show off + k * 2 + i * 2 = off + (k + i) * 2 by omega]
        exact ⟨c1, c2⟩

def underB (d b : RdnL) : Bool := dnB d && dnB b && decide (b.length ≤ d.length) && sameB (d.drop (d.length - b.length)) b
theorem under_no {d b : RdnL} (h : dnB d = false ∨ dnB b = false ∨ d.length < b.length) : underB d b = false := by
  unfold underB; rcases h with h | h | h
  · rw [h]; simp
  · rw [h]; simp
  · have : decide (b.length ≤ d.length) = false := decide_eq_false (by omega)
    rw [this]; simp
theorem under_yes {d b : RdnL} (h1 : dnB d = true) (h2 : dnB b = true) (h3 : b.length ≤ d.length) : underB d b = sameB (d.drop (d.length - b.length)) b := by
  unfold underB; rw [h1, h2]; simp [h3]
set_option maxHeartbeats 1000000 in
theorem DnUnder_any (ao bo : Option Addr) (d b : RdnL) (ca cb : Nat) (w : World) (hc : d.length ≤ ca) (hda : DnAt w ao d) (hdb : DnAt w bo b) (hfa : Fits d) (hfb : Fits b) :
    Calls Try.prog 22 #[.slice ao d.length ca, .slice bo b.length cb] w fun e w' => e = .returned (.bool (underB d b)) ∧ Below w.heap.size w w' := by
  have hla := hfa.1
  have hlb := hfb.1
  cases h1 : dnB d
  · have HE := Lib.hid (under_no (d := d) (b := b) (.inl h1))
    go_enter Try.func22, Try.ntmps22
    go_wp2_with fail
    refine (DnRight_any _ _ _ _ hda hfa).mono ?_
    rintro e w1 ⟨rfl, hb1⟩
    rw [h1]
    go_wp2
    go_ret
    exact ⟨ret_bool HE.out.symm, hb1⟩
  cases h2 : dnB b
  · have HE := Lib.hid (under_no (d := d) (b := b) (.inr (.inl h2)))
    go_enter Try.func22, Try.ntmps22
    go_wp2_with fail
    refine (DnRight_any _ _ _ _ hda hfa).mono ?_
    rintro e w1 ⟨rfl, hb1⟩
    rw [h1]
    go_wp2_with fail
    refine (DnRight_any _ _ _ _ (hdb.below hb1) hfb).mono ?_
    rintro e w2 ⟨rfl, hb2⟩
    rw [h2]
    go_wp2
    go_ret
    exact ⟨ret_bool HE.out.symm, hb1.trans (hb2.mono hb1.size)⟩
  by_cases h3 : d.length < b.length
  · have HE := Lib.hid (under_no (d := d) (b := b) (.inr (.inr h3)))
    go_enter Try.func22, Try.ntmps22
    go_wp2_with fail
    refine (DnRight_any _ _ _ _ hda hfa).mono ?_
    rintro e w1 ⟨rfl, hb1⟩
    rw [h1]
    go_wp2_with fail
    refine (DnRight_any _ _ _ _ (hdb.below hb1) hfb).mono ?_
    rintro e w2 ⟨rfl, hb2⟩
    rw [h2]
    go_wp2
    go_ret
    exact ⟨ret_bool HE.out.symm, hb1.trans (hb2.mono hb1.size)⟩
  · have HE := Lib.hid (under_yes h1 h2 (by omega))
    go_enter Try.func22, Try.ntmps22
    go_wp2_with fail
    refine (DnRight_any _ _ _ _ hda hfa).mono ?_
    rintro e w1 ⟨rfl, hb1⟩
    rw [h1]
    go_wp2_with fail
    refine (DnRight_any _ _ _ _ (hdb.below hb1) hfb).mono ?_
    rintro e w2 ⟨rfl, hb2⟩
    rw [h2]
    have hb12 := hb1.trans (hb2.mono hb1.size)
    obtain ⟨ao', hcut, hdr⟩ := cut27 w2 ao d (d.length - b.length) ca (by omega) hc (hda.below hb12)
    rw [show ((d.length - b.length : Nat) : Int) = (d.length : Int) - (b.length : Int) by omega] at hcut
    have HL : Hid ((d.drop (d.length - b.length)).length = d.length - (d.length - b.length)) := Lib.hid (List.length_drop ..)
    have HS := Lib.hid (sameRdns_any ao' bo (d.drop (d.length - b.length)) b (ca - (d.length - b.length)) cb w2 hdr (hdb.below hb12) (hfa.drop _) hfb)
    rw [HL.out] at HS
    have HDR := Lib.hid hdr
    clear hdr
    go_wp2_with fail
    refine HS.out.mono ?_
    rintro e w3 ⟨rfl, hb3⟩
    go_wp2
    go_ret
    exact ⟨ret_bool HE.out.symm, hb12.trans (hb3.mono hb12.size)⟩
theorem dnB_drop {d : RdnL} (h : dnB d = true) (k : Nat) : dnB (d.drop k) = true := by
  have h1 := dnB_six h
  have h2 := dnB_all_of h
  unfold dnB
  rw [Bool.and_eq_true]
  refine ⟨decide_eq_true (by rw [List.length_drop]; omega), ?_⟩
  rw [List.all_eq_true] at h2 ⊢
  exact fun x hx => h2 x (List.mem_of_mem_drop hx)
set_option maxHeartbeats 1000000 in
theorem SpecDnUnder_any (ao bo : Option Addr) (d b : RdnL) (ca cb : Nat) (w : World) (hc : d.length ≤ ca) (hda : DnAt w ao d) (hdb : DnAt w bo b) (hfa : Fits d) (hfb : Fits b) :
    Calls Try.prog 23 #[.slice ao d.length ca, .slice bo b.length cb] w fun e w' => e = .returned (.bool (underB d b)) ∧ Below w.heap.size w w' := by
  have hla := hfa.1
  have hlb := hfb.1
  by_cases h4 : 400 < d.length
  · have HE := Lib.hid (under_no (d := d) (b := b) (.inl (dnB_long (by omega))))
    clear hda hdb hfa hfb
    go_enter Try.func23, Try.ntmps23
    go_wp2
    go_ret
    exact ⟨ret_bool HE.out.symm, Below.refl _ _⟩
  by_cases h5 : 400 < b.length
  · have HE := Lib.hid (under_no (d := d) (b := b) (.inr (.inl (dnB_long (by omega)))))
    clear hda hdb hfa hfb
    go_enter Try.func23, Try.ntmps23
    go_wp2
    go_ret
    exact ⟨ret_bool HE.out.symm, Below.refl _ _⟩
  cases h1 : dnB d
  · have HE := Lib.hid (under_no (d := d) (b := b) (.inl h1))
    go_enter Try.func23, Try.ntmps23
    go_wp2_with fail
    refine (SpecDnRight_any _ _ _ _ hda hfa).mono ?_
    rintro e w1 ⟨rfl, hb1⟩
    rw [h1]
    go_wp2
    go_ret
    exact ⟨ret_bool HE.out.symm, hb1⟩
  cases h2 : dnB b
  · have HE := Lib.hid (under_no (d := d) (b := b) (.inr (.inl h2)))
    go_enter Try.func23, Try.ntmps23
    go_wp2_with fail
    refine (SpecDnRight_any _ _ _ _ hda hfa).mono ?_
    rintro e w1 ⟨rfl, hb1⟩
    rw [h1]
    go_wp2_with fail
    refine (SpecDnRight_any _ _ _ _ (hdb.below hb1) hfb).mono ?_
    rintro e w2 ⟨rfl, hb2⟩
    rw [h2]
    go_wp2
    go_ret
    exact ⟨ret_bool HE.out.symm, hb1.trans (hb2.mono hb1.size)⟩
  by_cases h3 : d.length < b.length
  · have HE := Lib.hid (under_no (d := d) (b := b) (.inr (.inr h3)))
    go_enter Try.func23, Try.ntmps23
    go_wp2_with fail
    refine (SpecDnRight_any _ _ _ _ hda hfa).mono ?_
    rintro e w1 ⟨rfl, hb1⟩
    rw [h1]
    go_wp2_with fail
    refine (SpecDnRight_any _ _ _ _ (hdb.below hb1) hfb).mono ?_
    rintro e w2 ⟨rfl, hb2⟩
    rw [h2]
    go_wp2
    go_ret
    exact ⟨ret_bool HE.out.symm, hb1.trans (hb2.mono hb1.size)⟩
  · have HE : Hid (underB d b = ((keyS (d.drop (d.length - b.length))).toList == (keyS b).toList)) := Lib.hid (by
      rw [under_yes h1 h2 (by omega), key_same (dnB_all_of (dnB_drop h1 _)) (dnB_all_of h2)])
    have a6 := dnB_six (dnB_drop h1 (d.length - b.length))
    have b6 := dnB_six h2
    go_enter Try.func23, Try.ntmps23
    go_wp2_with fail
    refine (SpecDnRight_any _ _ _ _ hda hfa).mono ?_
    rintro e w1 ⟨rfl, hb1⟩
    rw [h1]
    go_wp2_with fail
    refine (SpecDnRight_any _ _ _ _ (hdb.below hb1) hfb).mono ?_
    rintro e w2 ⟨rfl, hb2⟩
    rw [h2]
    have hb12 := hb1.trans (hb2.mono hb1.size)
    obtain ⟨ao', hcut, hdr⟩ := cut27 w2 ao d (d.length - b.length) ca (by omega) hc (hda.below hb12)
    rw [show ((d.length - b.length : Nat) : Int) = (d.length : Int) - (b.length : Int) by omega] at hcut
    have HL : Hid ((d.drop (d.length - b.length)).length = d.length - (d.length - b.length)) := Lib.hid (List.length_drop ..)
    have HS := Lib.hid (l02Key_any ao' (d.drop (d.length - b.length)) (ca - (d.length - b.length)) w2 hdr (hfa.drop _) a6)
    rw [HL.out] at HS
    have HDR := Lib.hid hdr
    clear hdr a6
    go_wp2_with fail
    refine HS.out.mono ?_
    rintro e w3 ⟨rfl, hb3⟩
    have hb13 := hb12.trans (hb3.mono hb12.size)
    go_wp2_with fail
    refine (l02Key_any _ _ _ _ (hdb.below hb13) hfb b6).mono ?_
    rintro e w4 ⟨rfl, hb4⟩
    go_wp2
    go_ret
    exact ⟨ret_bool HE.out.symm, hb13.trans (hb4.mono hb13.size)⟩
end Go.Proofs.Ytjajpdghamecoaa
