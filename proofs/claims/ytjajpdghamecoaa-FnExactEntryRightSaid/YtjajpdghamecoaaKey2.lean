/- Sameness and keys of names: what the texts return. -/
import Derived.Test.YtjajpdghamecoaaKeyMath
namespace Go.Proofs.Ytjajpdghamecoaa
open Go.RowKit
attribute [local go_sem ↓] Go.wp_at_zero Go.wp_at_succ

theorem normRdn_from (w0 : World) (a v : ByteArray) (w : World) (hv : v.size ≤ maxLen) (hB : Below w0.heap.size w0 w) :
    Calls Try.prog 60 #[.agg #[.string a, .string v]] w fun e w' => e = .returned (.agg #[.string a, .string (normS v)]) ∧ Below w0.heap.size w0 w' :=
  (normRdn_any a v w hv).mono fun _ _ ⟨he, hb⟩ => ⟨he, hB.trans (hb.mono hB.size)⟩
theorem map_take_succ {α β : Type} (f : α → β) (l : List α) (k : Nat) (h : k < l.length) : (l.take (k + 1)).map f = (l.take k).map f ++ [f l[k]] := by
  rw [List.take_succ_eq_append_getElem h, List.map_append]; rfl
theorem same_len {a b : RdnL} (h : a.length ≠ b.length) : sameB a b = false := by
  unfold sameB
  rw [decide_eq_false_iff_not]
  intro e
  have := congrArg List.length e
  simp at this; exact h this
theorem same_bad {a b : RdnL} {k : Nat} (ha : k < a.length) (hb : k < b.length) (h : nrm a[k] ≠ nrm b[k]) : sameB a b = false := by
  unfold sameB
  rw [decide_eq_false_iff_not]
  intro e
  apply h
  have : (a.map nrm)[k]? = (b.map nrm)[k]? := by rw [e]
  rw [List.getElem?_map, List.getElem?_map, List.getElem?_eq_getElem ha, List.getElem?_eq_getElem hb] at this
  simpa using this

set_option maxRecDepth 100000 in
set_option maxHeartbeats 1000000 in
theorem sameRdns_any (ao bo : Option Addr) (a b : RdnL) (ca cb : Nat) (w : World) (hda : DnAt w ao a) (hdb : DnAt w bo b) (hfa : Fits a) (hfb : Fits b) :
    Calls Try.prog 58 #[.slice ao a.length ca, .slice bo b.length cb] w fun e w' => e = .returned (.bool (sameB a b)) ∧ Below w.heap.size w w' := by
  have hla := hfa.1
  have hlb := hfb.1
  have HA := Lib.hid hda; have HB := Lib.hid hdb; have FA := Lib.hid hfa; have FB := Lib.hid hfb; clear hda hdb hfa hfb
  by_cases hl : a.length = b.length
  · have Hl := Lib.hid hl
    have hne : ((a.length : Int) != (b.length : Int)) = false := by rw [hl]; simp
    go_enter Try.func58, Try.ntmps58
    clear hl
    go_wp2
    go_loopw [13] (fun i wr => ∃ k : Nat, k ≤ a.length ∧ i = .int .i64 k ∧ (a.take k).map nrm = (b.take k).map nrm ∧ Below w.heap.size w wr) (fun i _ => a.length - (intOf i).toNat)
    case atStart => exact ⟨0, Nat.zero_le _, rfl, rfl, Below.refl _ _⟩
    case round =>
      obtain ⟨k, hk, rfl, hs, hbel⟩ := hrel
      have HS := Lib.hid hs; clear hs
      have hsz := hbel.size
      by_cases hlt : k < a.length
      · have hltb : k < b.length := by have := Hl.out; omega
        obtain ⟨p, off, rfl, hp0, hd1, hd2⟩ := HA.out.at hlt
        obtain ⟨q, off', rfl, hq0, he1, he2⟩ := HB.out.at hltb
        have hz1 := (FA.out.at hlt).2
        have hz2 := (FB.out.at hltb).2
        have hnq := neqNorm a[k].1 a[k].2 b[k].1 b[k].2
        have HBd := Lib.hid (fun h => same_bad (a := a) (b := b) hlt hltb h)
        have HT : Hid (nrm a[k] = nrm b[k] → (a.take (k + 1)).map nrm = (b.take (k + 1)).map nrm) := Lib.hid (fun h => by rw [map_take_succ nrm a k hlt, map_take_succ nrm b k hltb, HS.out, h])
        have HD : Hid (nrm (a[k].1, a[k].2) = nrm a[k] ∧ nrm (b[k].1, b[k].2) = nrm b[k]) := Lib.hid ⟨rfl, rfl⟩
        generalize a[k].1 = A at *
        generalize a[k].2 = V at *
        generalize b[k].1 = A' at *
        generalize b[k].2 = V' at *
        have SK : Hid (∀ W : World, Below w.heap.size w W → (Below w.heap.size w W ∧ W.cell? ⟨p, off + k * 2, none⟩ = some (.string A) ∧ W.cell? ⟨p, off + k * 2 + 1, none⟩ = some (.string V) ∧ W.cell? ⟨q, off' + k * 2, none⟩ = some (.string A') ∧ W.cell? ⟨q, off' + k * 2 + 1, none⟩ = some (.string V'))) :=
          Lib.hid (fun W h => ⟨h, (h.cell (p := ⟨p, _, none⟩) hp0).trans hd1, (h.cell (p := ⟨p, _, none⟩) hp0).trans hd2, (h.cell (p := ⟨q, _, none⟩) hq0).trans he1, (h.cell (p := ⟨q, _, none⟩) hq0).trans he2⟩)
        have hbd := hbel.drew
        clear hd1 hd2 he1 he2
        have g1 : (0 : Int) ≤ (k : Int) := by omega
        have g2 : (k : Int) < (a.length : Int) := by omega
        have g3 : (k : Int) < (b.length : Int) := by omega
        cases hdec : decide (nrm (A, V) = nrm (A', V'))
        · have HX := Lib.hid (HBd.out (by rw [← HD.out.1, ← HD.out.2]; exact of_decide_eq_false hdec))
          rw [hdec] at hnq
          go_wp2_with fail
          go_region_held3 (fun W => Below w.heap.size w W ∧ W.cell? ⟨p, off + k * 2, none⟩ = some (.string A) ∧ W.cell? ⟨p, off + k * 2 + 1, none⟩ = some (.string V) ∧ W.cell? ⟨q, off' + k * 2, none⟩ = some (.string A') ∧ W.cell? ⟨q, off' + k * 2 + 1, none⟩ = some (.string V'))
            (exact SK.out _ (by assumption))
            (first | (go_at_call 60; refine (normRdn_from w _ _ _ (by assumption) (by assumption)).mono ?_; rintro e w2 ⟨rfl, hb2⟩))
          all_goals
            go_wp2
            go_ret
            exact ⟨ret_bool HX.out.symm, hb2⟩
        · have HX := Lib.hid (HT.out (by rw [← HD.out.1, ← HD.out.2]; exact of_decide_eq_true hdec))
          rw [hdec] at hnq
          go_wp2_with fail
          go_region_held3 (fun W => Below w.heap.size w W ∧ W.cell? ⟨p, off + k * 2, none⟩ = some (.string A) ∧ W.cell? ⟨p, off + k * 2 + 1, none⟩ = some (.string V) ∧ W.cell? ⟨q, off' + k * 2, none⟩ = some (.string A') ∧ W.cell? ⟨q, off' + k * 2 + 1, none⟩ = some (.string V'))
            (exact SK.out _ (by assumption))
            (first | (go_at_call 60; refine (normRdn_from w _ _ _ (by assumption) (by assumption)).mono ?_; rintro e w2 ⟨rfl, hb2⟩))
          all_goals
            go_wp2
            go_roundw
            case rel => exact ⟨k + 1, by omega, by go_num, HX.out, hb2⟩
            case measure => simp [intOf]; omega
      · have HE : Hid (sameB a b = true) := Lib.hid (by
          have h := HS.out
          have := Hl.out
          rw [List.take_of_length_le (by omega), List.take_of_length_le (by omega)] at h
          unfold sameB; exact decide_eq_true h)
        go_wp2
        go_ret
        exact ⟨ret_bool HE.out.symm, hbel⟩
  · have hne : ((a.length : Int) != (b.length : Int)) = true := by rw [bne_iff_ne]; omega
    have HE := Lib.hid (same_len hl)
    clear hl
    go_enter Try.func58, Try.ntmps58
    go_wp2
    go_ret
    exact ⟨ret_bool HE.out.symm, Below.refl _ _⟩

def dnSameB (a b : RdnL) : Bool := dnB a && dnB b && sameB a b
set_option maxHeartbeats 400000 in
theorem DnSame_any (ao bo : Option Addr) (a b : RdnL) (ca cb : Nat) (w : World) (hda : DnAt w ao a) (hdb : DnAt w bo b) (hfa : Fits a) (hfb : Fits b) :
    Calls Try.prog 21 #[.slice ao a.length ca, .slice bo b.length cb] w fun e w' => e = .returned (.bool (dnSameB a b)) ∧ Below w.heap.size w w' := by
  have HV : Hid (dnSameB a b = (dnB a && dnB b && sameB a b)) := Lib.hid rfl
  cases h1 : dnB a
  · go_enter Try.func21, Try.ntmps21
    go_wp2_with (first | (go_at_call 13; refine (DnRight_any _ _ _ _ hda hfa).mono ?_; rintro e w1 ⟨rfl, hb1⟩; rw [h1]))
    go_ret
    exact ⟨ret_bool (by rw [HV.out, h1]; rfl), hb1⟩
  · cases h2 : dnB b
    · go_enter Try.func21, Try.ntmps21
      go_wp2_with fail
      refine (DnRight_any _ _ _ _ hda hfa).mono ?_
      rintro e w1 ⟨rfl, hb1⟩
      rw [h1]
      go_wp2_with fail
      refine (DnRight_any _ _ _ _ (hdb.below hb1) hfb).mono ?_
      rintro e w2 ⟨rfl, hb2⟩
      rw [h2]
      go_wp2
      go_ret
      exact ⟨ret_bool (by rw [HV.out, h1, h2]; rfl), hb1.trans (hb2.mono hb1.size)⟩
    · go_enter Try.func21, Try.ntmps21
      go_wp2_with fail
      refine (DnRight_any _ _ _ _ hda hfa).mono ?_
      rintro e w1 ⟨rfl, hb1⟩
      rw [h1]
      go_wp2_with fail
      refine (DnRight_any _ _ _ _ (hdb.below hb1) hfb).mono ?_
      rintro e w2 ⟨rfl, hb2⟩
      rw [h2]
      have hb12 := hb1.trans (hb2.mono hb1.size)
      go_wp2_with fail
      refine (sameRdns_any _ _ _ _ _ _ _ (hda.below hb12) (hdb.below hb12) hfa hfb).mono ?_
      rintro e w3 ⟨rfl, hb3⟩
      go_wp2
      go_ret
      exact ⟨ret_bool (by rw [HV.out, h1, h2]; rfl), hb12.trans (hb3.mono hb12.size)⟩
end Go.Proofs.Ytjajpdghamecoaa
