/- Merged texts: May, MayS, szRdn, szString, szRule, toRdn, toString, toRule, eqRdn, eqString, eqRule. -/
import Derived.Test.YtglgkocjdockdaaM6
import Derived.Test.YtglgkocjdockdaaM7
import Derived.Test.YtglgkocjdockdaaM1
import Derived.Test.YtglgkocjdockdaaM2
import Derived.Laws.MakeOwn
import Derived.SliceStrings
/- MayChange: what the texts of the program and of the specification return. -/
namespace Go.Proofs.Ytglgkocjdockdaa
open Go.RowKit
attribute [local go_sem ↓] Go.wp_at_zero Go.wp_at_succ

noncomputable def nmGB (l : List RuleT) (who : ByteArray) (dn : RdnL) (n : ByteArray) : Bool := nmL n && grantB l who dn n 2
noncomputable def changeB (l : List RuleT) (who : ByteArray) (dn : RdnL) (at_ : List AttrV) (names : List ByteArray) : Bool := decide (names.length ≤ 400) && (aclB l && (rightB dn at_ && (nmL who && names.all (nmGB l who dn))))
theorem changeB_bad {l : List RuleT} {who : ByteArray} {dn : RdnL} {at_ : List AttrV} {names : List ByteArray} {k : Nat} (h : k < names.length) (hb : nmGB l who dn names[k] = false) : changeB l who dn at_ names = false := by unfold changeB; rw [all_bad _ names k h hb]; simp
set_option maxRecDepth 100000 in
set_option maxHeartbeats 4000000 in
theorem MayChange_any {S S1 S2 S3 : Bs} (v : Value) (d : List RuleT) (who : ByteArray) (dn : RdnL) (at_ : List AttrV) (dv av : Value) (nv : Value) (names : List ByteArray) (w : World) (hL : SlAt ruleE S w d v) (hd : SlAt rdnE S1 w dn dv) (ha : SlAt attrE S2 w at_ av) (hn : SlAt strE S3 w names nv)
    (hz : d.length + szL ruleE d ≤ 1048576) (hze : entryE.sz (dn, at_) ≤ 1048576) (hzn : names.length + szL strE names ≤ 1048576) (hw : who.size ≤ 1048576) :
    Calls Try.prog 42 #[v, .string who, .agg #[dv, av], nv] w fun e w' => e = .returned (.bool (changeB d who dn at_ names)) ∧ Below w.heap.size w w' := by
  have HE : entryE.sz (dn, at_) = (dn.length + szL rdnE dn) + (at_.length + szL attrE at_) := rfl
  rw [HE] at hze
  have HB : Hid (changeB d who dn at_ names = (decide (names.length ≤ 400) && (aclB d && (rightB dn at_ && (nmL who && names.all (nmGB d who dn)))))) := Lib.hid rfl
  have HBad : Hid (∀ k (h : k < names.length), nmGB d who dn names[k] = false → changeB d who dn at_ names = false) := Lib.hid (fun k h hb => changeB_bad h hb)
  have CL : Hid (∀ W : World, Below w.heap.size w W → Calls Try.prog 15 #[v] W fun e w' => e = .returned (.bool (aclB d)) ∧ Below W.heap.size W w') := Lib.hid (fun W b => AclRight_any v d W (hL.frame (Same.of_below' b)) hz)
  have CN : Hid (∀ W : World, Calls Try.prog 84 #[.string who] W fun e w' => e = .returned (.bool (nmL who)) ∧ W = w') := Lib.hid (fun W => NameRight_any who W (by unfold maxLen; omega))
  have CG : Hid (∀ (W : World) (n : ByteArray), Below w.heap.size w W → Calls Try.prog 76 #[v, .agg #[.string who, dv, .string n, .int .i64 2]] W fun e w' => e = .returned (.bool (grantB d who dn n 2)) ∧ Below W.heap.size W w') := Lib.hid (fun W n b => grants_any v d who dn dv n 2 W (hL.frame (Same.of_below' b)) (hd.frame (Same.of_below' b)) hz (by omega))
  obtain ⟨o1, k1, rfl⟩ := hL.sl
  have hd0 := hd; have ha0 := ha
  obtain ⟨o2, k2, rfl⟩ := hd.sl
  obtain ⟨o3, k3, rfl⟩ := ha.sl
  obtain ⟨o4, k4, rfl⟩ := hn.sl
  have CE : Hid (∀ W : World, Below w.heap.size w W → Calls Try.prog 83 #[.agg #[.slice o2 dn.length k2, .slice o3 at_.length k3]] W fun e w' => e = .returned (.bool (rightB dn at_)) ∧ Below W.heap.size W w') := Lib.hid (fun W b => EntryRight_any o2 o3 dn at_ k2 k3 W ((dn_of hd0).below b) ((attrs_of ha0).below b) (fits_dn (by omega)) (fits_attrs (by omega)))
  have HN := Lib.hid hn
  have hln : names.length ≤ 1048576 := by omega
  have HZ : Hid (∀ n ∈ names, n.size ≤ 1048576) := Lib.hid (fun n h => by have h1 := szL_mem strE h; have h2 : strE.sz n = n.size := rfl; omega)
  clear hL hd hd0 ha ha0 hn hz hze hzn HE
  generalize aclB d = n1 at *
  generalize nmL who = n2 at *
  generalize rightB dn at_ = n3 at *
  generalize changeB d who dn at_ names = R at *
  by_cases c1 : 400 < names.length
  · have HR : Hid (R = false) := Lib.hid (by rw [HB.out]; simp; omega)
    have c1' : (400 : Int) < (names.length : Int) := by omega
    go_enter Try.func42, Try.ntmps42
    go_wp2
    go_ret
    exact ⟨ret_bool HR.out.symm, more' (Below.refl _ _) _⟩
  have c1' : ¬ (400 : Int) < (names.length : Int) := by omega
  have HB2 : Hid (R = (n1 && (n3 && (n2 && names.all (nmGB d who dn))))) := Lib.hid (by rw [HB.out]; simp; omega)
  clear HB; have HB := HB2; clear HB2
  go_enter Try.func42, Try.ntmps42
  go_wp2_with fail
  refine calls_by (fun W => Below w.heap.size w W ∧ Blk W w.heap.size [.slice o2 dn.length k2, .slice o3 at_.length k3]) ⟨more' (Below.refl _ _) _, Blk.new _ _ _⟩ ?_
  rintro W1 ⟨b1, t1⟩
  refine (CL.out W1 b1).mono ?_
  rintro e w2 ⟨rfl, hb⟩
  have b2 := b1.trans (hb.mono b1.size); have T2 := Lib.hid (t1.below hb)
  clear hb t1 b1
  cases n1
  · have HR : Hid (R = false) := Lib.hid (by rw [HB.out]; rfl)
    go_wp2
    go_ret
    exact ⟨ret_bool HR.out.symm, b2⟩
  have m0 := T2.out.cell 0 rfl
  have m1 := T2.out.cell 1 rfl
  go_wp2_with fail
  refine (CE.out w2 b2).mono ?_
  rintro e w3 ⟨rfl, hb⟩
  have b3 := b2.trans (hb.mono b2.size); have T3 := Lib.hid (T2.out.below hb)
  clear hb T2 b2 m0 m1
  cases n3
  · have HR : Hid (R = false) := Lib.hid (by rw [HB.out]; rfl)
    go_wp2
    go_ret
    exact ⟨ret_bool HR.out.symm, b3⟩
  go_wp2_with fail
  refine (CN.out w3).mono ?_
  rintro e w4 ⟨rfl, rfl⟩
  cases n2
  · have HR : Hid (R = false) := Lib.hid (by rw [HB.out]; rfl)
    go_wp2
    go_ret
    exact ⟨ret_bool HR.out.symm, b3⟩
  have HR : Hid (names.all (nmGB d who dn) = true → R = true) := Lib.hid (fun h => by rw [HB.out, h]; rfl)
  go_wp2
  go_loopw [31] (fun i wr => ∃ k : Nat, k ≤ names.length ∧ i = .int .i64 k ∧ (names.take k).all (nmGB d who dn) = true ∧ Below w.heap.size w wr ∧ Blk wr w.heap.size [.slice o2 dn.length k2, .slice o3 at_.length k3]) (fun i _ => names.length - (intOf i).toNat)
  case atStart => exact ⟨0, Nat.zero_le _, rfl, rfl, b3, T3.out⟩
  case round =>
    obtain ⟨k, hk, rfl, ha, hbel, hbk⟩ := hrel
    have Ha := Lib.hid ha; have HK := Lib.hid hbk; clear ha hbk
    by_cases hlt : k < names.length
    · obtain ⟨b, off, a0, rfl, _, hb0, hx, hc⟩ := str_row (HN.out.frame (Same.of_below' hbel)) hlt
      have hz0 : a0.size ≤ 1048576 := by have := HZ.out _ (List.getElem_mem hlt); rw [hx] at this; exact this
      have HNo : Hid (nmGB d who dn a0 = false → R = false) := Lib.hid (fun h => HBad.out k hlt (by rw [hx]; exact h))
      have HYes : Hid (nmGB d who dn a0 = true → (names.take (k + 1)).all (nmGB d who dn) = true) := Lib.hid (fun h => by rw [all_take _ names k hlt, Ha.out, hx, h]; rfl)
      have HE : Hid (nmGB d who dn a0 = (nmL a0 && grantB d who dn a0 2)) := Lib.hid rfl
      have CM : Hid (∀ W : World, Calls Try.prog 84 #[.string a0] W fun e w' => e = .returned (.bool (nmL a0)) ∧ W = w') := Lib.hid (fun W => NameRight_any a0 W (by unfold maxLen; omega))
      have CG0 : Hid (∀ (W : World), Below w.heap.size w W → Calls Try.prog 76 #[.slice o1 d.length k1, .agg #[.string who, .slice o2 dn.length k2, .string a0, .int .i64 2]] W fun e w' => e = .returned (.bool (grantB d who dn a0 2)) ∧ Below W.heap.size W w') := Lib.hid (fun W b => CG.out W a0 b)
      clear hx Ha
      generalize nmGB d who dn a0 = q at *
      generalize nmL a0 = n5 at *
      generalize grantB d who dn a0 2 = n6 at *
      have g1 : (0 : Int) ≤ (k : Int) := by omega
      have g2 : (k : Int) < (names.length : Int) := by omega
      go_wp2_with fail
      refine (CM.out wr).mono ?_
      rintro e w5 ⟨rfl, rfl⟩
      cases n5
      · have HR2 : Hid (R = false) := Lib.hid (HNo.out (by rw [HE.out]; rfl))
        go_wp2
        go_ret
        exact ⟨ret_bool HR2.out.symm, hbel⟩
      have m0 := HK.out.cell 0 rfl
      have m1 := HK.out.cell 1 rfl
      go_wp2_with fail
      refine calls_by (fun W => Below w.heap.size w W ∧ Blk W w.heap.size [.slice o2 dn.length k2, .slice o3 at_.length k3]) ⟨?_, ?_⟩ ?_
      · first | exact hbel | exact more' hbel _ | exact more' (more' hbel _) _
      · first | exact HK.out | exact HK.out.alloc _ | exact (HK.out.alloc _).alloc _
      rintro W6 ⟨b6, t6⟩
      refine (CG0.out W6 b6).mono ?_
      rintro e w7 ⟨rfl, hb⟩
      have b7 := b6.trans (hb.mono b6.size); have T7 := Lib.hid (t6.below hb)
      clear hb t6
      cases n6
      · have HR2 : Hid (R = false) := Lib.hid (HNo.out (by rw [HE.out]; rfl))
        go_wp2
        go_ret
        exact ⟨ret_bool HR2.out.symm, b7⟩
      · have HY2 : Hid ((names.take (k + 1)).all (nmGB d who dn) = true) := Lib.hid (HYes.out (by rw [HE.out]; rfl))
        go_wp2
        go_roundw
        case rel => exact ⟨k + 1, by omega, by go_num, HY2.out, b7, T7.out⟩
        case measure => simp [intOf]; omega
    · have HR2 : Hid (R = true) := Lib.hid (HR.out (by have := Ha.out; rw [List.take_of_length_le (by omega)] at this; exact this))
      go_wp2
      go_ret
      exact ⟨ret_bool HR2.out.symm, hbel⟩
end Go.Proofs.Ytglgkocjdockdaa
/- MayChange: what the text of the specification returns. -/
namespace Go.Proofs.Ytglgkocjdockdaa
open Go.RowKit
attribute [local go_sem ↓] Go.wp_at_zero Go.wp_at_succ

theorem all_both {α : Type} (p q : α → Bool) (l : List α) : l.all (fun x => p x && q x) = (l.all p && l.all q) := by
  induction l with
  | nil => rfl
  | cons x l ih => simp only [List.all_cons, ih]; cases p x <;> cases q x <;> simp
set_option maxRecDepth 100000 in
set_option maxHeartbeats 4000000 in
theorem SpecMayChange_any {S S1 S2 S3 : Bs} (v : Value) (d : List RuleT) (who : ByteArray) (dn : RdnL) (at_ : List AttrV) (dv av : Value) (nv : Value) (names : List ByteArray) (w : World) (hL : SlAt ruleE S w d v) (hd : SlAt rdnE S1 w dn dv) (ha : SlAt attrE S2 w at_ av) (hn : SlAt strE S3 w names nv)
    (hz : d.length + szL ruleE d ≤ 1048576) (hze : entryE.sz (dn, at_) ≤ 1048576) (hzn : names.length + szL strE names ≤ 1048576) (hw : who.size ≤ 1048576) :
    Calls Try.prog 40 #[v, .string who, .agg #[dv, av], nv] w fun e w' => e = .returned (.bool (changeB d who dn at_ names)) ∧ Below w.heap.size w w' := by
  have HE : entryE.sz (dn, at_) = (dn.length + szL rdnE dn) + (at_.length + szL attrE at_) := rfl
  rw [HE] at hze
  have HB : Hid (changeB d who dn at_ names = (decide (names.length ≤ 400) && (aclB d && (rightB dn at_ && (nmL who && names.all (nmGB d who dn)))))) := Lib.hid rfl
  have HBad : Hid (∀ k (h : k < names.length), nmGB d who dn names[k] = false → changeB d who dn at_ names = false) := Lib.hid (fun k h hb => changeB_bad h hb)
  have CL : Hid (∀ W : World, Below w.heap.size w W → Calls Try.prog 13 #[v] W fun e w' => e = .returned (.bool (aclB d)) ∧ Below W.heap.size W w') := Lib.hid (fun W b => SpecAclRight_any v d W (hL.frame (Same.of_below' b)) hz)
  have CN : Hid (∀ W : World, Calls Try.prog 48 #[.string who] W fun e w' => e = .returned (.bool (nmL who)) ∧ W = w') := Lib.hid (fun W => SpecNameRight_any who W (by unfold maxLen; omega))
  have CG : Hid (∀ (W : World) (n : ByteArray), Below w.heap.size w W → Calls Try.prog 73 #[v, .string who, dv, .string n, .int .i64 2] W fun e w' => e = .returned (.bool (grantB d who dn n 2)) ∧ Below W.heap.size W w') := Lib.hid (fun W n b => l06Allowed_any v d who dn dv n 2 W (hL.frame (Same.of_below' b)) (hd.frame (Same.of_below' b)) hz (by omega))
  obtain ⟨o1, k1, rfl⟩ := hL.sl
  have hd0 := hd; have ha0 := ha
  obtain ⟨o2, k2, rfl⟩ := hd.sl
  obtain ⟨o3, k3, rfl⟩ := ha.sl
  obtain ⟨o4, k4, rfl⟩ := hn.sl
  have CE : Hid (∀ W : World, Below w.heap.size w W → Calls Try.prog 80 #[.agg #[.slice o2 dn.length k2, .slice o3 at_.length k3]] W fun e w' => e = .returned (.bool (rightB dn at_)) ∧ Below W.heap.size W w') := Lib.hid (fun W b => SpecEntryRight_any o2 o3 dn at_ k2 k3 W ((dn_of hd0).below b) ((attrs_of ha0).below b) (fits_dn (by omega)) (fits_attrs (by omega)))
  have HN := Lib.hid hn
  have hln : names.length ≤ 1048576 := by omega
  have HZ : Hid (∀ n ∈ names, n.size ≤ 1048576) := Lib.hid (fun n h => by have h1 := szL_mem strE h; have h2 : strE.sz n = n.size := rfl; omega)
  have L1 : Hid (aclB d = true → d.length ≤ 10) := Lib.hid (fun h => by unfold aclB at h; simp only [Bool.and_eq_true, decide_eq_true_eq] at h; exact h.1)
  have L3 : Hid (nmL who = true → who.size ≤ 20) := Lib.hid nm_small
  have hdl : d.length ≤ 1048576 := by omega
  clear hL hd hd0 ha ha0 hn hz hze hzn HE
  generalize aclB d = n1 at *
  generalize nmL who = n2 at *
  generalize rightB dn at_ = n3 at *
  generalize changeB d who dn at_ names = R at *
  have L1 : Hid (n1 = true → d.length ≤ 10) := L1
  have L3 : Hid (n2 = true → who.size ≤ 20) := L3
  by_cases e1 : 400 < d.length
  · have HR : Hid (R = false) := Lib.hid (by cases n1 with | false => (rw [HB.out]; simp) | true => (have := L1.out rfl; omega))
    have e1' : (400 : Int) < (d.length : Int) := by omega
    go_enter Try.func40, Try.ntmps40
    go_wp2
    go_ret
    exact ⟨ret_bool HR.out.symm, more' (Below.refl _ _) _⟩
  have e1' : ¬ (400 : Int) < (d.length : Int) := by omega
  by_cases e3 : 8000 < who.size
  · have HR : Hid (R = false) := Lib.hid (by cases n2 with | false => (rw [HB.out]; simp) | true => (have := L3.out rfl; omega))
    have e3' : (8000 : Int) < (who.size : Int) := by omega
    go_enter Try.func40, Try.ntmps40
    go_wp2
    go_ret
    exact ⟨ret_bool HR.out.symm, more' (Below.refl _ _) _⟩
  have e3' : ¬ (8000 : Int) < (who.size : Int) := by omega
  clear L1 L3 e1 e3
  by_cases c1 : 400 < names.length
  · have HR : Hid (R = false) := Lib.hid (by rw [HB.out]; simp; omega)
    have c1' : (400 : Int) < (names.length : Int) := by omega
    go_enter Try.func40, Try.ntmps40
    go_wp2
    go_ret
    exact ⟨ret_bool HR.out.symm, more' (Below.refl _ _) _⟩
  have c1' : ¬ (400 : Int) < (names.length : Int) := by omega
  have HB2 : Hid (R = (n1 && (n3 && (n2 && names.all (nmGB d who dn))))) := Lib.hid (by rw [HB.out]; simp; omega)
  clear HB; have HB := HB2; clear HB2
  go_enter Try.func40, Try.ntmps40
  go_wp2_with fail
  refine calls_by (fun W => Below w.heap.size w W ∧ Blk W w.heap.size [.slice o2 dn.length k2, .slice o3 at_.length k3]) ⟨more' (Below.refl _ _) _, Blk.new _ _ _⟩ ?_
  rintro W1 ⟨b1, t1⟩
  refine (CL.out W1 b1).mono ?_
  rintro e w2 ⟨rfl, hb⟩
  have b2 := b1.trans (hb.mono b1.size); have T2 := Lib.hid (t1.below hb)
  clear hb t1 b1
  cases n1
  · have HR : Hid (R = false) := Lib.hid (by rw [HB.out]; rfl)
    go_wp2
    go_ret
    exact ⟨ret_bool HR.out.symm, b2⟩
  go_wp2_with fail
  refine (CN.out w2).mono ?_
  rintro e w4 ⟨rfl, rfl⟩
  cases n2
  · have HR : Hid (R = false) := Lib.hid (by rw [HB.out]; simp)
    go_wp2
    go_ret
    exact ⟨ret_bool HR.out.symm, b2⟩
  have m0 := T2.out.cell 0 rfl
  have m1 := T2.out.cell 1 rfl
  go_wp2_with fail
  refine (CE.out w2 b2).mono ?_
  rintro e w3 ⟨rfl, hb⟩
  have b3 := b2.trans (hb.mono b2.size); have T3 := Lib.hid (T2.out.below hb)
  clear hb T2 b2 m0 m1
  cases n3
  · have HR : Hid (R = false) := Lib.hid (by rw [HB.out]; rfl)
    go_wp2
    go_ret
    exact ⟨ret_bool HR.out.symm, b3⟩
  have HR : Hid (R = names.all (nmGB d who dn)) := Lib.hid (by rw [HB.out]; rfl)
  go_wp2
  go_loopw [9, 10] (fun t i wr => ∃ (k : Nat) (b : Bool), k ≤ names.length ∧ i = .int .i64 k ∧ t = .bool b ∧ (names.take k).all nmL = true ∧ b = (names.take k).all (fun n => grantB d who dn n 2) ∧ Below w.heap.size w wr ∧ Blk wr w.heap.size [.slice o2 dn.length k2, .slice o3 at_.length k3]) (fun _ i _ => names.length - (intOf i).toNat)
  case atStart => exact ⟨0, true, Nat.zero_le _, rfl, rfl, rfl, rfl, b3, T3.out⟩
  case round =>
    obtain ⟨k, b', hk, rfl, rfl, ha, hb', hbel, hbk⟩ := hrel
    have Ha := Lib.hid ha; have Hb := Lib.hid hb'; have HK := Lib.hid hbk; clear ha hbk hb'
    by_cases hlt : k < names.length
    · obtain ⟨b, off, a0, rfl, _, hb0, hx, hc⟩ := str_row (HN.out.frame (Same.of_below' hbel)) hlt
      have hz0 : a0.size ≤ 1048576 := by have := HZ.out _ (List.getElem_mem hlt); rw [hx] at this; exact this
      have HNo : Hid (nmL a0 = false → R = false) := Lib.hid (fun h => HBad.out k hlt (by rw [hx]; unfold nmGB; rw [h]; rfl))
      have HT1 : Hid (nmL a0 = true → (names.take (k + 1)).all nmL = true) := Lib.hid (fun h => by rw [all_take _ names k hlt, Ha.out, hx, h]; rfl)
      have HT2 : Hid ((b' && grantB d who dn a0 2) = (names.take (k + 1)).all (fun n => grantB d who dn n 2)) := Lib.hid (by rw [all_take _ names k hlt, Hb.out, hx])
      have CM : Hid (∀ W : World, Calls Try.prog 48 #[.string a0] W fun e w' => e = .returned (.bool (nmL a0)) ∧ W = w') := Lib.hid (fun W => SpecNameRight_any a0 W (by unfold maxLen; omega))
      have CG0 : Hid (∀ (W : World), Below w.heap.size w W → Calls Try.prog 73 #[.slice o1 d.length k1, .string who, .slice o2 dn.length k2, .string a0, .int .i64 2] W fun e w' => e = .returned (.bool (grantB d who dn a0 2)) ∧ Below W.heap.size W w') := Lib.hid (fun W b => CG.out W a0 b)
      clear hx Ha Hb
      generalize nmL a0 = n5 at *
      generalize grantB d who dn a0 2 = n6 at *
      have g1 : (0 : Int) ≤ (k : Int) := by omega
      have g2 : (k : Int) < (names.length : Int) := by omega
      have m0 := HK.out.cell 0 rfl
      have m1 := HK.out.cell 1 rfl
      go_wp2_with fail
      refine (CM.out wr).mono ?_
      rintro e w5 ⟨rfl, rfl⟩
      cases n5
      · have HR2 : Hid (R = false) := Lib.hid (HNo.out rfl)
        go_wp2
        go_ret
        exact ⟨ret_bool HR2.out.symm, hbel⟩
      have HT3 : Hid ((names.take (k + 1)).all nmL = true) := Lib.hid (HT1.out rfl)
      have SK : Hid (∀ Z' : World, Below wr.heap.size wr Z' → Z'.cell? ⟨w.heap.size, 0, none⟩ = some (.slice o2 dn.length k2) ∧ Z'.cell? ⟨b, off + k, none⟩ = some (.string a0)) := Lib.hid (fun Z' h => ⟨(HK.out.below h).cell 0 rfl, (h.cell (p := ⟨b, _, none⟩) hb0).trans hc⟩)
      have BD : Below wr.heap.size wr wr.drew := (Below.refl _ _).drew
      have BR : Below wr.heap.size wr wr := Below.refl _ _
      cases b'
      · clear m0 m1 hc
        go_wp2
        refine wp_region_held_drew (S := (fun Z' => Z'.cell? ⟨w.heap.size, 0, none⟩ = some (.slice o2 dn.length k2) ∧ Z'.cell? ⟨b, off + k, none⟩ = some (.string a0))) (by kernel_rfl) ?_ (fun hHeld => ?_)
        · (try dsimp only)
          first | exact SK.out _ (by assumption) | exact SK.out _ BD
        refine wpAnyH_take (i := 0) (oi := { dst := some 51, op := Op.move (Operand.tmp 9), type := 4, pos := "l06_acl.go:100", after := #[], guard := none }) (v := ?_) rfl (by kernel_rfl) (by kernel_rfl) (by kernel_rfl) (fun _ _ _ h => h) (Or.inl ⟨by rfl, ?_⟩) (by assumption) ?_
        rotate_left
        · intro w hSw; (try dsimp only at hSw); go_simp; (try with_reducible rfl)
        (try simp only [Act.put, List.setIfInBounds_toArray, List.set_cons_zero, List.set_cons_succ])
        refine wpAnyH_take (i := 1) (oi := { dst := some 52, op := Op.move (Operand.tmp 51), type := 4, pos := "l06_acl.go:100", after := #[{ on := 0, ground := Ground.data }], guard := none }) (v := ?_) rfl (by kernel_rfl) (by kernel_rfl) (by kernel_rfl) (fun _ _ _ h => h) (Or.inl ⟨by rfl, ?_⟩) (by assumption) ?_
        rotate_left
        · intro w hSw; (try dsimp only at hSw); go_simp; (try with_reducible rfl)
        (try simp only [Act.put, List.setIfInBounds_toArray, List.set_cons_zero, List.set_cons_succ])
        refine wpAnyH_take (i := 2) (oi := { dst := some 53, op := Op.move (Operand.tmp 0), type := 25, pos := "l06_acl.go:100", after := #[{ on := 1, ground := Ground.guard }], guard := some (1, true) }) (v := undef) rfl (by kernel_rfl) (by kernel_rfl) (by kernel_rfl) (fun _ _ _ h => h) (Or.inr ⟨by rfl, rfl⟩) (by assumption) ?_
        (try simp only [Act.put, List.setIfInBounds_toArray, List.set_cons_zero, List.set_cons_succ])
        refine wpAnyH_take (i := 3) (oi := { dst := some 54, op := Op.move (Operand.tmp 1), type := 9, pos := "l06_acl.go:100", after := #[{ on := 1, ground := Ground.guard }], guard := some (1, true) }) (v := undef) rfl (by kernel_rfl) (by kernel_rfl) (by kernel_rfl) (fun _ _ _ h => h) (Or.inr ⟨by rfl, rfl⟩) (by assumption) ?_
        (try simp only [Act.put, List.setIfInBounds_toArray, List.set_cons_zero, List.set_cons_succ])
        refine wpAnyH_take (i := 4) (oi := { dst := some 55, op := Op.fieldAddr 42 (Operand.tmp 6) 0, type := 0, pos := "l06_acl.go:100", after := #[{ on := 1, ground := Ground.guard }], guard := some (1, true) }) (v := undef) rfl (by kernel_rfl) (by kernel_rfl) (by kernel_rfl) (fun _ _ _ h => h) (Or.inr ⟨by rfl, rfl⟩) (by assumption) ?_
        (try simp only [Act.put, List.setIfInBounds_toArray, List.set_cons_zero, List.set_cons_succ])
        refine wpAnyH_take (i := 5) (oi := { dst := some 56, op := Op.load 32 (Operand.tmp 55), type := 32, pos := "l06_acl.go:100", after := #[{ on := 4, ground := Ground.data }, { on := 1, ground := Ground.guard }], guard := some (1, true) }) (v := undef) rfl (by kernel_rfl) (by kernel_rfl) (by kernel_rfl) (fun _ _ _ h => h) (Or.inr ⟨by rfl, rfl⟩) (by assumption) ?_
        (try simp only [Act.put, List.setIfInBounds_toArray, List.set_cons_zero, List.set_cons_succ])
        refine wpAnyH_take (i := 6) (oi := { dst := some 57, op := Op.move (Operand.tmp 3), type := 61, pos := "l06_acl.go:100", after := #[{ on := 1, ground := Ground.guard }], guard := some (1, true) }) (v := undef) rfl (by kernel_rfl) (by kernel_rfl) (by kernel_rfl) (fun _ _ _ h => h) (Or.inr ⟨by rfl, rfl⟩) (by assumption) ?_
        (try simp only [Act.put, List.setIfInBounds_toArray, List.set_cons_zero, List.set_cons_succ])
        refine wpAnyH_take (i := 7) (oi := { dst := some 58, op := Op.move (Operand.tmp 10), type := 3, pos := "l06_acl.go:100", after := #[{ on := 1, ground := Ground.guard }], guard := some (1, true) }) (v := undef) rfl (by kernel_rfl) (by kernel_rfl) (by kernel_rfl) (fun _ _ _ h => h) (Or.inr ⟨by rfl, rfl⟩) (by assumption) ?_
        (try simp only [Act.put, List.setIfInBounds_toArray, List.set_cons_zero, List.set_cons_succ])
        refine wpAnyH_take (i := 8) (oi := { dst := some 59, op := Op.indexAddr 61 (Operand.tmp 57) (Operand.tmp 58), type := 0, pos := "l06_acl.go:100", after := #[{ on := 6, ground := Ground.data }, { on := 7, ground := Ground.data }, { on := 1, ground := Ground.guard }], guard := some (1, true) }) (v := undef) rfl (by kernel_rfl) (by kernel_rfl) (by kernel_rfl) (fun _ _ _ h => h) (Or.inr ⟨by rfl, rfl⟩) (by assumption) ?_
        (try simp only [Act.put, List.setIfInBounds_toArray, List.set_cons_zero, List.set_cons_succ])
        refine wpAnyH_take (i := 9) (oi := { dst := some 60, op := Op.load 9 (Operand.tmp 59), type := 9, pos := "l06_acl.go:100", after := #[{ on := 8, ground := Ground.data }, { on := 1, ground := Ground.guard }], guard := some (1, true) }) (v := undef) rfl (by kernel_rfl) (by kernel_rfl) (by kernel_rfl) (fun _ _ _ h => h) (Or.inr ⟨by rfl, rfl⟩) (by assumption) ?_
        (try simp only [Act.put, List.setIfInBounds_toArray, List.set_cons_zero, List.set_cons_succ])
        refine wpAnyH_take (i := 10) (oi := { dst := some 61, op := Op.call { callee := Callee.value (Operand.func 73), args := #[Operand.tmp 53, Operand.tmp 54, Operand.tmp 56, Operand.tmp 60, Operand.const (Value.int IntKind.i64 2)], argTypes := #[25, 9, 32, 9, 2] }, type := 4, pos := "l06_acl.go:100", after := #[{ on := 2, ground := Ground.data }, { on := 3, ground := Ground.data }, { on := 5, ground := Ground.data }, { on := 9, ground := Ground.data }, { on := 1, ground := Ground.chain }, { on := 1, ground := Ground.guard }], guard := some (1, true) }) (v := undef) rfl (by kernel_rfl) (by kernel_rfl) (by kernel_rfl) (fun _ _ _ h => h) (Or.inr ⟨by rfl, rfl⟩) (by assumption) ?_
        (try simp only [Act.put, List.setIfInBounds_toArray, List.set_cons_zero, List.set_cons_succ])
        refine wpAnyH_take (i := 11) (oi := { dst := some 62, op := Op.pick (Operand.tmp 52) (Operand.tmp 61) (Operand.const (Value.bool false)), type := 4, pos := "l06_acl.go:100", after := #[{ on := 1, ground := Ground.data }, { on := 10, ground := Ground.data }], guard := none }) (v := ?_) rfl (by kernel_rfl) (by kernel_rfl) (by kernel_rfl) (fun _ _ _ h => h) (Or.inl ⟨by rfl, ?_⟩) (by assumption) ?_
        rotate_left
        · intro w hSw; (try dsimp only at hSw); go_simp; (try with_reducible rfl)
        (try simp only [Act.put, List.setIfInBounds_toArray, List.set_cons_zero, List.set_cons_succ])
        refine wpAnyH_take (i := 12) (oi := { dst := some 9, op := Op.assign (Operand.tmp 62), type := 4, pos := "l06_acl.go:100", after := #[{ on := 11, ground := Ground.data }, { on := 10, ground := Ground.chain }, { on := 0, ground := Ground.phase }, { on := 1, ground := Ground.phase }, { on := 2, ground := Ground.phase }, { on := 3, ground := Ground.phase }, { on := 4, ground := Ground.phase }, { on := 5, ground := Ground.phase }, { on := 6, ground := Ground.phase }, { on := 7, ground := Ground.phase }, { on := 8, ground := Ground.phase }, { on := 9, ground := Ground.phase }, { on := 10, ground := Ground.phase }, { on := 11, ground := Ground.phase }], guard := none }) (v := ?_) rfl (by kernel_rfl) (by kernel_rfl) (by kernel_rfl) (fun _ _ _ h => h) (Or.inl ⟨by rfl, ?_⟩) (by assumption) ?_
        rotate_left
        · intro w hSw; (try dsimp only at hSw); go_simp; (try with_reducible rfl)
        (try simp only [Act.put, List.setIfInBounds_toArray, List.set_cons_zero, List.set_cons_succ])
        refine wpAnyH_done (by kernel_rfl) ?_ _
        go_wp2
        go_roundw
        case rel => exact ⟨k + 1, false, by omega, by go_num, rfl, HT3.out, HT2.out, hbel.trans (BD.mono hbel.size), HK.out.below BD⟩
        case measure => simp [intOf]; omega
      clear m0 m1 hc
      have HT4 : Hid (n6 = (names.take (k + 1)).all (fun n => grantB d who dn n 2)) := Lib.hid (by rw [← HT2.out]; simp)
      go_wp2
      refine wp_region_held_drew (S := (fun Z' => Z'.cell? ⟨w.heap.size, 0, none⟩ = some (.slice o2 dn.length k2) ∧ Z'.cell? ⟨b, off + k, none⟩ = some (.string a0))) (by kernel_rfl) ?_ (fun hHeld => ?_)
      · (try dsimp only)
        first | exact SK.out _ (by assumption) | exact SK.out _ BD
      refine wpAnyH_take (i := 0) (oi := { dst := some 51, op := Op.move (Operand.tmp 9), type := 4, pos := "l06_acl.go:100", after := #[], guard := none }) (v := ?_) rfl (by kernel_rfl) (by kernel_rfl) (by kernel_rfl) (fun _ _ _ h => h) (Or.inl ⟨by rfl, ?_⟩) (by assumption) ?_
      rotate_left
      · intro w hSw; (try dsimp only at hSw); go_simp; (try with_reducible rfl)
      (try simp only [Act.put, List.setIfInBounds_toArray, List.set_cons_zero, List.set_cons_succ])
      refine wpAnyH_take (i := 1) (oi := { dst := some 52, op := Op.move (Operand.tmp 51), type := 4, pos := "l06_acl.go:100", after := #[{ on := 0, ground := Ground.data }], guard := none }) (v := ?_) rfl (by kernel_rfl) (by kernel_rfl) (by kernel_rfl) (fun _ _ _ h => h) (Or.inl ⟨by rfl, ?_⟩) (by assumption) ?_
      rotate_left
      · intro w hSw; (try dsimp only at hSw); go_simp; (try with_reducible rfl)
      (try simp only [Act.put, List.setIfInBounds_toArray, List.set_cons_zero, List.set_cons_succ])
      refine wpAnyH_take (i := 2) (oi := { dst := some 53, op := Op.move (Operand.tmp 0), type := 25, pos := "l06_acl.go:100", after := #[{ on := 1, ground := Ground.guard }], guard := some (1, true) }) (v := ?_) rfl (by kernel_rfl) (by kernel_rfl) (by kernel_rfl) (fun _ _ _ h => h) (Or.inl ⟨by rfl, ?_⟩) (by assumption) ?_
      rotate_left
      · intro w hSw; (try dsimp only at hSw); go_simp; (try with_reducible rfl)
      (try simp only [Act.put, List.setIfInBounds_toArray, List.set_cons_zero, List.set_cons_succ])
      refine wpAnyH_take (i := 3) (oi := { dst := some 54, op := Op.move (Operand.tmp 1), type := 9, pos := "l06_acl.go:100", after := #[{ on := 1, ground := Ground.guard }], guard := some (1, true) }) (v := ?_) rfl (by kernel_rfl) (by kernel_rfl) (by kernel_rfl) (fun _ _ _ h => h) (Or.inl ⟨by rfl, ?_⟩) (by assumption) ?_
      rotate_left
      · intro w hSw; (try dsimp only at hSw); go_simp; (try with_reducible rfl)
      (try simp only [Act.put, List.setIfInBounds_toArray, List.set_cons_zero, List.set_cons_succ])
      refine wpAnyH_take (i := 4) (oi := { dst := some 55, op := Op.fieldAddr 42 (Operand.tmp 6) 0, type := 0, pos := "l06_acl.go:100", after := #[{ on := 1, ground := Ground.guard }], guard := some (1, true) }) (v := ?_) rfl (by kernel_rfl) (by kernel_rfl) (by kernel_rfl) (fun _ _ _ h => h) (Or.inl ⟨by rfl, ?_⟩) (by assumption) ?_
      rotate_left
      · intro w hSw; (try dsimp only at hSw); go_simp; (try with_reducible rfl)
      (try simp only [Act.put, List.setIfInBounds_toArray, List.set_cons_zero, List.set_cons_succ])
      refine wpAnyH_take (i := 5) (oi := { dst := some 56, op := Op.load 32 (Operand.tmp 55), type := 32, pos := "l06_acl.go:100", after := #[{ on := 4, ground := Ground.data }, { on := 1, ground := Ground.guard }], guard := some (1, true) }) (v := ?_) rfl (by kernel_rfl) (by kernel_rfl) (by kernel_rfl) (fun _ _ _ h => h) (Or.inl ⟨by rfl, ?_⟩) (by assumption) ?_
      rotate_left
      · intro w hSw; (try dsimp only at hSw); go_simp; (try with_reducible rfl)
      (try simp only [Act.put, List.setIfInBounds_toArray, List.set_cons_zero, List.set_cons_succ])
      refine wpAnyH_take (i := 6) (oi := { dst := some 57, op := Op.move (Operand.tmp 3), type := 61, pos := "l06_acl.go:100", after := #[{ on := 1, ground := Ground.guard }], guard := some (1, true) }) (v := ?_) rfl (by kernel_rfl) (by kernel_rfl) (by kernel_rfl) (fun _ _ _ h => h) (Or.inl ⟨by rfl, ?_⟩) (by assumption) ?_
      rotate_left
      · intro w hSw; (try dsimp only at hSw); go_simp; (try with_reducible rfl)
      (try simp only [Act.put, List.setIfInBounds_toArray, List.set_cons_zero, List.set_cons_succ])
      refine wpAnyH_take (i := 7) (oi := { dst := some 58, op := Op.move (Operand.tmp 10), type := 3, pos := "l06_acl.go:100", after := #[{ on := 1, ground := Ground.guard }], guard := some (1, true) }) (v := ?_) rfl (by kernel_rfl) (by kernel_rfl) (by kernel_rfl) (fun _ _ _ h => h) (Or.inl ⟨by rfl, ?_⟩) (by assumption) ?_
      rotate_left
      · intro w hSw; (try dsimp only at hSw); go_simp; (try with_reducible rfl)
      (try simp only [Act.put, List.setIfInBounds_toArray, List.set_cons_zero, List.set_cons_succ])
      refine wpAnyH_take (i := 8) (oi := { dst := some 59, op := Op.indexAddr 61 (Operand.tmp 57) (Operand.tmp 58), type := 0, pos := "l06_acl.go:100", after := #[{ on := 6, ground := Ground.data }, { on := 7, ground := Ground.data }, { on := 1, ground := Ground.guard }], guard := some (1, true) }) (v := ?_) rfl (by kernel_rfl) (by kernel_rfl) (by kernel_rfl) (fun _ _ _ h => h) (Or.inl ⟨by rfl, ?_⟩) (by assumption) ?_
      rotate_left
      · intro w hSw; (try dsimp only at hSw); go_simp; (try with_reducible rfl)
      (try simp only [Act.put, List.setIfInBounds_toArray, List.set_cons_zero, List.set_cons_succ])
      refine wpAnyH_take (i := 9) (oi := { dst := some 60, op := Op.load 9 (Operand.tmp 59), type := 9, pos := "l06_acl.go:100", after := #[{ on := 8, ground := Ground.data }, { on := 1, ground := Ground.guard }], guard := some (1, true) }) (v := ?_) rfl (by kernel_rfl) (by kernel_rfl) (by kernel_rfl) (fun _ _ _ h => h) (Or.inl ⟨by rfl, ?_⟩) (by assumption) ?_
      rotate_left
      · intro w hSw; (try dsimp only at hSw); go_simp; (try with_reducible rfl)
      (try simp only [Act.put, List.setIfInBounds_toArray, List.set_cons_zero, List.set_cons_succ])
      refine wpAnyH_ready (rs := [10]) (by kernel_rfl) (by simp) ?_
      refine AllReadyH.cons (o := { dst := some 61, op := Op.call { callee := Callee.value (Operand.func 73), args := #[Operand.tmp 53, Operand.tmp 54, Operand.tmp 56, Operand.tmp 60, Operand.const (Value.int IntKind.i64 2)], argTypes := #[25, 9, 32, 9, 2] }, type := 4, pos := "l06_acl.go:100", after := #[{ on := 2, ground := Ground.data }, { on := 3, ground := Ground.data }, { on := 5, ground := Ground.data }, { on := 9, ground := Ground.data }, { on := 1, ground := Ground.chain }, { on := 1, ground := Ground.guard }], guard := some (1, true) }) rfl (fun K hK => ?_) (AllReadyH.nil)
      go_simp
      refine (CG0.out _ (hbel.trans (BD.mono hbel.size))).mono ?_
      rintro e w7 ⟨rfl, hb⟩
      have b7 := (hbel.trans (BD.mono hbel.size)).trans (hb.mono (hbel.trans (BD.mono hbel.size)).size)
      have D7 := BD.trans (hb.mono BD.size)
      clear hb
      clear hHeld
      refine hK.out _ _ ?_ (fun hHeld => ?_)
      · (try dsimp only)
        first | exact SK.out _ (by assumption) | exact SK.out _ BD
      clear hK K
      (try simp only [Act.put, List.setIfInBounds_toArray, List.set_cons_zero, List.set_cons_succ])
      refine wpAnyH_take (i := 11) (oi := { dst := some 62, op := Op.pick (Operand.tmp 52) (Operand.tmp 61) (Operand.const (Value.bool false)), type := 4, pos := "l06_acl.go:100", after := #[{ on := 1, ground := Ground.data }, { on := 10, ground := Ground.data }], guard := none }) (v := ?_) rfl (by kernel_rfl) (by kernel_rfl) (by kernel_rfl) (fun _ _ _ h => h) (Or.inl ⟨by rfl, ?_⟩) (by assumption) ?_
      rotate_left
      · intro w hSw; (try dsimp only at hSw); go_simp; (try with_reducible rfl)
      (try simp only [Act.put, List.setIfInBounds_toArray, List.set_cons_zero, List.set_cons_succ])
      refine wpAnyH_take (i := 12) (oi := { dst := some 9, op := Op.assign (Operand.tmp 62), type := 4, pos := "l06_acl.go:100", after := #[{ on := 11, ground := Ground.data }, { on := 10, ground := Ground.chain }, { on := 0, ground := Ground.phase }, { on := 1, ground := Ground.phase }, { on := 2, ground := Ground.phase }, { on := 3, ground := Ground.phase }, { on := 4, ground := Ground.phase }, { on := 5, ground := Ground.phase }, { on := 6, ground := Ground.phase }, { on := 7, ground := Ground.phase }, { on := 8, ground := Ground.phase }, { on := 9, ground := Ground.phase }, { on := 10, ground := Ground.phase }, { on := 11, ground := Ground.phase }], guard := none }) (v := ?_) rfl (by kernel_rfl) (by kernel_rfl) (by kernel_rfl) (fun _ _ _ h => h) (Or.inl ⟨by rfl, ?_⟩) (by assumption) ?_
      rotate_left
      · intro w hSw; (try dsimp only at hSw); go_simp; (try with_reducible rfl)
      (try simp only [Act.put, List.setIfInBounds_toArray, List.set_cons_zero, List.set_cons_succ])
      refine wpAnyH_done (by kernel_rfl) ?_ _
      go_wp2
      go_roundw
      case rel => exact ⟨k + 1, n6, by omega, by go_num, rfl, HT3.out, HT4.out, b7, HK.out.below D7⟩
      case measure => simp [intOf]; omega
    · have HR2 : Hid (R = b') := Lib.hid (by
        have h1 := Ha.out; have h2 := Hb.out
        rw [List.take_of_length_le (by omega)] at h1 h2
        rw [HR.out, h2]
        have := all_both nmL (fun n => grantB d who dn n 2) names
        rw [h1] at this
        show names.all (fun n => nmL n && grantB d who dn n 2) = _
        rw [this]; rfl)
      go_wp2
      go_ret
      exact ⟨ret_bool HR2.out.symm, hbel⟩
end Go.Proofs.Ytglgkocjdockdaa
/- The helpers of the laws: sizes. -/
namespace Go.Proofs.Ytglgkocjdockdaa
open Go.RowKit
attribute [local go_sem ↓] Go.wp_at_zero Go.wp_at_succ

set_option maxRecDepth 100000 in
set_option maxHeartbeats 4000000 in
theorem szRdn_at  (a0 : ByteArray) (a1 : ByteArray)  (left : Int) (w : World)  (hl : rdnE.long (a0, a1)) (g0 : 0 ≤ left) (g1 : left ≤ 1048576) :
    Calls Try.prog 71 #[.agg #[.string a0, .string a1], .int .i64 left] w fun e w' => e = .returned (.int .i64 (leftR (rdnE.sz (a0, a1)) left)) ∧ Below w.heap.size w w' := by
  have HE : Hid (rdnE.sz (a0, a1) = a0.size + (a1.size)) := Lib.hid rfl
  have z0 : a0.size ≤ 9223372036854775807 := by have := hl.1; simp only [strE, maxLen] at this; omega
  have z1 : a1.size ≤ 9223372036854775807 := by have := hl.2; simp only [strE, maxLen] at this; omega
  clear hl
  generalize rdnE.sz (a0, a1) = z at *
  by_cases g2 : (a0.size : Int) ≤ left
  · have c0 : ¬ left - (a0.size : Int) < 0 := by omega
    by_cases g3 : (a1.size : Int) ≤ left - (a0.size : Int)
    · have c1 : ¬ left - (a0.size : Int) - (a1.size : Int) < 0 := by omega
      have HR : Hid (leftR z left = left - (a0.size : Int) - (a1.size : Int)) := Lib.hid (by rw [leftR_pos (by rw [HE.out]; omega), HE.out]; omega)
      go_enter Try.func71, Try.ntmps71
      go_wp2
      go_ret
      exact ⟨ret_int (by rw [HR.out]), (Below.refl _ _).alloc (Nat.le_refl _) _⟩
    · have c1 : left - (a0.size : Int) - (a1.size : Int) < 0 := by omega
      have HR : Hid (leftR z left = -1) := Lib.hid (leftR_neg (by rw [HE.out]; omega))
      go_enter Try.func71, Try.ntmps71
      go_wp2
      go_ret
      exact ⟨ret_int (by rw [HR.out]), (Below.refl _ _).alloc (Nat.le_refl _) _⟩
  · have c0 : left - (a0.size : Int) < 0 := by omega
    have HR : Hid (leftR z left = -1) := Lib.hid (leftR_neg (by rw [HE.out]; omega))
    go_enter Try.func71, Try.ntmps71
    go_wp2
    go_ret
    exact ⟨ret_int (by rw [HR.out]), (Below.refl _ _).alloc (Nat.le_refl _) _⟩
set_option maxRecDepth 100000 in
set_option maxHeartbeats 4000000 in
theorem szRdnS_at {S : Bs} (v : Value) (d : List RdnT) (left : Int) (w : World) (hd : SlAt rdnE S w d v) (hf : (slE rdnE).long d) (h0 : 0 ≤ left) (h1 : left ≤ 1048576) :
    Calls Try.prog 17 #[v, .int .i64 left] w fun e w' => e = .returned (.int .i64 (leftR (d.length + szL rdnE d) left)) ∧ Below w.heap.size w w' := by
  obtain ⟨ao, cap, rfl⟩ := hd.sl
  have hl : d.length ≤ 9223372036854775807 := hf.1
  have HD := Lib.hid hd; have HF := Lib.hid hf; clear hd hf
  by_cases g : (d.length : Int) ≤ left
  · have c1 : ¬ left - (d.length : Int) < 0 := by omega
    go_enter Try.func17, Try.ntmps17
    go_wp2
    go_loopw [1, 5] (fun t i wr => ∃ k : Nat, k ≤ d.length ∧ i = .int .i64 k ∧ ((d.length + szL rdnE (d.take k) : Nat) : Int) ≤ left ∧ t = .int .i64 (left - (d.length + szL rdnE (d.take k) : Nat)) ∧ Below w.heap.size w wr) (fun _ i _ => d.length - (intOf i).toNat)
    case atStart => exact ⟨0, Nat.zero_le _, rfl, by simp [szL]; omega, by simp [szL], Below.refl _ _⟩
    case round =>
      clear c1
      obtain ⟨k, hk, rfl, hle, rfl, hbel⟩ := hrel
      have hsz := hbel.size
      by_cases hlt : k < d.length
      · obtain ⟨b, off, a0, a1, rfl, _, hb0, hx, ⟨hc0, hc1⟩, _⟩ := rdn_row (HD.out.frame (Same.of_below' hbel)) hlt
        have HZ : Hid (rdnE.long (a0, a1)) := Lib.hid (by have := HF.out.2 _ (List.getElem_mem hlt); rw [hx] at this; exact this)
        have HT : Hid (szL rdnE (d.take (k + 1)) = szL rdnE (d.take k) + rdnE.sz (a0, a1)) := Lib.hid (by rw [szL_take rdnE d k hlt, hx])
        have HTl := Lib.hid (szL_le rdnE d (k + 1))
        clear hx
        generalize hq : d.length + szL rdnE (d.take k) = q at *
        have Hq := Lib.hid hq; clear hq
        have HC := Lib.hid (szRdn_at a0 a1 (left - (q : Int)) wr  HZ.out (by omega) (by omega))
        generalize rdnE.sz (a0, a1) = r at *
        go_wp2_with fail
        refine HC.out.mono ?_
        rintro e w2 ⟨rfl, hb2⟩
        have B2 := Lib.hid (hbel.trans (hb2.mono hsz)); clear hb2
        by_cases hfit : (r : Int) ≤ left - (q : Int)
        · rw [leftR_pos hfit]
          have c2 : ¬ left - (q : Int) - (r : Int) < 0 := by omega
          go_wp2
          go_roundw
          case rel =>
            have e := HT.out
            have e3 := Hq.out
            exact ⟨k + 1, by omega, by go_num, by omega, by rw [e]; congr 1; omega, B2.out⟩
          case measure => simp [intOf]; omega
        · rw [leftR_neg hfit]
          have HR : Hid (leftR (d.length + szL rdnE d) left = -1) := Lib.hid (leftR_neg (by
            have := HT.out; have := HTl.out; have := Hq.out; omega))
          go_wp2
          go_ret
          exact ⟨ret_int (by rw [HR.out]), B2.out⟩
      · have HR : Hid (leftR (d.length + szL rdnE d) left = left - (d.length + szL rdnE (d.take k) : Nat)) := Lib.hid (by
          rw [List.take_of_length_le (by omega)] at hle ⊢
          exact leftR_pos hle)
        go_wp2
        go_ret
        exact ⟨ret_int (by rw [HR.out]), hbel⟩
  · have HR : Hid (leftR (d.length + szL rdnE d) left = -1) := Lib.hid (leftR_neg (by omega))
    have c1 : left - (d.length : Int) < 0 := by omega
    go_enter Try.func17, Try.ntmps17
    go_wp2
    go_ret
    exact ⟨ret_int (by rw [HR.out]), Below.refl _ _⟩
end Go.Proofs.Ytglgkocjdockdaa
/- The helpers of the laws: sizes. -/
namespace Go.Proofs.Ytglgkocjdockdaa
open Go.RowKit
attribute [local go_sem ↓] Go.wp_at_zero Go.wp_at_succ

set_option maxRecDepth 100000 in
set_option maxHeartbeats 4000000 in
theorem szStringS_at {S : Bs} (v : Value) (d : List ByteArray) (left : Int) (w : World) (hd : SlAt strE S w d v) (hf : (slE strE).long d) (h0 : 0 ≤ left) (h1 : left ≤ 1048576) :
    Calls Try.prog 39 #[v, .int .i64 left] w fun e w' => e = .returned (.int .i64 (leftR (d.length + szL strE d) left)) ∧ Below w.heap.size w w' := by
  obtain ⟨ao, cap, rfl⟩ := hd.sl
  have hl : d.length ≤ 9223372036854775807 := hf.1
  have HD := Lib.hid hd; have HF := Lib.hid hf; clear hd hf
  by_cases g : (d.length : Int) ≤ left
  · have c1 : ¬ left - (d.length : Int) < 0 := by omega
    go_enter Try.func39, Try.ntmps39
    go_wp2
    go_loopw [1, 5] (fun t i wr => ∃ k : Nat, k ≤ d.length ∧ i = .int .i64 k ∧ ((d.length + szL strE (d.take k) : Nat) : Int) ≤ left ∧ t = .int .i64 (left - (d.length + szL strE (d.take k) : Nat)) ∧ Below w.heap.size w wr) (fun _ i _ => d.length - (intOf i).toNat)
    case atStart => exact ⟨0, Nat.zero_le _, rfl, by simp [szL]; omega, by simp [szL], Below.refl _ _⟩
    case round =>
      clear c1
      obtain ⟨k, hk, rfl, hle, rfl, hbel⟩ := hrel
      have hsz := hbel.size
      by_cases hlt : k < d.length
      · obtain ⟨b, off, A, rfl, _, hb0, hx, hc1⟩ := str_row (HD.out.frame (Same.of_below' hbel)) hlt
        have hz : A.size ≤ maxLen := by have := HF.out.2 _ (List.getElem_mem hlt); rw [hx] at this; exact this
        unfold maxLen at hz
        have HT : Hid (szL strE (d.take (k + 1)) = szL strE (d.take k) + A.size) := Lib.hid (by rw [szL_take strE d k hlt, hx]; rfl)
        have HTl := Lib.hid (szL_le strE d (k + 1))
        clear hx
        generalize hq : d.length + szL strE (d.take k) = q at *
        have Hq := Lib.hid hq; clear hq
        by_cases hfit : ((A.size : Nat) : Int) ≤ left - (q : Int)
        · have c2 : ¬ left - (q : Int) - (A.size : Int) < 0 := by omega
          go_wp2
          go_roundw
          case rel =>
            have e := HT.out
            have e3 := Hq.out
            exact ⟨k + 1, by omega, by go_num, by omega, by rw [e]; congr 1; omega, hbel⟩
          case measure => simp [intOf]; omega
        · have c2 : left - (q : Int) - (A.size : Int) < 0 := by omega
          have HR : Hid (leftR (d.length + szL strE d) left = -1) := Lib.hid (leftR_neg (by
            have := HT.out; have := HTl.out; have := Hq.out; omega))
          go_wp2
          go_ret
          exact ⟨ret_int (by rw [HR.out]), hbel⟩
      · have HR : Hid (leftR (d.length + szL strE d) left = left - (d.length + szL strE (d.take k) : Nat)) := Lib.hid (by
          rw [List.take_of_length_le (by omega)] at hle ⊢
          exact leftR_pos hle)
        go_wp2
        go_ret
        exact ⟨ret_int (by rw [HR.out]), hbel⟩
  · have HR : Hid (leftR (d.length + szL strE d) left = -1) := Lib.hid (leftR_neg (by omega))
    have c1 : left - (d.length : Int) < 0 := by omega
    go_enter Try.func39, Try.ntmps39
    go_wp2
    go_ret
    exact ⟨ret_int (by rw [HR.out]), Below.refl _ _⟩
end Go.Proofs.Ytglgkocjdockdaa
/- The helpers of the laws: sizes. -/
namespace Go.Proofs.Ytglgkocjdockdaa
open Go.RowKit
attribute [local go_sem ↓] Go.wp_at_zero Go.wp_at_succ

set_option maxRecDepth 100000 in
set_option maxHeartbeats 4000000 in
theorem szRule_at {S : Bs} (a0 : ByteArray) (a1 : (List RdnT)) (a2 : (List ByteArray)) (a3 : Int) (a4 : Bool) (v1 v2 : Value) (left : Int) (w : World) (h1 : SlAt rdnE S w a1 v1) (h2 : SlAt strE S w a2 v2) (hl : ruleE.long (a0, a1, a2, a3, a4)) (g0 : 0 ≤ left) (g1 : left ≤ 1048576) :
    Calls Try.prog 66 #[.agg #[.string a0, v1, v2, .int .i64 a3, .bool a4], .int .i64 left] w fun e w' => e = .returned (.int .i64 (leftR (ruleE.sz (a0, a1, a2, a3, a4)) left)) ∧ Below w.heap.size w w' := by
  have HE : Hid (ruleE.sz (a0, a1, a2, a3, a4) = a0.size + ((a1.length + szL rdnE a1) + ((a2.length + szL strE a2) + (0 + (0))))) := Lib.hid rfl
  have z0 : a0.size ≤ 9223372036854775807 := by have := hl.1; simp only [strE, maxLen] at this; omega
  have C1 : Hid (∀ (l : Int) (W : World), Below w.heap.size w W → 0 ≤ l → l ≤ 1048576 → Calls Try.prog 17 #[v1, .int .i64 l] W fun e w' => e = .returned (.int .i64 (leftR (a1.length + szL rdnE a1) l)) ∧ Below W.heap.size W w') := Lib.hid (fun l W b p q => szRdnS_at v1 a1 l W (h1.frame (Same.of_below' b)) hl.2.1 p q)
  have C2 : Hid (∀ (l : Int) (W : World), Below w.heap.size w W → 0 ≤ l → l ≤ 1048576 → Calls Try.prog 39 #[v2, .int .i64 l] W fun e w' => e = .returned (.int .i64 (leftR (a2.length + szL strE a2) l)) ∧ Below W.heap.size W w') := Lib.hid (fun l W b p q => szStringS_at v2 a2 l W (h2.frame (Same.of_below' b)) hl.2.2.1 p q)
  obtain ⟨o1, k1, rfl⟩ := h1.sl
  obtain ⟨o2, k2, rfl⟩ := h2.sl
  clear h1 h2
  clear hl
  generalize ruleE.sz (a0, a1, a2, a3, a4) = z at *
  generalize (a1.length + szL rdnE a1) = r1 at *
  generalize (a2.length + szL strE a2) = r2 at *
  generalize a1.length = m1 at *
  generalize a2.length = m2 at *
  by_cases g2 : (a0.size : Int) ≤ left
  · have c0 : ¬ left - (a0.size : Int) < 0 := by omega
    go_enter Try.func66, Try.ntmps66
    go_wp2_with fail
    refine calls_by (fun W => Below w.heap.size w W ∧ Blk W w.heap.size [.string a0, .slice o1 m1 k1, .slice o2 m2 k2, .int .i64 a3, .bool a4]) ⟨more' (Below.refl _ _) _, Blk.new _ _ _⟩ ?_
    rintro w1 ⟨b1, t1⟩
    have T1 := Lib.hid t1; clear t1
    refine (C1.out _ w1 b1 (by omega) (by omega)).mono ?_
    rintro e w2 ⟨rfl, hb⟩
    have T2 := Lib.hid (T1.out.below hb); have b2 := b1.trans (hb.mono b1.size)
    clear hb b1 T1 C1
    by_cases g3 : (r1 : Int) ≤ left - (a0.size : Int)
    · rw [leftR_pos g3]
      have c1 : ¬ left - (a0.size : Int) - (r1 : Int) < 0 := by omega
      have q0 := T2.out.cell 0 rfl
      have q1 := T2.out.cell 1 rfl
      have q2 := T2.out.cell 2 rfl
      have q3 := T2.out.cell 3 rfl
      have q4 := T2.out.cell 4 rfl
      go_wp2_with fail
      refine (C2.out _ w2 b2 (by omega) (by omega)).mono ?_
      rintro e w3 ⟨rfl, hb⟩
      have T3 := Lib.hid (T2.out.below hb); have b3 := b2.trans (hb.mono b2.size)
      clear hb b2 T2 C2 q0 q1 q2 q3 q4
      by_cases g4 : (r2 : Int) ≤ left - (a0.size : Int) - (r1 : Int)
      · rw [leftR_pos g4]
        have c2 : ¬ left - (a0.size : Int) - (r1 : Int) - (r2 : Int) < 0 := by omega
        have q0 := T3.out.cell 0 rfl
        have q1 := T3.out.cell 1 rfl
        have q2 := T3.out.cell 2 rfl
        have q3 := T3.out.cell 3 rfl
        have q4 := T3.out.cell 4 rfl
        have HR : Hid (leftR z left = left - (a0.size : Int) - (r1 : Int) - (r2 : Int)) := Lib.hid (by rw [leftR_pos (by rw [HE.out]; omega), HE.out]; omega)
        go_wp2
        go_ret
        exact ⟨ret_int (by rw [HR.out]), b3⟩
      · rw [leftR_neg g4]
        have HR : Hid (leftR z left = -1) := Lib.hid (leftR_neg (by rw [HE.out]; omega))
        go_wp2
        go_ret
        exact ⟨ret_int (by rw [HR.out]), b3⟩
    · rw [leftR_neg g3]
      have HR : Hid (leftR z left = -1) := Lib.hid (leftR_neg (by rw [HE.out]; omega))
      go_wp2
      go_ret
      exact ⟨ret_int (by rw [HR.out]), b2⟩
  · have c0 : left - (a0.size : Int) < 0 := by omega
    have HR : Hid (leftR z left = -1) := Lib.hid (leftR_neg (by rw [HE.out]; omega))
    go_enter Try.func66, Try.ntmps66
    go_wp2
    go_ret
    exact ⟨ret_int (by rw [HR.out]), (Below.refl _ _).alloc (Nat.le_refl _) _⟩
set_option maxRecDepth 100000 in
set_option maxHeartbeats 4000000 in
theorem szRuleS_at {S : Bs} (v : Value) (d : List RuleT) (left : Int) (w : World) (hd : SlAt ruleE S w d v) (hf : (slE ruleE).long d) (h0 : 0 ≤ left) (h1 : left ≤ 1048576) :
    Calls Try.prog 12 #[v, .int .i64 left] w fun e w' => e = .returned (.int .i64 (leftR (d.length + szL ruleE d) left)) ∧ Below w.heap.size w w' := by
  obtain ⟨ao, cap, rfl⟩ := hd.sl
  have hl : d.length ≤ 9223372036854775807 := hf.1
  have HD := Lib.hid hd; have HF := Lib.hid hf; clear hd hf
  by_cases g : (d.length : Int) ≤ left
  · have c1 : ¬ left - (d.length : Int) < 0 := by omega
    go_enter Try.func12, Try.ntmps12
    go_wp2
    go_loopw [1, 5] (fun t i wr => ∃ k : Nat, k ≤ d.length ∧ i = .int .i64 k ∧ ((d.length + szL ruleE (d.take k) : Nat) : Int) ≤ left ∧ t = .int .i64 (left - (d.length + szL ruleE (d.take k) : Nat)) ∧ Below w.heap.size w wr) (fun _ i _ => d.length - (intOf i).toNat)
    case atStart => exact ⟨0, Nat.zero_le _, rfl, by simp [szL]; omega, by simp [szL], Below.refl _ _⟩
    case round =>
      clear c1
      obtain ⟨k, hk, rfl, hle, rfl, hbel⟩ := hrel
      have hsz := hbel.size
      by_cases hlt : k < d.length
      · obtain ⟨b, off, a0, a1, a2, a3, a4, v1, v2, rfl, _, hb0, hx, ⟨hc0, hc1, hc2, hc3, hc4⟩, s1, s2, _⟩ := rule_row (HD.out.frame (Same.of_below' hbel)) hlt
        have HV1 := Lib.hid s1; clear s1
        have HV2 := Lib.hid s2; clear s2
        have HZ : Hid (ruleE.long (a0, a1, a2, a3, a4)) := Lib.hid (by have := HF.out.2 _ (List.getElem_mem hlt); rw [hx] at this; exact this)
        have HT : Hid (szL ruleE (d.take (k + 1)) = szL ruleE (d.take k) + ruleE.sz (a0, a1, a2, a3, a4)) := Lib.hid (by rw [szL_take ruleE d k hlt, hx])
        have HTl := Lib.hid (szL_le ruleE d (k + 1))
        clear hx
        generalize hq : d.length + szL ruleE (d.take k) = q at *
        have Hq := Lib.hid hq; clear hq
        have HC := Lib.hid (szRule_at a0 a1 a2 a3 a4 v1 v2 (left - (q : Int)) wr HV1.out HV2.out HZ.out (by omega) (by omega))
        generalize ruleE.sz (a0, a1, a2, a3, a4) = r at *
        go_wp2_with fail
        refine HC.out.mono ?_
        rintro e w2 ⟨rfl, hb2⟩
        have B2 := Lib.hid (hbel.trans (hb2.mono hsz)); clear hb2
        by_cases hfit : (r : Int) ≤ left - (q : Int)
        · rw [leftR_pos hfit]
          have c2 : ¬ left - (q : Int) - (r : Int) < 0 := by omega
          go_wp2
          go_roundw
          case rel =>
            have e := HT.out
            have e3 := Hq.out
            exact ⟨k + 1, by omega, by go_num, by omega, by rw [e]; congr 1; omega, B2.out⟩
          case measure => simp [intOf]; omega
        · rw [leftR_neg hfit]
          have HR : Hid (leftR (d.length + szL ruleE d) left = -1) := Lib.hid (leftR_neg (by
            have := HT.out; have := HTl.out; have := Hq.out; omega))
          go_wp2
          go_ret
          exact ⟨ret_int (by rw [HR.out]), B2.out⟩
      · have HR : Hid (leftR (d.length + szL ruleE d) left = left - (d.length + szL ruleE (d.take k) : Nat)) := Lib.hid (by
          rw [List.take_of_length_le (by omega)] at hle ⊢
          exact leftR_pos hle)
        go_wp2
        go_ret
        exact ⟨ret_int (by rw [HR.out]), hbel⟩
  · have HR : Hid (leftR (d.length + szL ruleE d) left = -1) := Lib.hid (leftR_neg (by omega))
    have c1 : left - (d.length : Int) < 0 := by omega
    go_enter Try.func12, Try.ntmps12
    go_wp2
    go_ret
    exact ⟨ret_int (by rw [HR.out]), Below.refl _ _⟩
end Go.Proofs.Ytglgkocjdockdaa
/- The helpers of the laws: copies. -/
namespace Go.Proofs.Ytglgkocjdockdaa
open Go.RowKit
attribute [local go_sem ↓] Go.wp_at_zero Go.wp_at_succ

theorem Try.infoTRdn : (Try.prog.info? 104).map (fun i => (i.zero, i.size, i.bytes)) = some (some (.agg #[.string ByteArray.empty, .string ByteArray.empty]), 2, 32) := by kernel_rfl
theorem mkRdn (n : Nat) (hn : n ≤ 1048576) (W : World) : ∃ C : Array Value, C.size = n * 2 ∧
    (Instr.makeSlice 32 (.int .i64 (n : Int)) (.int .i64 (n : Int))).run Try.prog W = .ok (.slice (some ⟨W.heap.size, 0, none⟩) n n) (W.alloc (.cells C 104)) := by
  obtain ⟨i0, hi, hz0, hz1, hz2⟩ := info_parts Try.infoTRdn
  have := run_make (P := Try.prog) W 32 104 i0 _ Try.underlying32 hi hz0 .i64 .i64 (n : Int) (n : Int) (by omega) (by omega) (by rw [hz2]; omega) (by omega)
  rw [hz1] at this
  refine ⟨madeCells (Value.cells (.agg #[.string ByteArray.empty, .string ByteArray.empty])) (n * 2), size_madeCells _ _, ?_⟩
  simpa using this
set_option maxRecDepth 100000 in
set_option maxHeartbeats 4000000 in
theorem toRdn_at  (a0 : ByteArray) (a1 : ByteArray)  (w : World)   :
    Calls Try.prog 74 #[.agg #[.string a0, .string a1]] w fun e w' => e = .returned (.agg #[.string a0, .string a1]) ∧ rdnE.Own (Fresh w w') w' (a0, a1) [.string a0, .string a1] ∧ Below w.heap.size w w' := by
  go_enter Try.func74, Try.ntmps74
  go_wp2
  refine bodyPost_ret (v := .agg #[.string a0, .string a1]) (by simp [results, Try.results74, go_sem]) rfl ⟨rfl, ?_, ?_⟩
  · exact rdn_pack a0 a1 trivial
  · exact more' (more' (more' (Below.refl _ _) _) _) _
set_option maxRecDepth 100000 in
set_option maxHeartbeats 4000000 in
theorem toRdnS_at {S : Bs} (v : Value) (d : List RdnT) (w : World) (hd : SlAt rdnE S w d v) (hz : d.length + szL rdnE d ≤ 1048576) :
    Calls Try.prog 19 #[v] w fun e w' => ∃ u, e = .returned u ∧ SlOwn rdnE (Fresh w w') w' d u ∧ Below w.heap.size w w' := by
  obtain ⟨ao, cap, rfl⟩ := hd.sl
  have HD := Lib.hid hd; clear hd
  have HL := Lib.hid hz
  have hl : d.length ≤ 1048576 := by omega
  clear hz
  obtain ⟨C, hC, hmk⟩ := mkRdn d.length hl w
  have HC := Lib.hid hC; clear hC
  go_enter Try.func19, Try.ntmps19
  go_wp2
  clear hmk
  go_loopw [4] (fun i wr => ∃ k : Nat, k ≤ d.length ∧ i = .int .i64 k ∧ Build rdnE wr w.heap.size d.length (d.take k) ∧ Below w.heap.size w wr) (fun i _ => d.length - (intOf i).toNat)
  case atStart => exact ⟨0, Nat.zero_le _, rfl, Build.new _ _ _ _ HC.out, (Below.refl _ _).alloc (Nat.le_refl _) _⟩
  case round =>
    obtain ⟨k, hk, rfl, hR, hbel⟩ := hrel
    have HR := Lib.hid hR; clear hR
    have hsz := hbel.size
    by_cases hlt : k < d.length
    · obtain ⟨b, off, a0, a1, rfl, _, hb0, hx, ⟨hc0, hc1⟩, _⟩ := rdn_row (HD.out.frame (Same.of_below' hbel)) hlt
      have HT : Hid (d.take (k + 1) = d.take k ++ [(a0, a1)]) := Lib.hid (by rw [List.take_succ_eq_append_getElem hlt, hx])
      have HK : Hid ((d.take k).length = k) := Lib.hid (by rw [List.length_take]; omega)
      have HZ : Hid (rdnE.sz (a0, a1) ≤ 1048576) := Lib.hid (by have h1 := szL_mem rdnE (List.getElem_mem hlt); rw [hx] at h1; have := HL.out; omega)
      clear hx
      go_wp2_with fail
      refine (toRdn_at a0 a1 wr ).mono ?_
      rintro e w2 ⟨rfl, hq, hb2⟩
      have HR2 := Lib.hid (HR.out.below hb2)
      have B2 := Lib.hid (hbel.trans (hb2.mono hsz))
      have HQ := Lib.hid hq
      have HB := Lib.hid hb2
      clear hb2 hq hc0 hc1
      obtain ⟨x0, c0⟩ := HR2.out.cell (k := k) (u := 0) hlt (by decide)
      have c0 : w2.cell? ⟨w.heap.size, k * 2, none⟩ = some x0 := c0
      have f0 := HR2.out.soft (k * 2)
      obtain ⟨x1, c1⟩ := HR2.out.cell (k := k) (u := 1) hlt (by decide)
      have c1 : w2.cell? ⟨w.heap.size, k * 2 + 1, none⟩ = some x1 := c1
      have f1 := HR2.out.soft (k * 2 + 1)
      go_wp2
      go_roundw
      case rel => exact ⟨k + 1, by omega, by go_num, by rw [HT.out]; exact HR.out.row (o := k * 2) (cs := [.string a0, .string a1]) (by rw [HK.out]; exact hlt) (by rw [HK.out]; rfl) HB.out HQ.out, ((B2.out.setCell (Nat.le_refl _) _).setCell (Nat.le_refl _) _)⟩
      case measure => simp [intOf]; omega
    · have e : d.take k = d := List.take_of_length_le (by omega)
      rw [e] at HR
      clear e
      go_wp2
      go_ret
      exact ⟨_, rfl, HR.out.own, hbel⟩
end Go.Proofs.Ytglgkocjdockdaa
/- The helpers of the laws: copies. -/
namespace Go.Proofs.Ytglgkocjdockdaa
open Go.RowKit
attribute [local go_sem ↓] Go.wp_at_zero Go.wp_at_succ

theorem Try.infoTString : (Try.prog.info? 9).map (fun i => (i.zero, i.size, i.bytes)) = some (some (.string ByteArray.empty), 1, 16) := by kernel_rfl
theorem mkString (n : Nat) (hn : n ≤ 1048576) (W : World) : ∃ C : Array Value, C.size = n * 1 ∧
    (Instr.makeSlice 61 (.int .i64 (n : Int)) (.int .i64 (n : Int))).run Try.prog W = .ok (.slice (some ⟨W.heap.size, 0, none⟩) n n) (W.alloc (.cells C 9)) := by
  obtain ⟨i0, hi, hz0, hz1, hz2⟩ := info_parts Try.infoTString
  have := run_make (P := Try.prog) W 61 9 i0 _ Try.underlying61 hi hz0 .i64 .i64 (n : Int) (n : Int) (by omega) (by omega) (by rw [hz2]; omega) (by omega)
  rw [hz1] at this
  refine ⟨madeCells (Value.cells (.string ByteArray.empty)) (n * 1), size_madeCells _ _, ?_⟩
  simpa using this
set_option maxRecDepth 100000 in
set_option maxHeartbeats 4000000 in
theorem toStringS_at {S : Bs} (v : Value) (d : List ByteArray) (w : World) (hd : SlAt strE S w d v) (hz : d.length + szL strE d ≤ 1048576) :
    Calls Try.prog 41 #[v] w fun e w' => ∃ u, e = .returned u ∧ SlOwn strE (Fresh w w') w' d u ∧ Below w.heap.size w w' := by
  obtain ⟨ao, cap, rfl⟩ := hd.sl
  have HD := Lib.hid hd; clear hd
  have HL := Lib.hid hz
  have hl : d.length ≤ 1048576 := by omega
  clear hz
  obtain ⟨C, hC, hmk⟩ := mkString d.length hl w
  have HC := Lib.hid hC; clear hC
  go_enter Try.func41, Try.ntmps41
  go_wp2
  clear hmk
  go_loopw [4] (fun i wr => ∃ k : Nat, k ≤ d.length ∧ i = .int .i64 k ∧ Build strE wr w.heap.size d.length (d.take k) ∧ Below w.heap.size w wr) (fun i _ => d.length - (intOf i).toNat)
  case atStart => exact ⟨0, Nat.zero_le _, rfl, Build.new _ _ _ _ HC.out, (Below.refl _ _).alloc (Nat.le_refl _) _⟩
  case round =>
    obtain ⟨k, hk, rfl, hR, hbel⟩ := hrel
    have HR := Lib.hid hR; clear hR
    have hsz := hbel.size
    by_cases hlt : k < d.length
    · obtain ⟨b, off, A, rfl, _, hb0, hx, hc1⟩ := str_row (HD.out.frame (Same.of_below' hbel)) hlt
      have HT : Hid (d.take (k + 1) = d.take k ++ [A]) := Lib.hid (by rw [List.take_succ_eq_append_getElem hlt, hx])
      have HK : Hid ((d.take k).length = k) := Lib.hid (by rw [List.length_take]; omega)
      clear hx
      obtain ⟨x, c0⟩ := HR.out.cell (k := k) (u := 0) hlt (by decide)
      have c0 : wr.cell? ⟨w.heap.size, k, none⟩ = some x := by have e1 : k * strE.n + 0 = k := by (show k * 1 + 0 = k); omega
                                                               rw [e1] at c0; exact c0
      have f0 := HR.out.soft k
      go_wp2
      go_roundw
      case rel => exact ⟨k + 1, by omega, by go_num, by rw [HT.out]; exact HR.out.row (o := k) (cs := [.string A]) (by rw [HK.out]; exact hlt) (by rw [HK.out]; show k = k * 1; omega) (Below.refl _ _) rfl, hbel.setCell (Nat.le_refl _) _⟩
      case measure => simp [intOf]; omega
    · have e : d.take k = d := List.take_of_length_le (by omega)
      rw [e] at HR
      clear e
      go_wp2
      go_ret
      exact ⟨_, rfl, HR.out.own, hbel⟩
end Go.Proofs.Ytglgkocjdockdaa
/- The helpers of the laws: copies. -/
namespace Go.Proofs.Ytglgkocjdockdaa
open Go.RowKit
attribute [local go_sem ↓] Go.wp_at_zero Go.wp_at_succ

theorem Try.infoTRule : (Try.prog.info? 74).map (fun i => (i.zero, i.size, i.bytes)) = some (some (.agg #[.string ByteArray.empty, .slice none 0 0, .slice none 0 0, .int .i64 0, .bool false]), 5, 80) := by kernel_rfl
theorem mkRule (n : Nat) (hn : n ≤ 1048576) (W : World) : ∃ C : Array Value, C.size = n * 5 ∧
    (Instr.makeSlice 25 (.int .i64 (n : Int)) (.int .i64 (n : Int))).run Try.prog W = .ok (.slice (some ⟨W.heap.size, 0, none⟩) n n) (W.alloc (.cells C 74)) := by
  obtain ⟨i0, hi, hz0, hz1, hz2⟩ := info_parts Try.infoTRule
  have := run_make (P := Try.prog) W 25 74 i0 _ Try.underlying25 hi hz0 .i64 .i64 (n : Int) (n : Int) (by omega) (by omega) (by rw [hz2]; omega) (by omega)
  rw [hz1] at this
  refine ⟨madeCells (Value.cells (.agg #[.string ByteArray.empty, .slice none 0 0, .slice none 0 0, .int .i64 0, .bool false])) (n * 5), size_madeCells _ _, ?_⟩
  simpa using this
set_option maxRecDepth 100000 in
set_option maxHeartbeats 4000000 in
theorem toRule_at {S : Bs} (a0 : ByteArray) (a1 : (List RdnT)) (a2 : (List ByteArray)) (a3 : Int) (a4 : Bool) (v1 v2 : Value) (w : World) (h1 : SlAt rdnE S w a1 v1) (h2 : SlAt strE S w a2 v2) (hz : ruleE.sz (a0, a1, a2, a3, a4) ≤ 1048576) :
    Calls Try.prog 68 #[.agg #[.string a0, v1, v2, .int .i64 a3, .bool a4]] w fun e w' => ∃ u1 u2, e = .returned (.agg #[.string a0, u1, u2, .int .i64 a3, .bool a4]) ∧ ruleE.Own (Fresh w w') w' (a0, a1, a2, a3, a4) [.string a0, u1, u2, .int .i64 a3, .bool a4] ∧ Below w.heap.size w w' := by
  have HE : ruleE.sz (a0, a1, a2, a3, a4) = a0.size + ((a1.length + szL rdnE a1) + ((a2.length + szL strE a2) + (0 + (0)))) := rfl
  rw [HE] at hz
  have C1 : Hid (∀ W : World, Below w.heap.size w W → Calls Try.prog 19 #[v1] W fun e w' => ∃ u, e = .returned u ∧ SlOwn rdnE (Fresh W w') w' a1 u ∧ Below W.heap.size W w') := Lib.hid (fun W b => toRdnS_at v1 a1 W (h1.frame (Same.of_below' b)) (by omega))
  have C2 : Hid (∀ W : World, Below w.heap.size w W → Calls Try.prog 41 #[v2] W fun e w' => ∃ u, e = .returned u ∧ SlOwn strE (Fresh W w') w' a2 u ∧ Below W.heap.size W w') := Lib.hid (fun W b => toStringS_at v2 a2 W (h2.frame (Same.of_below' b)) (by omega))
  obtain ⟨o1, k1, rfl⟩ := h1.sl
  obtain ⟨o2, k2, rfl⟩ := h2.sl
  clear hz HE h1 h2
  go_enter Try.func68, Try.ntmps68
  go_wp2_with fail
  refine calls_by (fun W => Below w.heap.size w W ∧ Blk W w.heap.size [.string a0, .slice o1 a1.length k1, .slice o2 a2.length k2, .int .i64 a3, .bool a4] ∧ Blk W (w.heap.size + 1) [.string ⟨#[]⟩, .slice none 0 0, .slice none 0 0, .int .i64 0, .bool false] ∧ Blk W (w.heap.size + 1 + 1) [.string a0, .slice none 0 0, .slice none 0 0, .int .i64 0, .bool false]) ⟨more' (more' (more' (Below.refl _ _) _) _) _, ((Blk.new _ _ _).alloc _).alloc _, (blk_at _ _ _ (by simp)).alloc _, blk_at _ _ _ (by simp)⟩ ?_
  rintro W0 ⟨b0, t0, r0, s0⟩
  have hn : w.heap.size + 1 + 1 < W0.heap.size := s0.lt
  refine (C1.out W0 b0).mono ?_
  rintro e y1 ⟨u1, rfl, q1, hb⟩
  obtain ⟨p1, j1, rfl⟩ := q1.at.sl
  have T := Lib.hid (t0.below hb); have Rr := Lib.hid (r0.below hb); have U := Lib.hid (s0.below hb); have B := Lib.hid (b0.trans (hb.mono b0.size)); have hs1 := hb.size
  have Q1 := Lib.hid q1
  clear t0 r0 s0 b0 hb q1 C1
  have m0 := T.out.cell 0 rfl
  have c0 := U.out.cell 0 rfl
  have f0 := U.out.soft 0
  have m1 := T.out.cell 1 rfl
  have c1 := U.out.cell 1 rfl
  have f1 := U.out.soft 1
  have m2 := T.out.cell 2 rfl
  have c2 := U.out.cell 2 rfl
  have f2 := U.out.soft 2
  have m3 := T.out.cell 3 rfl
  have c3 := U.out.cell 3 rfl
  have f3 := U.out.soft 3
  have m4 := T.out.cell 4 rfl
  have c4 := U.out.cell 4 rfl
  have f4 := U.out.soft 4
  go_wp2_with fail
  have hW : y1.heap.size = y1.heap.size := rfl
  refine calls_by (fun W => y1.heap.size ≤ W.heap.size ∧ Below w.heap.size w W ∧ Blk W w.heap.size [.string a0, .slice o1 a1.length k1, .slice o2 a2.length k2, .int .i64 a3, .bool a4] ∧ Blk W (w.heap.size + 1) [.string ⟨#[]⟩, .slice none 0 0, .slice none 0 0, .int .i64 0, .bool false] ∧ Blk W (w.heap.size + 1 + 1) [.string a0, .slice p1 a1.length j1, .slice none 0 0, .int .i64 0, .bool false] ∧ SlOwn rdnE (Fresh W0 y1) W a1 (.slice p1 a1.length j1)) ⟨by simp [World.setCell], (B.out.setCell (p := ⟨w.heap.size + 1 + 1, 1, none⟩) (by show w.heap.size ≤ w.heap.size + 1 + 1; omega) _), (T.out.far (by omega) _), (Rr.out.far (by omega) _), (U.out.set 1 _), (Q1.out.frame (Same.set _ _ _ (by intro h; have := h.1; omega)))⟩ ?_
  clear T Rr U B Q1
  rintro W1 ⟨hl1, b1, t1, r1, s1, q1⟩
  have Q1 := Lib.hid q1; clear q1
  refine (C2.out W1 b1).mono ?_
  rintro e y2 ⟨u2, rfl, q2, hb⟩
  obtain ⟨p2, j2, rfl⟩ := q2.at.sl
  have T := Lib.hid (t1.below hb); have Rr := Lib.hid (r1.below hb); have U := Lib.hid (s1.below hb); have B := Lib.hid (b1.trans (hb.mono b1.size)); have hs2 := hb.size
  have Q2 := Lib.hid q2
  have Q1 := Lib.hid (Q1.out.frame (Same.of_below' hb))
  clear t1 r1 s1 b1 hb q2 C2
  clear c0 f0 m0 c1 f1 m1 c2 f2 m2 c3 f3 m3 c4 f4 m4
  have m0 := T.out.cell 0 rfl
  have c0 := U.out.cell 0 rfl
  have f0 := U.out.soft 0
  have m1 := T.out.cell 1 rfl
  have c1 := U.out.cell 1 rfl
  have f1 := U.out.soft 1
  have m2 := T.out.cell 2 rfl
  have c2 := U.out.cell 2 rfl
  have f2 := U.out.soft 2
  have m3 := T.out.cell 3 rfl
  have c3 := U.out.cell 3 rfl
  have f3 := U.out.soft 3
  have m4 := T.out.cell 4 rfl
  have c4 := U.out.cell 4 rfl
  have f4 := U.out.soft 4
  have TE := ((((((((Rr.out.far (R := w.heap.size + 1 + 1) (j := 2) (by omega) (.slice p2 a2.length j2)).far (R := w.heap.size + 1 + 1) (j := 3) (by omega) (.int .i64 a3)).far (R := w.heap.size + 1 + 1) (j := 4) (by omega) (.bool a4)).set 0 (.string a0)).set 1 (.slice p1 a1.length j1)).set 2 (.slice p2 a2.length j2)).set 3 (.int .i64 a3)).set 4 (.bool a4))
  have d0 := Rr.out.cell 0 rfl
  have g0 := Rr.out.soft 0
  have k100 := TE.cell 0 rfl
  have d1 := Rr.out.cell 1 rfl
  have g1 := Rr.out.soft 1
  have k101 := TE.cell 1 rfl
  have d2 := Rr.out.cell 2 rfl
  have g2 := Rr.out.soft 2
  have k102 := TE.cell 2 rfl
  have d3 := Rr.out.cell 3 rfl
  have g3 := Rr.out.soft 3
  have k103 := TE.cell 3 rfl
  have d4 := Rr.out.cell 4 rfl
  have g4 := Rr.out.soft 4
  have k104 := TE.cell 4 rfl
  clear TE
  go_wp2_with fail
  refine bodyPost_ret (v := .agg #[.string a0, .slice p1 a1.length j1, .slice p2 a2.length j2, .int .i64 a3, .bool a4]) (by simp [results, Try.results68, go_sem, k100, k101, k102, k103, k104]) rfl ⟨_, _, rfl, ?_, ?_⟩
  · exact rule_pack a0 a1 a2 a3 a4 _ _ (Fresh W0 y1) (Fresh W1 y2) ⟨((((((((Q1.out.frame (Same.set _ _ _ (by intro h; have := h.1; omega))).frame (Same.set _ _ _ (by intro h; have := h.1; omega))).frame (Same.set _ _ _ (by intro h; have := h.1; omega))).frame (Same.set _ _ _ (by intro h; have := h.1; omega))).frame (Same.set _ _ _ (by intro h; have := h.1; omega))).frame (Same.set _ _ _ (by intro h; have := h.1; omega))).frame (Same.set _ _ _ (by intro h; have := h.1; omega))).frame (Same.set _ _ _ (by intro h; have := h.1; omega))), (fun k z => ⟨by have := z.1; omega, by have := z.2; show _ < (World.heap _).size; simp only [setCell_size]; omega⟩), ((((((((Q2.out.frame (Same.set _ _ _ (by intro h; have := h.1; omega))).frame (Same.set _ _ _ (by intro h; have := h.1; omega))).frame (Same.set _ _ _ (by intro h; have := h.1; omega))).frame (Same.set _ _ _ (by intro h; have := h.1; omega))).frame (Same.set _ _ _ (by intro h; have := h.1; omega))).frame (Same.set _ _ _ (by intro h; have := h.1; omega))).frame (Same.set _ _ _ (by intro h; have := h.1; omega))).frame (Same.set _ _ _ (by intro h; have := h.1; omega))), (fun k z => ⟨by have := z.1; omega, by have := z.2; show _ < (World.heap _).size; simp only [setCell_size]; omega⟩), (fun k z y => by have := z.2; have := y.1; omega), trivial⟩
  · exact ((((((((B.out.setCell (p := ⟨w.heap.size + 1 + 1, 2, none⟩) (by show w.heap.size ≤ w.heap.size + 1 + 1; omega) _).setCell (p := ⟨w.heap.size + 1 + 1, 3, none⟩) (by show w.heap.size ≤ w.heap.size + 1 + 1; omega) _).setCell (p := ⟨w.heap.size + 1 + 1, 4, none⟩) (by show w.heap.size ≤ w.heap.size + 1 + 1; omega) _).setCell (p := ⟨w.heap.size + 1, 0, none⟩) (by show w.heap.size ≤ w.heap.size + 1; omega) _).setCell (p := ⟨w.heap.size + 1, 1, none⟩) (by show w.heap.size ≤ w.heap.size + 1; omega) _).setCell (p := ⟨w.heap.size + 1, 2, none⟩) (by show w.heap.size ≤ w.heap.size + 1; omega) _).setCell (p := ⟨w.heap.size + 1, 3, none⟩) (by show w.heap.size ≤ w.heap.size + 1; omega) _).setCell (p := ⟨w.heap.size + 1, 4, none⟩) (by show w.heap.size ≤ w.heap.size + 1; omega) _)
set_option maxRecDepth 100000 in
set_option maxHeartbeats 4000000 in
theorem toRuleS_at {S : Bs} (v : Value) (d : List RuleT) (w : World) (hd : SlAt ruleE S w d v) (hz : d.length + szL ruleE d ≤ 1048576) :
    Calls Try.prog 14 #[v] w fun e w' => ∃ u, e = .returned u ∧ SlOwn ruleE (Fresh w w') w' d u ∧ Below w.heap.size w w' := by
  obtain ⟨ao, cap, rfl⟩ := hd.sl
  have HD := Lib.hid hd; clear hd
  have HL := Lib.hid hz
  have hl : d.length ≤ 1048576 := by omega
  clear hz
  obtain ⟨C, hC, hmk⟩ := mkRule d.length hl w
  have HC := Lib.hid hC; clear hC
  go_enter Try.func14, Try.ntmps14
  go_wp2
  clear hmk
  go_loopw [4] (fun i wr => ∃ k : Nat, k ≤ d.length ∧ i = .int .i64 k ∧ Build ruleE wr w.heap.size d.length (d.take k) ∧ Below w.heap.size w wr) (fun i _ => d.length - (intOf i).toNat)
  case atStart => exact ⟨0, Nat.zero_le _, rfl, Build.new _ _ _ _ HC.out, (Below.refl _ _).alloc (Nat.le_refl _) _⟩
  case round =>
    obtain ⟨k, hk, rfl, hR, hbel⟩ := hrel
    have HR := Lib.hid hR; clear hR
    have hsz := hbel.size
    by_cases hlt : k < d.length
    · obtain ⟨b, off, a0, a1, a2, a3, a4, v1, v2, rfl, _, hb0, hx, ⟨hc0, hc1, hc2, hc3, hc4⟩, s1, s2, _⟩ := rule_row (HD.out.frame (Same.of_below' hbel)) hlt
      have HT : Hid (d.take (k + 1) = d.take k ++ [(a0, a1, a2, a3, a4)]) := Lib.hid (by rw [List.take_succ_eq_append_getElem hlt, hx])
      have HK : Hid ((d.take k).length = k) := Lib.hid (by rw [List.length_take]; omega)
      have HZ : Hid (ruleE.sz (a0, a1, a2, a3, a4) ≤ 1048576) := Lib.hid (by have h1 := szL_mem ruleE (List.getElem_mem hlt); rw [hx] at h1; have := HL.out; omega)
      clear hx
      have HV1 := Lib.hid s1; clear s1
      have HV2 := Lib.hid s2; clear s2
      obtain ⟨o1, k1, rfl⟩ := HV1.out.sl
      obtain ⟨o2, k2, rfl⟩ := HV2.out.sl
      go_wp2_with fail
      refine (toRule_at a0 a1 a2 a3 a4 _ _ wr HV1.out HV2.out HZ.out).mono ?_
      rintro e w2 ⟨u1, u2, rfl, hq, hb2⟩
      have HR2 := Lib.hid (HR.out.below hb2)
      have B2 := Lib.hid (hbel.trans (hb2.mono hsz))
      have HQ := Lib.hid hq
      have HB := Lib.hid hb2
      clear hb2 hq hc0 hc1 hc2 hc3 hc4
      have hsl := rule_sl HQ.out rfl
      obtain ⟨⟨p1, l1, j1, rfl⟩, ⟨p2, l2, j2, rfl⟩⟩ := hsl
      obtain ⟨x0, c0⟩ := HR2.out.cell (k := k) (u := 0) hlt (by decide)
      have c0 : w2.cell? ⟨w.heap.size, k * 5, none⟩ = some x0 := c0
      have f0 := HR2.out.soft (k * 5)
      obtain ⟨x1, c1⟩ := HR2.out.cell (k := k) (u := 1) hlt (by decide)
      have c1 : w2.cell? ⟨w.heap.size, k * 5 + 1, none⟩ = some x1 := c1
      have f1 := HR2.out.soft (k * 5 + 1)
      obtain ⟨x2, c2⟩ := HR2.out.cell (k := k) (u := 2) hlt (by decide)
      have c2 : w2.cell? ⟨w.heap.size, k * 5 + 2, none⟩ = some x2 := c2
      have f2 := HR2.out.soft (k * 5 + 2)
      obtain ⟨x3, c3⟩ := HR2.out.cell (k := k) (u := 3) hlt (by decide)
      have c3 : w2.cell? ⟨w.heap.size, k * 5 + 3, none⟩ = some x3 := c3
      have f3 := HR2.out.soft (k * 5 + 3)
      obtain ⟨x4, c4⟩ := HR2.out.cell (k := k) (u := 4) hlt (by decide)
      have c4 : w2.cell? ⟨w.heap.size, k * 5 + 4, none⟩ = some x4 := c4
      have f4 := HR2.out.soft (k * 5 + 4)
      go_wp2
      go_roundw
      case rel => exact ⟨k + 1, by omega, by go_num, by rw [HT.out]; exact HR.out.row (o := k * 5) (cs := [.string a0, .slice p1 l1 j1, .slice p2 l2 j2, .int .i64 a3, .bool a4]) (by rw [HK.out]; exact hlt) (by rw [HK.out]; rfl) HB.out HQ.out, (((((B2.out.setCell (Nat.le_refl _) _).setCell (Nat.le_refl _) _).setCell (Nat.le_refl _) _).setCell (Nat.le_refl _) _).setCell (Nat.le_refl _) _)⟩
      case measure => simp [intOf]; omega
    · have e : d.take k = d := List.take_of_length_le (by omega)
      rw [e] at HR
      clear e
      go_wp2
      go_ret
      exact ⟨_, rfl, HR.out.own, hbel⟩
end Go.Proofs.Ytglgkocjdockdaa
/- The helpers of the laws: comparisons. -/
namespace Go.Proofs.Ytglgkocjdockdaa
open Go.RowKit
attribute [local go_sem ↓] Go.wp_at_zero Go.wp_at_succ

set_option maxRecDepth 100000 in
set_option maxHeartbeats 4000000 in
theorem eqRdn_at  (w0 : World) (a0 : ByteArray) (a1 : ByteArray)   (w : World) (hB : Below w0.heap.size w0 w)    :
    Calls Try.prog 77 #[.agg #[.string a0, .string a1], .agg #[.string a0, .string a1]] w fun e w' => e = .returned (.bool true) ∧ Below w0.heap.size w0 w' := by
  have hk0 : (a0.toList == a0.toList) = true := by simp
  have hk1 : (a1.toList == a1.toList) = true := by simp
  have HB := Lib.hid hB
  clear hB
  go_enter Try.func77, Try.ntmps77
  go_wp2
  go_ret
  exact ⟨rfl, more' (more' HB.out _) _⟩
set_option maxRecDepth 100000 in
set_option maxHeartbeats 4000000 in
theorem eqRdnS_at {S S' : Bs} (v u : Value) (d : List RdnT) (w : World) (hd : SlAt rdnE S w d v) (hu : SlAt rdnE S' w d u) (hz : d.length + szL rdnE d ≤ 1048576) :
    Calls Try.prog 21 #[v, u] w fun e w' => e = .returned (.bool true) ∧ Below w.heap.size w w' := by
  obtain ⟨ao, ca, rfl⟩ := hd.sl
  obtain ⟨bo, cb, rfl⟩ := hu.sl
  have HA := Lib.hid hd; have HB := Lib.hid hu; clear hd hu
  have HL := Lib.hid hz
  have hl : d.length ≤ 1048576 := by omega
  clear hz
  go_enter Try.func21, Try.ntmps21
  go_wp2
  go_loopw [5] (fun i wr => ∃ k : Nat, k ≤ d.length ∧ i = .int .i64 k ∧ Below w.heap.size w wr) (fun i _ => d.length - (intOf i).toNat)
  case atStart => exact ⟨0, Nat.zero_le _, rfl, Below.refl _ _⟩
  case round =>
    obtain ⟨k, hk, rfl, hbel⟩ := hrel
    have hsz := hbel.size
    by_cases hlt : k < d.length
    · obtain ⟨p, off, a0, a1, rfl, _, hp0, hx, hc, _⟩ := rdn_row (HA.out.frame (Same.of_below' hbel)) hlt
      obtain ⟨q, off', x0, x1, rfl, _, hq0, hx', hd, _⟩ := rdn_row (HB.out.frame (Same.of_below' hbel)) hlt
      have hxx := hx.symm.trans hx'
      simp only [Prod.mk.injEq] at hxx
      obtain ⟨rfl, rfl⟩ := hxx
      have HZ : Hid (rdnE.sz (a0, a1) ≤ 1048576) := Lib.hid (by have h1 := szL_mem rdnE (List.getElem_mem hlt); rw [hx] at h1; have := HL.out; omega)
      clear hx hx'
      have C : Hid (∀ W : World, Below wr.heap.size wr W → Calls Try.prog 77 #[.agg #[.string a0, .string a1], .agg #[.string a0, .string a1]] W fun e w' => e = .returned (.bool true) ∧ Below wr.heap.size wr w') := Lib.hid (fun W b => eqRdn_at wr a0 a1 W b   )
      have SK : Hid (∀ W : World, Below wr.heap.size wr W → (Below wr.heap.size wr W ∧ (W.cell? ⟨p, off + k * 2, none⟩ = some (.string a0) ∧ W.cell? ⟨p, off + k * 2 + 1, none⟩ = some (.string a1)) ∧ (W.cell? ⟨q, off' + k * 2, none⟩ = some (.string a0) ∧ W.cell? ⟨q, off' + k * 2 + 1, none⟩ = some (.string a1)))) :=
        Lib.hid (fun W h => ⟨h, ⟨(h.cell (p := ⟨p, _, none⟩) hp0).trans hc.1, (h.cell (p := ⟨p, _, none⟩) hp0).trans hc.2⟩, ⟨(h.cell (p := ⟨q, _, none⟩) hq0).trans hd.1, (h.cell (p := ⟨q, _, none⟩) hq0).trans hd.2⟩⟩)
      have hbd : Below wr.heap.size wr wr.drew := (Below.refl _ _).drew
      have hb0 : Below wr.heap.size wr wr := Below.refl _ _
      have HBl := Lib.hid hbel
      clear hc hd hbel
      have g1 : (0 : Int) ≤ (k : Int) := by omega
      have g2 : (k : Int) < (d.length : Int) := by omega
      go_wp2_with fail
      go_region_held3 (fun W => Below wr.heap.size wr W ∧ (W.cell? ⟨p, off + k * 2, none⟩ = some (.string a0) ∧ W.cell? ⟨p, off + k * 2 + 1, none⟩ = some (.string a1)) ∧ (W.cell? ⟨q, off' + k * 2, none⟩ = some (.string a0) ∧ W.cell? ⟨q, off' + k * 2 + 1, none⟩ = some (.string a1)))
        (exact SK.out _ (by assumption))
        (first | (go_at_call 77; refine (C.out _ (by assumption)).mono ?_; rintro e w2 ⟨rfl, hb2⟩) | (fail "none"))
      all_goals
        go_wp2
        go_roundw
        case rel => exact ⟨k + 1, by omega, by go_num, HBl.out.trans (hb2.mono HBl.out.size)⟩
        case measure => simp [intOf]; omega
    · go_wp2
      go_ret
      exact ⟨rfl, hbel⟩
end Go.Proofs.Ytglgkocjdockdaa
/- The helpers of the laws: comparisons. -/
namespace Go.Proofs.Ytglgkocjdockdaa
open Go.RowKit
attribute [local go_sem ↓] Go.wp_at_zero Go.wp_at_succ

set_option maxRecDepth 100000 in
set_option maxHeartbeats 4000000 in
theorem eqStringS_at {S S' : Bs} (v u : Value) (d : List ByteArray) (w : World) (hd : SlAt strE S w d v) (hu : SlAt strE S' w d u) (hz : d.length + szL strE d ≤ 1048576) :
    Calls Try.prog 43 #[v, u] w fun e w' => e = .returned (.bool true) ∧ Below w.heap.size w w' := by
  obtain ⟨ao, ca, rfl⟩ := hd.sl
  obtain ⟨bo, cb, rfl⟩ := hu.sl
  have HA := Lib.hid hd; have HB := Lib.hid hu; clear hd hu
  have HL := Lib.hid hz
  have hl : d.length ≤ 1048576 := by omega
  clear hz
  go_enter Try.func43, Try.ntmps43
  go_wp2
  go_loopw [5] (fun i wr => ∃ k : Nat, k ≤ d.length ∧ i = .int .i64 k ∧ Below w.heap.size w wr) (fun i _ => d.length - (intOf i).toNat)
  case atStart => exact ⟨0, Nat.zero_le _, rfl, Below.refl _ _⟩
  case round =>
    obtain ⟨k, hk, rfl, hbel⟩ := hrel
    have hsz := hbel.size
    by_cases hlt : k < d.length
    · obtain ⟨p, off, A, rfl, _, hp0, hx, c1⟩ := str_row (HA.out.frame (Same.of_below' hbel)) hlt
      obtain ⟨q, off', A', rfl, _, hq0, hx', c2⟩ := str_row (HB.out.frame (Same.of_below' hbel)) hlt
      obtain rfl : A = A' := hx.symm.trans hx'
      clear hx hx'
      have hkk : (A.toList == A.toList) = true := by simp
      have g1 : (0 : Int) ≤ (k : Int) := by omega
      have g2 : (k : Int) < (d.length : Int) := by omega
      have hbd := hbel.drew
      have c1' : wr.drew.cell? ⟨p, off + k, none⟩ = some (.string A) := c1
      have c2' : wr.drew.cell? ⟨q, off' + k, none⟩ = some (.string A) := c2
      go_wp2_with fail
      go_region_held3 (fun W => Below w.heap.size w W ∧ W.cell? ⟨p, off + k, none⟩ = some (.string A) ∧ W.cell? ⟨q, off' + k, none⟩ = some (.string A))
        (first | exact ⟨hbel, c1, c2⟩ | exact ⟨hbd, c1', c2'⟩)
        (fail "none")
      all_goals
        go_wp2
        go_roundw
        case rel => exact ⟨k + 1, by omega, by go_num, by first | exact hbel | exact hbd⟩
        case measure => simp [intOf]; omega
    · go_wp2
      go_ret
      exact ⟨rfl, hbel⟩
end Go.Proofs.Ytglgkocjdockdaa
/- The helpers of the laws: comparisons. -/
namespace Go.Proofs.Ytglgkocjdockdaa
open Go.RowKit
attribute [local go_sem ↓] Go.wp_at_zero Go.wp_at_succ

set_option maxRecDepth 100000 in
set_option maxHeartbeats 4000000 in
theorem eqRule_at {S S' : Bs} (w0 : World) (a0 : ByteArray) (a1 : (List RdnT)) (a2 : (List ByteArray)) (a3 : Int) (a4 : Bool) (v1 v2 : Value) (u1 u2 : Value) (w : World) (hB : Below w0.heap.size w0 w) (h1 : SlAt rdnE S w0 a1 v1) (h2 : SlAt strE S w0 a2 v2) (g1 : SlAt rdnE S' w0 a1 u1) (g2 : SlAt strE S' w0 a2 u2) (hz : ruleE.sz (a0, a1, a2, a3, a4) ≤ 1048576) :
    Calls Try.prog 70 #[.agg #[.string a0, v1, v2, .int .i64 a3, .bool a4], .agg #[.string a0, u1, u2, .int .i64 a3, .bool a4]] w fun e w' => e = .returned (.bool true) ∧ Below w0.heap.size w0 w' := by
  have HE : ruleE.sz (a0, a1, a2, a3, a4) = a0.size + ((a1.length + szL rdnE a1) + ((a2.length + szL strE a2) + (0 + (0)))) := rfl
  rw [HE] at hz
  have hk0 : (a0.toList == a0.toList) = true := by simp
  have C1 : Hid (∀ W : World, Below w0.heap.size w0 W → Calls Try.prog 21 #[v1, u1] W fun e w' => e = .returned (.bool true) ∧ Below W.heap.size W w') := Lib.hid (fun W b => eqRdnS_at v1 u1 a1 W (h1.frame (Same.of_below' b)) (g1.frame (Same.of_below' b)) (by omega))
  have C2 : Hid (∀ W : World, Below w0.heap.size w0 W → Calls Try.prog 43 #[v2, u2] W fun e w' => e = .returned (.bool true) ∧ Below W.heap.size W w') := Lib.hid (fun W b => eqStringS_at v2 u2 a2 W (h2.frame (Same.of_below' b)) (g2.frame (Same.of_below' b)) (by omega))
  have hk3 : (a3 == a3) = true := by simp
  have hj3 : (a3 != a3) = false := by simp
  have hk4 : (a4 == a4) = true := by simp
  have hj4 : (a4 != a4) = false := by simp
  obtain ⟨o1, k1, rfl⟩ := h1.sl
  obtain ⟨p1, j1, rfl⟩ := g1.sl
  obtain ⟨o2, k2, rfl⟩ := h2.sl
  obtain ⟨p2, j2, rfl⟩ := g2.sl
  clear hz HE h1 g1 h2 g2
  have HB := Lib.hid hB
  clear hB
  go_enter Try.func70, Try.ntmps70
  go_wp2_with fail
  refine calls_by (fun W => Below w0.heap.size w0 W ∧ Blk W w.heap.size [.string a0, .slice o1 a1.length k1, .slice o2 a2.length k2, .int .i64 a3, .bool a4] ∧ Blk W (w.heap.size + 1) [.string a0, .slice p1 a1.length j1, .slice p2 a2.length j2, .int .i64 a3, .bool a4]) ⟨more' (more' HB.out _) _, (Blk.new _ _ _).alloc _, blk_at _ _ _ (by simp)⟩ ?_
  rintro W1 ⟨b1, x1, y1⟩
  have X1 := Lib.hid x1; have Y1 := Lib.hid y1; clear x1 y1
  refine (C1.out W1 b1).mono ?_
  rintro e W2 ⟨rfl, hb⟩
  have X2 := Lib.hid (X1.out.below hb); have Y2 := Lib.hid (Y1.out.below hb); have b2 := b1.trans (hb.mono b1.size)
  clear X1 Y1 hb b1 C1
  have m0 := X2.out.cell 0 rfl
  have n0 := Y2.out.cell 0 rfl
  have m1 := X2.out.cell 1 rfl
  have n1 := Y2.out.cell 1 rfl
  have m2 := X2.out.cell 2 rfl
  have n2 := Y2.out.cell 2 rfl
  have m3 := X2.out.cell 3 rfl
  have n3 := Y2.out.cell 3 rfl
  have m4 := X2.out.cell 4 rfl
  have n4 := Y2.out.cell 4 rfl
  go_wp2_with fail
  refine (C2.out W2 b2).mono ?_
  rintro e W3 ⟨rfl, hb⟩
  have X3 := Lib.hid (X2.out.below hb); have Y3 := Lib.hid (Y2.out.below hb); have b3 := b2.trans (hb.mono b2.size)
  clear X2 Y2 hb b2 C2 m0 n0 m1 n1 m2 n2 m3 n3 m4 n4
  have m0 := X3.out.cell 0 rfl
  have n0 := Y3.out.cell 0 rfl
  have m1 := X3.out.cell 1 rfl
  have n1 := Y3.out.cell 1 rfl
  have m2 := X3.out.cell 2 rfl
  have n2 := Y3.out.cell 2 rfl
  have m3 := X3.out.cell 3 rfl
  have n3 := Y3.out.cell 3 rfl
  have m4 := X3.out.cell 4 rfl
  have n4 := Y3.out.cell 4 rfl
  go_wp2
  go_ret
  exact ⟨rfl, b3⟩
set_option maxRecDepth 100000 in
set_option maxHeartbeats 4000000 in
theorem eqRuleS_at {S S' : Bs} (v u : Value) (d : List RuleT) (w : World) (hd : SlAt ruleE S w d v) (hu : SlAt ruleE S' w d u) (hz : d.length + szL ruleE d ≤ 1048576) :
    Calls Try.prog 16 #[v, u] w fun e w' => e = .returned (.bool true) ∧ Below w.heap.size w w' := by
  obtain ⟨ao, ca, rfl⟩ := hd.sl
  obtain ⟨bo, cb, rfl⟩ := hu.sl
  have HA := Lib.hid hd; have HB := Lib.hid hu; clear hd hu
  have HL := Lib.hid hz
  have hl : d.length ≤ 1048576 := by omega
  clear hz
  go_enter Try.func16, Try.ntmps16
  go_wp2
  go_loopw [5] (fun i wr => ∃ k : Nat, k ≤ d.length ∧ i = .int .i64 k ∧ Below w.heap.size w wr) (fun i _ => d.length - (intOf i).toNat)
  case atStart => exact ⟨0, Nat.zero_le _, rfl, Below.refl _ _⟩
  case round =>
    obtain ⟨k, hk, rfl, hbel⟩ := hrel
    have hsz := hbel.size
    by_cases hlt : k < d.length
    · obtain ⟨p, off, a0, a1, a2, a3, a4, v1, v2, rfl, _, hp0, hx, hc, s1, s2, _⟩ := rule_row (HA.out.frame (Same.of_below' hbel)) hlt
      obtain ⟨q, off', x0, x1, x2, x3, x4, u1, u2, rfl, _, hq0, hx', hd, t1, t2, _⟩ := rule_row (HB.out.frame (Same.of_below' hbel)) hlt
      have hxx := hx.symm.trans hx'
      simp only [Prod.mk.injEq] at hxx
      obtain ⟨rfl, rfl, rfl, rfl, rfl⟩ := hxx
      have HZ : Hid (ruleE.sz (a0, a1, a2, a3, a4) ≤ 1048576) := Lib.hid (by have h1 := szL_mem ruleE (List.getElem_mem hlt); rw [hx] at h1; have := HL.out; omega)
      clear hx hx'
      have C : Hid (∀ W : World, Below wr.heap.size wr W → Calls Try.prog 70 #[.agg #[.string a0, v1, v2, .int .i64 a3, .bool a4], .agg #[.string a0, u1, u2, .int .i64 a3, .bool a4]] W fun e w' => e = .returned (.bool true) ∧ Below wr.heap.size wr w') := Lib.hid (fun W b => eqRule_at wr a0 a1 a2 a3 a4 v1 v2 u1 u2 W b s1 s2 t1 t2 HZ.out)
      clear s1 t1 s2 t2 HZ
      have SK : Hid (∀ W : World, Below wr.heap.size wr W → (Below wr.heap.size wr W ∧ (W.cell? ⟨p, off + k * 5, none⟩ = some (.string a0) ∧ W.cell? ⟨p, off + k * 5 + 1, none⟩ = some (v1) ∧ W.cell? ⟨p, off + k * 5 + 2, none⟩ = some (v2) ∧ W.cell? ⟨p, off + k * 5 + 3, none⟩ = some (.int .i64 a3) ∧ W.cell? ⟨p, off + k * 5 + 4, none⟩ = some (.bool a4)) ∧ (W.cell? ⟨q, off' + k * 5, none⟩ = some (.string a0) ∧ W.cell? ⟨q, off' + k * 5 + 1, none⟩ = some (u1) ∧ W.cell? ⟨q, off' + k * 5 + 2, none⟩ = some (u2) ∧ W.cell? ⟨q, off' + k * 5 + 3, none⟩ = some (.int .i64 a3) ∧ W.cell? ⟨q, off' + k * 5 + 4, none⟩ = some (.bool a4)))) :=
        Lib.hid (fun W h => ⟨h, ⟨(h.cell (p := ⟨p, _, none⟩) hp0).trans hc.1, (h.cell (p := ⟨p, _, none⟩) hp0).trans hc.2.1, (h.cell (p := ⟨p, _, none⟩) hp0).trans hc.2.2.1, (h.cell (p := ⟨p, _, none⟩) hp0).trans hc.2.2.2.1, (h.cell (p := ⟨p, _, none⟩) hp0).trans hc.2.2.2.2⟩, ⟨(h.cell (p := ⟨q, _, none⟩) hq0).trans hd.1, (h.cell (p := ⟨q, _, none⟩) hq0).trans hd.2.1, (h.cell (p := ⟨q, _, none⟩) hq0).trans hd.2.2.1, (h.cell (p := ⟨q, _, none⟩) hq0).trans hd.2.2.2.1, (h.cell (p := ⟨q, _, none⟩) hq0).trans hd.2.2.2.2⟩⟩)
      have hbd : Below wr.heap.size wr wr.drew := (Below.refl _ _).drew
      have hb0 : Below wr.heap.size wr wr := Below.refl _ _
      have HBl := Lib.hid hbel
      clear hc hd hbel
      have g1 : (0 : Int) ≤ (k : Int) := by omega
      have g2 : (k : Int) < (d.length : Int) := by omega
      go_wp2_with fail
      go_region_held3 (fun W => Below wr.heap.size wr W ∧ (W.cell? ⟨p, off + k * 5, none⟩ = some (.string a0) ∧ W.cell? ⟨p, off + k * 5 + 1, none⟩ = some (v1) ∧ W.cell? ⟨p, off + k * 5 + 2, none⟩ = some (v2) ∧ W.cell? ⟨p, off + k * 5 + 3, none⟩ = some (.int .i64 a3) ∧ W.cell? ⟨p, off + k * 5 + 4, none⟩ = some (.bool a4)) ∧ (W.cell? ⟨q, off' + k * 5, none⟩ = some (.string a0) ∧ W.cell? ⟨q, off' + k * 5 + 1, none⟩ = some (u1) ∧ W.cell? ⟨q, off' + k * 5 + 2, none⟩ = some (u2) ∧ W.cell? ⟨q, off' + k * 5 + 3, none⟩ = some (.int .i64 a3) ∧ W.cell? ⟨q, off' + k * 5 + 4, none⟩ = some (.bool a4)))
        (exact SK.out _ (by assumption))
        (first | (go_at_call 70; refine (C.out _ (by assumption)).mono ?_; rintro e w2 ⟨rfl, hb2⟩) | (fail "none"))
      all_goals
        go_wp2
        go_roundw
        case rel => exact ⟨k + 1, by omega, by go_num, HBl.out.trans (hb2.mono HBl.out.size)⟩
        case measure => simp [intOf]; omega
    · go_wp2
      go_ret
      exact ⟨rfl, hbel⟩
end Go.Proofs.Ytglgkocjdockdaa
