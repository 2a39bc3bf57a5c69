/- Merged texts: Alw, szRdn, szString, szRule, toRdn, toString, toRule, eqRdn, eqString, eqRule, AllowedW, Opn. -/
import Derived.Test.YtglgkocjdockdaaM4
import Derived.Test.YtglgkocjdockdaaM5
import Derived.Test.YtglgkocjdockdaaM1
import Derived.Test.YtglgkocjdockdaaM2
import Derived.Laws.MakeOwn
import Derived.SliceStrings
import Derived.Test.YtglgkocjdockdaaRows
/- Allowed: what the texts of the program and of the specification return. -/
namespace Go.Proofs.Ytglgkocjdockdaa
open Go.RowKit
attribute [local go_sem ↓] Go.wp_at_zero Go.wp_at_succ

/-- what is asked of an access control list -/
noncomputable def accB (who : ByteArray) (dn : RdnL) (attr : ByteArray) (right : Int) : Bool := nmL who && (dnB dn && !(decide (dn.length = 0))) && ((attr.toList.isEmpty || nmL attr) && rtB right)
noncomputable def allowB (l : List RuleT) (who : ByteArray) (dn : RdnL) (attr : ByteArray) (right : Int) : Bool := aclB l && (accB who dn attr right && grantB l who dn attr right)
theorem nm_small {s : ByteArray} (h : nmL s = true) : s.size ≤ 20 := by unfold nmL at h; simp only [Bool.and_eq_true, decide_eq_true_eq] at h; exact h.1.1.2
set_option maxRecDepth 100000 in
set_option maxHeartbeats 4000000 in
theorem accessRight_any {S : Bs} (who : ByteArray) (dn : RdnL) (dv : Value) (attr : ByteArray) (right : Int) (w : World) (hd : SlAt rdnE S w dn dv) (hzd : dn.length + szL rdnE dn ≤ 1048576) (hw : who.size ≤ 1048576) (ha : attr.size ≤ 1048576) :
    Calls Try.prog 75 #[.agg #[.string who, dv, .string attr, .int .i64 right]] w fun e w' => e = .returned (.bool (accB who dn attr right)) ∧ Below w.heap.size w w' := by
  obtain ⟨o1, k1, rfl⟩ := hd.sl
  have HB : Hid (accB who dn attr right = (nmL who && (dnB dn && !(decide (dn.length = 0))) && ((attr.toList.isEmpty || nmL attr) && rtB right))) := Lib.hid rfl
  have CN : Hid (∀ W : World, Calls Try.prog 84 #[.string who] W fun e w' => e = .returned (.bool (nmL who)) ∧ W = w') := Lib.hid (fun W => NameRight_any who W (by unfold maxLen; omega))
  have CM : Hid (∀ W : World, Calls Try.prog 84 #[.string attr] W fun e w' => e = .returned (.bool (nmL attr)) ∧ W = w') := Lib.hid (fun W => NameRight_any attr W (by unfold maxLen; omega))
  have CD : Hid (∀ W : World, Below w.heap.size w W → Calls Try.prog 117 #[.slice o1 dn.length k1] W fun e w' => e = .returned (.bool (dnB dn)) ∧ Below W.heap.size W w') := Lib.hid (fun W b => DnRight_any o1 dn k1 W ((dn_of hd).below b) (fits_dn hzd))
  have hl : dn.length ≤ 1048576 := by omega
  clear hd hzd
  generalize nmL who = n1 at *
  generalize nmL attr = n2 at *
  generalize dnB dn = db at *
  generalize accB who dn attr right = R at *
  go_enter Try.func75, Try.ntmps75
  go_wp2_with fail
  refine (CN.out _).mono ?_
  rintro e w1 ⟨rfl, rfl⟩
  cases n1
  · have HR : Hid (R = false) := Lib.hid (by rw [HB.out]; rfl)
    go_wp2
    go_ret
    exact ⟨ret_bool HR.out.symm, more' (Below.refl _ _) _⟩
  go_wp2_with fail
  refine calls_by (fun W => Below w.heap.size w W ∧ Blk W w.heap.size [.string who, .slice o1 dn.length k1, .string attr, .int .i64 right]) ⟨more' (Below.refl _ _) _, Blk.new _ _ _⟩ ?_
  rintro W1 ⟨b1, t1⟩
  refine (CD.out W1 b1).mono ?_
  rintro e w2 ⟨rfl, hb⟩
  have b2 := b1.trans (hb.mono b1.size); have T2 := Lib.hid (t1.below hb)
  clear hb t1 b1
  cases db
  · have HR : Hid (R = false) := Lib.hid (by rw [HB.out]; rfl)
    go_wp2
    go_ret
    exact ⟨ret_bool HR.out.symm, b2⟩
  have m0 := T2.out.cell 0 rfl
  have m1 := T2.out.cell 1 rfl
  have m2 := T2.out.cell 2 rfl
  have m3 := T2.out.cell 3 rfl
  by_cases hn : dn.length = 0
  · have hn' : ((dn.length : Int) == 0) = true := by simp only [beq_iff_eq]; omega
    have HR : Hid (R = false) := Lib.hid (by rw [HB.out]; simp [hn])
    clear hn
    go_wp2
    go_ret
    exact ⟨ret_bool HR.out.symm, b2⟩
  have hn' : ((dn.length : Int) == 0) = false := by simp only [beq_eq_false_iff_ne, ne_eq]; omega
  have HB2 : Hid (R = ((attr.toList.isEmpty || n2) && rtB right)) := Lib.hid (by rw [HB.out]; simp [hn])
  cases he : attr.toList.isEmpty
  · cases n2
    · have HR : Hid (R = false) := Lib.hid (by rw [HB2.out, he]; rfl)
      go_wp2_with fail
      refine (CM.out _).mono ?_
      rintro e w3 ⟨rfl, rfl⟩
      go_wp2
      go_ret
      exact ⟨ret_bool HR.out.symm, b2⟩
    · have HR : Hid (R = rtB right) := Lib.hid (by rw [HB2.out, he]; rfl)
      go_wp2_with fail
      refine (CM.out _).mono ?_
      rintro e w3 ⟨rfl, rfl⟩
      go_wp2_with fail
      refine (isRight_any right w2).mono ?_
      rintro e w4 ⟨rfl, rfl⟩
      generalize rtB right = q at *
      go_wp2
      go_ret
      exact ⟨ret_bool HR.out.symm, b2⟩
  · have HR : Hid (R = rtB right) := Lib.hid (by rw [HB2.out, he]; rfl)
    go_wp2_with fail
    refine (isRight_any right w2).mono ?_
    rintro e w4 ⟨rfl, rfl⟩
    generalize rtB right = q at *
    go_wp2
    go_ret
    exact ⟨ret_bool HR.out.symm, b2⟩
set_option maxRecDepth 100000 in
set_option maxHeartbeats 4000000 in
theorem Allowed_any {S S' : Bs} (v : Value) (d : List RuleT) (who : ByteArray) (dn : RdnL) (dv : Value) (attr : ByteArray) (right : Int) (w : World) (hL : SlAt ruleE S w d v) (hd : SlAt rdnE S' w dn dv) (hz : d.length + szL ruleE d ≤ 1048576) (hzd : dn.length + szL rdnE dn ≤ 1048576) (hw : who.size ≤ 1048576) (ha : attr.size ≤ 1048576) :
    Calls Try.prog 20 #[v, .string who, dv, .string attr, .int .i64 right] w fun e w' => e = .returned (.bool (allowB d who dn attr right)) ∧ Below w.heap.size w w' := by
  have HB : Hid (allowB d who dn attr right = (aclB d && (accB who dn attr right && grantB d who dn attr right))) := Lib.hid rfl
  have CL : Hid (∀ W : World, Below w.heap.size w W → Calls Try.prog 15 #[v] W fun e w' => e = .returned (.bool (aclB d)) ∧ Below W.heap.size W w') := Lib.hid (fun W b => AclRight_any v d W (hL.frame (Same.of_below' b)) hz)
  have CA : Hid (∀ W : World, Below w.heap.size w W → Calls Try.prog 75 #[.agg #[.string who, dv, .string attr, .int .i64 right]] W fun e w' => e = .returned (.bool (accB who dn attr right)) ∧ Below W.heap.size W w') := Lib.hid (fun W b => accessRight_any who dn dv attr right W (hd.frame (Same.of_below' b)) hzd hw ha)
  have CG : Hid (∀ W : World, Below w.heap.size w W → Calls Try.prog 76 #[v, .agg #[.string who, dv, .string attr, .int .i64 right]] W fun e w' => e = .returned (.bool (grantB d who dn attr right)) ∧ Below W.heap.size W w') := Lib.hid (fun W b => grants_any v d who dn dv attr right W (hL.frame (Same.of_below' b)) (hd.frame (Same.of_below' b)) hz hzd)
  obtain ⟨o1, k1, rfl⟩ := hL.sl
  obtain ⟨o2, k2, rfl⟩ := hd.sl
  clear hL hd hz hzd
  generalize aclB d = n1 at *
  generalize accB who dn attr right = n2 at *
  generalize grantB d who dn attr right = n3 at *
  generalize allowB d who dn attr right = R at *
  go_enter Try.func20, Try.ntmps20
  go_wp2_with fail
  refine calls_by (fun W => Below w.heap.size w W ∧ Blk W w.heap.size [.string who, .slice o2 dn.length k2, .string attr, .int .i64 right]) ⟨more' (Below.refl _ _) _, Blk.new _ _ _⟩ ?_
  rintro W1 ⟨b1, t1⟩
  refine (CL.out W1 b1).mono ?_
  rintro e w2 ⟨rfl, hb⟩
  have b2 := b1.trans (hb.mono b1.size); have T2 := Lib.hid (t1.below hb)
  clear hb t1 b1
  cases n1
  · have HR : Hid (R = false) := Lib.hid (by rw [HB.out]; simp)
    go_wp2
    go_ret
    exact ⟨ret_bool HR.out.symm, b2⟩
  have m0 := T2.out.cell 0 rfl
  have m1 := T2.out.cell 1 rfl
  have m2 := T2.out.cell 2 rfl
  have m3 := T2.out.cell 3 rfl
  go_wp2_with fail
  refine (CA.out w2 b2).mono ?_
  rintro e w3 ⟨rfl, hb⟩
  have b3 := b2.trans (hb.mono b2.size); have T3 := Lib.hid (T2.out.below hb)
  clear hb T2 b2 m0 m1 m2 m3
  cases n2
  · have HR : Hid (R = false) := Lib.hid (by rw [HB.out]; simp)
    go_wp2
    go_ret
    exact ⟨ret_bool HR.out.symm, b3⟩
  have m0 := T3.out.cell 0 rfl
  have m1 := T3.out.cell 1 rfl
  have m2 := T3.out.cell 2 rfl
  have m3 := T3.out.cell 3 rfl
  have HR : Hid (R = n3) := Lib.hid (by rw [HB.out]; simp)
  go_wp2_with fail
  refine (CG.out _ b3).mono ?_
  rintro e w4 ⟨rfl, hb⟩
  have b4 := b3.trans (hb.mono b3.size)
  clear hb
  go_wp2
  go_ret
  exact ⟨ret_bool HR.out.symm, b4⟩
set_option maxRecDepth 100000 in
set_option maxHeartbeats 4000000 in
theorem SpecAllowed_any {S S' : Bs} (v : Value) (d : List RuleT) (who : ByteArray) (dn : RdnL) (dv : Value) (attr : ByteArray) (right : Int) (w : World) (hL : SlAt ruleE S w d v) (hd : SlAt rdnE S' w dn dv) (hz : d.length + szL ruleE d ≤ 1048576) (hzd : dn.length + szL rdnE dn ≤ 1048576) (hw : who.size ≤ 1048576) (ha : attr.size ≤ 1048576) :
    Calls Try.prog 18 #[v, .string who, dv, .string attr, .int .i64 right] w fun e w' => e = .returned (.bool (allowB d who dn attr right)) ∧ Below w.heap.size w w' := by
  have HB : Hid (allowB d who dn attr right = (aclB d && ((nmL who && (dnB dn && !(decide (dn.length = 0))) && ((attr.toList.isEmpty || nmL attr) && rtB right)) && grantB d who dn attr right))) := Lib.hid rfl
  have L1 : Hid (aclB d = true → d.length ≤ 10) := Lib.hid (fun h => by unfold aclB at h; simp only [Bool.and_eq_true, decide_eq_true_eq] at h; exact h.1)
  have L2 : Hid (dnB dn = true → dn.length ≤ 6) := Lib.hid dnB_six
  have L3 : Hid (nmL who = true → who.size ≤ 20) := Lib.hid nm_small
  have L4 : Hid (nmL attr = true → attr.size ≤ 20) := Lib.hid nm_small
  have L5 : Hid (attr.toList.isEmpty = true → attr.size = 0) := Lib.hid (fun h => by rw [Lib.toList_data] at h; rw [← size_len, List.isEmpty_iff.1 h]; rfl)
  have CL : Hid (∀ W : World, Below w.heap.size w W → Calls Try.prog 13 #[v] W fun e w' => e = .returned (.bool (aclB d)) ∧ Below W.heap.size W w') := Lib.hid (fun W b => SpecAclRight_any v d W (hL.frame (Same.of_below' b)) hz)
  have CN : Hid (∀ W : World, Calls Try.prog 48 #[.string who] W fun e w' => e = .returned (.bool (nmL who)) ∧ W = w') := Lib.hid (fun W => SpecNameRight_any who W (by unfold maxLen; omega))
  have CM : Hid (∀ W : World, Calls Try.prog 48 #[.string attr] W fun e w' => e = .returned (.bool (nmL attr)) ∧ W = w') := Lib.hid (fun W => SpecNameRight_any attr W (by unfold maxLen; omega))
  have CI : Hid (∀ W : World, Calls Try.prog 72 #[.int .i64 right, .int .i64 1, .int .i64 4] W fun e w' => e = .returned (.bool (rtB right)) ∧ w' = W) := Lib.hid (fun W => l02Is_any right 1 4 W)
  have CG : Hid (∀ W : World, Below w.heap.size w W → Calls Try.prog 73 #[v, .string who, dv, .string attr, .int .i64 right] W fun e w' => e = .returned (.bool (grantB d who dn attr right)) ∧ Below W.heap.size W w') := Lib.hid (fun W b => l06Allowed_any v d who dn dv attr right W (hL.frame (Same.of_below' b)) (hd.frame (Same.of_below' b)) hz hzd)
  have hl1 : d.length ≤ 1048576 := by omega
  have hl2 : dn.length ≤ 1048576 := by omega
  obtain ⟨o1, k1, rfl⟩ := hL.sl
  have hd0 := hd
  obtain ⟨o2, k2, rfl⟩ := hd.sl
  have CD : Hid (∀ W : World, Below w.heap.size w W → Calls Try.prog 47 #[.slice o2 dn.length k2] W fun e w' => e = .returned (.bool (dnB dn)) ∧ Below W.heap.size W w') := Lib.hid (fun W b => SpecDnRight_any o2 dn k2 W ((dn_of hd0).below b) (fits_dn hzd))
  clear hL hd hd0 hz hzd
  generalize aclB d = n1 at *
  generalize nmL who = n2 at *
  generalize nmL attr = n3 at *
  generalize dnB dn = n4 at *
  generalize rtB right = n5 at *
  generalize grantB d who dn attr right = n6 at *
  generalize hem : attr.toList.isEmpty = em at *
  generalize allowB d who dn attr right = R at *
  by_cases c1 : 400 < d.length
  · have HR : Hid (R = false) := Lib.hid (by cases n1 with | false => (rw [HB.out]; rfl) | true => (have := L1.out rfl; omega))
    have c1' : (400 : Int) < (d.length : Int) := by omega
    go_enter Try.func18, Try.ntmps18
    go_wp2
    go_ret
    exact ⟨ret_bool HR.out.symm, Below.refl _ _⟩
  have c1' : ¬ (400 : Int) < (d.length : Int) := by omega
  by_cases c2 : 400 < dn.length
  · have HR : Hid (R = false) := Lib.hid (by cases n4 with | false => (rw [HB.out]; simp) | true => (have := L2.out rfl; omega))
    have c2' : (400 : Int) < (dn.length : Int) := by omega
    go_enter Try.func18, Try.ntmps18
    go_wp2
    go_ret
    exact ⟨ret_bool HR.out.symm, Below.refl _ _⟩
  have c2' : ¬ (400 : Int) < (dn.length : Int) := by omega
  by_cases c3 : 8000 < who.size
  · have HR : Hid (R = false) := Lib.hid (by cases n2 with | false => (rw [HB.out]; simp) | true => (have := L3.out rfl; omega))
    have c3' : (8000 : Int) < (who.size : Int) := by omega
    go_enter Try.func18, Try.ntmps18
    go_wp2
    go_ret
    exact ⟨ret_bool HR.out.symm, Below.refl _ _⟩
  have c3' : ¬ (8000 : Int) < (who.size : Int) := by omega
  by_cases c4 : 8000 < attr.size
  · have HR : Hid (R = false) := Lib.hid (by
      cases em
      · cases n3
        · rw [HB.out]; simp
        · have := L4.out rfl; omega
      · have := L5.out rfl; omega)
    have c4' : (8000 : Int) < (attr.size : Int) := by omega
    go_enter Try.func18, Try.ntmps18
    go_wp2
    go_ret
    exact ⟨ret_bool HR.out.symm, Below.refl _ _⟩
  have c4' : ¬ (8000 : Int) < (attr.size : Int) := by omega
  clear L1 L2 L3 L4 L5 c1 c2 c3 c4
  go_enter Try.func18, Try.ntmps18
  go_wp2_with fail
  refine (CL.out w (Below.refl _ _)).mono ?_
  rintro e w2 ⟨rfl, b2⟩
  cases n1
  · have HR : Hid (R = false) := Lib.hid (by rw [HB.out]; simp)
    go_wp2
    go_ret
    exact ⟨ret_bool HR.out.symm, b2⟩
  go_wp2_with fail
  refine (CN.out w2).mono ?_
  rintro e w3 ⟨rfl, rfl⟩
  cases n2
  · have HR : Hid (R = false) := Lib.hid (by rw [HB.out]; simp)
    go_wp2
    go_ret
    exact ⟨ret_bool HR.out.symm, b2⟩
  by_cases hn : dn.length = 0
  · have hn' : ((dn.length : Int) == 0) = true := by simp only [beq_iff_eq]; omega
    have HR : Hid (R = false) := Lib.hid (by rw [HB.out]; simp [hn])
    clear hn
    go_wp2
    go_ret
    exact ⟨ret_bool HR.out.symm, b2⟩
  have hn' : ((dn.length : Int) == 0) = false := by simp only [beq_eq_false_iff_ne, ne_eq]; omega
  have HB2 : Hid (R = ((n4 && ((em || n3) && n5)) && n6)) := Lib.hid (by rw [HB.out]; simp [hn])
  clear HB
  have HB := HB2; clear HB2
  go_wp2_with fail
  refine (CD.out w2 b2).mono ?_
  rintro e w3 ⟨rfl, hb⟩
  have b3 := b2.trans (hb.mono b2.size)
  clear hb b2
  cases n4
  · have HR : Hid (R = false) := Lib.hid (by rw [HB.out]; simp)
    go_wp2
    go_ret
    exact ⟨ret_bool HR.out.symm, b3⟩
  have HB2 : Hid (em = false → n3 = false → R = false) := Lib.hid (fun h1 h2 => by rw [HB.out, h1, h2]; simp)
  have HB3 : Hid ((em || n3) = true → R = (n5 && n6)) := Lib.hid (fun h => by rw [HB.out, h]; simp)
  cases em
  · go_wp2_with fail
    refine (CM.out w3).mono ?_
    rintro e w4 ⟨rfl, rfl⟩
    cases n3
    · have HR : Hid (R = false) := Lib.hid (HB2.out (by first | rfl | trivial) (by first | rfl | trivial))
      go_wp2
      go_ret
      exact ⟨ret_bool HR.out.symm, b3⟩
    have HB4 : Hid (R = (n5 && n6)) := Lib.hid (HB3.out (by first | rfl | trivial))
    go_wp2_with fail
    refine (CI.out w3).mono ?_
    rintro e w4 ⟨rfl, rfl⟩
    cases n5
    · have HR : Hid (R = false) := Lib.hid (by rw [HB4.out]; rfl)
      go_wp2
      go_ret
      exact ⟨ret_bool HR.out.symm, b3⟩
    have HR : Hid (R = n6) := Lib.hid (by rw [HB4.out]; rfl)
    go_wp2_with fail
    refine (CG.out _ b3).mono ?_
    rintro e w4 ⟨rfl, hb⟩
    have b4 := b3.trans (hb.mono b3.size)
    clear hb
    go_wp2
    go_ret
    exact ⟨ret_bool HR.out.symm, b4⟩
  · have HB4 : Hid (R = (n5 && n6)) := Lib.hid (HB3.out (by first | rfl | trivial))
    go_wp2_with fail
    refine (CI.out w3).mono ?_
    rintro e w4 ⟨rfl, rfl⟩
    cases n5
    · have HR : Hid (R = false) := Lib.hid (by rw [HB4.out]; rfl)
      go_wp2
      go_ret
      exact ⟨ret_bool HR.out.symm, b3⟩
    have HR : Hid (R = n6) := Lib.hid (by rw [HB4.out]; rfl)
    go_wp2_with fail
    refine (CG.out _ b3).mono ?_
    rintro e w4 ⟨rfl, hb⟩
    have b4 := b3.trans (hb.mono b3.size)
    clear hb
    go_wp2
    go_ret
    exact ⟨ret_bool HR.out.symm, b4⟩
end Go.Proofs.Ytglgkocjdockdaa
/- The helpers of the laws: sizes. -/
namespace Go.Proofs.Ytglgkocjdockdaa
open Go.RowKit
attribute [local go_sem ↓] Go.wp_at_zero Go.wp_at_succ

set_option maxRecDepth 100000 in
set_option maxHeartbeats 4000000 in
theorem szRdn_at  (a0 : ByteArray) (a1 : ByteArray)  (left : Int) (w : World)  (hl : rdnE.long (a0, a1)) (g0 : 0 ≤ left) (g1 : left ≤ 1048576) :
    Calls Try.prog 71 #[.agg #[.string a0, .string a1], .int .i64 left] w fun e w' => e = .returned (.int .i64 (leftR (rdnE.sz (a0, a1)) left)) ∧ Below w.heap.size w w' := by
  have HE : Hid (rdnE.sz (a0, a1) = a0.size + (a1.size)) := Lib.hid rfl
  have z0 : a0.size ≤ 9223372036854775807 := by have := hl.1; simp only [strE, maxLen] at this; omega
  have z1 : a1.size ≤ 9223372036854775807 := by have := hl.2; simp only [strE, maxLen] at this; omega
  clear hl
  generalize rdnE.sz (a0, a1) = z at *
  by_cases g2 : (a0.size : Int) ≤ left
  · have c0 : ¬ left - (a0.size : Int) < 0 := by omega
    by_cases g3 : (a1.size : Int) ≤ left - (a0.size : Int)
    · have c1 : ¬ left - (a0.size : Int) - (a1.size : Int) < 0 := by omega
      have HR : Hid (leftR z left = left - (a0.size : Int) - (a1.size : Int)) := Lib.hid (by rw [leftR_pos (by rw [HE.out]; omega), HE.out]; omega)
      go_enter Try.func71, Try.ntmps71
      go_wp2
      go_ret
      exact ⟨ret_int (by rw [HR.out]), (Below.refl _ _).alloc (Nat.le_refl _) _⟩
    · have c1 : left - (a0.size : Int) - (a1.size : Int) < 0 := by omega
      have HR : Hid (leftR z left = -1) := Lib.hid (leftR_neg (by rw [HE.out]; omega))
      go_enter Try.func71, Try.ntmps71
      go_wp2
      go_ret
      exact ⟨ret_int (by rw [HR.out]), (Below.refl _ _).alloc (Nat.le_refl _) _⟩
  · have c0 : left - (a0.size : Int) < 0 := by omega
    have HR : Hid (leftR z left = -1) := Lib.hid (leftR_neg (by rw [HE.out]; omega))
    go_enter Try.func71, Try.ntmps71
    go_wp2
    go_ret
    exact ⟨ret_int (by rw [HR.out]), (Below.refl _ _).alloc (Nat.le_refl _) _⟩
set_option maxRecDepth 100000 in
set_option maxHeartbeats 4000000 in
theorem szRdnS_at {S : Bs} (v : Value) (d : List RdnT) (left : Int) (w : World) (hd : SlAt rdnE S w d v) (hf : (slE rdnE).long d) (h0 : 0 ≤ left) (h1 : left ≤ 1048576) :
    Calls Try.prog 17 #[v, .int .i64 left] w fun e w' => e = .returned (.int .i64 (leftR (d.length + szL rdnE d) left)) ∧ Below w.heap.size w w' := by
  obtain ⟨ao, cap, rfl⟩ := hd.sl
  have hl : d.length ≤ 9223372036854775807 := hf.1
  have HD := Lib.hid hd; have HF := Lib.hid hf; clear hd hf
  by_cases g : (d.length : Int) ≤ left
  · have c1 : ¬ left - (d.length : Int) < 0 := by omega
    go_enter Try.func17, Try.ntmps17
    go_wp2
    go_loopw [1, 5] (fun t i wr => ∃ k : Nat, k ≤ d.length ∧ i = .int .i64 k ∧ ((d.length + szL rdnE (d.take k) : Nat) : Int) ≤ left ∧ t = .int .i64 (left - (d.length + szL rdnE (d.take k) : Nat)) ∧ Below w.heap.size w wr) (fun _ i _ => d.length - (intOf i).toNat)
    case atStart => exact ⟨0, Nat.zero_le _, rfl, by simp [szL]; omega, by simp [szL], Below.refl _ _⟩
    case round =>
      clear c1
      obtain ⟨k, hk, rfl, hle, rfl, hbel⟩ := hrel
      have hsz := hbel.size
      by_cases hlt : k < d.length
      · obtain ⟨b, off, a0, a1, rfl, _, hb0, hx, ⟨hc0, hc1⟩, _⟩ := rdn_row (HD.out.frame (Same.of_below' hbel)) hlt
        have HZ : Hid (rdnE.long (a0, a1)) := Lib.hid (by have := HF.out.2 _ (List.getElem_mem hlt); rw [hx] at this; exact this)
        have HT : Hid (szL rdnE (d.take (k + 1)) = szL rdnE (d.take k) + rdnE.sz (a0, a1)) := Lib.hid (by rw [szL_take rdnE d k hlt, hx])
        have HTl := Lib.hid (szL_le rdnE d (k + 1))
        clear hx
        generalize hq : d.length + szL rdnE (d.take k) = q at *
        have Hq := Lib.hid hq; clear hq
        have HC := Lib.hid (szRdn_at a0 a1 (left - (q : Int)) wr  HZ.out (by omega) (by omega))
        generalize rdnE.sz (a0, a1) = r at *
        go_wp2_with fail
        refine HC.out.mono ?_
        rintro e w2 ⟨rfl, hb2⟩
        have B2 := Lib.hid (hbel.trans (hb2.mono hsz)); clear hb2
        by_cases hfit : (r : Int) ≤ left - (q : Int)
        · rw [leftR_pos hfit]
          have c2 : ¬ left - (q : Int) - (r : Int) < 0 := by omega
          go_wp2
          go_roundw
          case rel =>
            have e := HT.out
            have e3 := Hq.out
            exact ⟨k + 1, by omega, by go_num, by omega, by rw [e]; congr 1; omega, B2.out⟩
          case measure => simp [intOf]; omega
        · rw [leftR_neg hfit]
          have HR : Hid (leftR (d.length + szL rdnE d) left = -1) := Lib.hid (leftR_neg (by
            have := HT.out; have := HTl.out; have := Hq.out; omega))
          go_wp2
          go_ret
          exact ⟨ret_int (by rw [HR.out]), B2.out⟩
      · have HR : Hid (leftR (d.length + szL rdnE d) left = left - (d.length + szL rdnE (d.take k) : Nat)) := Lib.hid (by
          rw [List.take_of_length_le (by omega)] at hle ⊢
          exact leftR_pos hle)
        go_wp2
        go_ret
        exact ⟨ret_int (by rw [HR.out]), hbel⟩
  · have HR : Hid (leftR (d.length + szL rdnE d) left = -1) := Lib.hid (leftR_neg (by omega))
    have c1 : left - (d.length : Int) < 0 := by omega
    go_enter Try.func17, Try.ntmps17
    go_wp2
    go_ret
    exact ⟨ret_int (by rw [HR.out]), Below.refl _ _⟩
end Go.Proofs.Ytglgkocjdockdaa
/- The helpers of the laws: sizes. -/
namespace Go.Proofs.Ytglgkocjdockdaa
open Go.RowKit
attribute [local go_sem ↓] Go.wp_at_zero Go.wp_at_succ

set_option maxRecDepth 100000 in
set_option maxHeartbeats 4000000 in
theorem szStringS_at {S : Bs} (v : Value) (d : List ByteArray) (left : Int) (w : World) (hd : SlAt strE S w d v) (hf : (slE strE).long d) (h0 : 0 ≤ left) (h1 : left ≤ 1048576) :
    Calls Try.prog 39 #[v, .int .i64 left] w fun e w' => e = .returned (.int .i64 (leftR (d.length + szL strE d) left)) ∧ Below w.heap.size w w' := by
  obtain ⟨ao, cap, rfl⟩ := hd.sl
  have hl : d.length ≤ 9223372036854775807 := hf.1
  have HD := Lib.hid hd; have HF := Lib.hid hf; clear hd hf
  by_cases g : (d.length : Int) ≤ left
  · have c1 : ¬ left - (d.length : Int) < 0 := by omega
    go_enter Try.func39, Try.ntmps39
    go_wp2
    go_loopw [1, 5] (fun t i wr => ∃ k : Nat, k ≤ d.length ∧ i = .int .i64 k ∧ ((d.length + szL strE (d.take k) : Nat) : Int) ≤ left ∧ t = .int .i64 (left - (d.length + szL strE (d.take k) : Nat)) ∧ Below w.heap.size w wr) (fun _ i _ => d.length - (intOf i).toNat)
    case atStart => exact ⟨0, Nat.zero_le _, rfl, by simp [szL]; omega, by simp [szL], Below.refl _ _⟩
    case round =>
      clear c1
      obtain ⟨k, hk, rfl, hle, rfl, hbel⟩ := hrel
      have hsz := hbel.size
      by_cases hlt : k < d.length
      · obtain ⟨b, off, A, rfl, _, hb0, hx, hc1⟩ := str_row (HD.out.frame (Same.of_below' hbel)) hlt
        have hz : A.size ≤ maxLen := by have := HF.out.2 _ (List.getElem_mem hlt); rw [hx] at this; exact this
        unfold maxLen at hz
        have HT : Hid (szL strE (d.take (k + 1)) = szL strE (d.take k) + A.size) := Lib.hid (by rw [szL_take strE d k hlt, hx]; rfl)
        have HTl := Lib.hid (szL_le strE d (k + 1))
        clear hx
        generalize hq : d.length + szL strE (d.take k) = q at *
        have Hq := Lib.hid hq; clear hq
        by_cases hfit : ((A.size : Nat) : Int) ≤ left - (q : Int)
        · have c2 : ¬ left - (q : Int) - (A.size : Int) < 0 := by omega
          go_wp2
          go_roundw
          case rel =>
            have e := HT.out
            have e3 := Hq.out
            exact ⟨k + 1, by omega, by go_num, by omega, by rw [e]; congr 1; omega, hbel⟩
          case measure => simp [intOf]; omega
        · have c2 : left - (q : Int) - (A.size : Int) < 0 := by omega
          have HR : Hid (leftR (d.length + szL strE d) left = -1) := Lib.hid (leftR_neg (by
            have := HT.out; have := HTl.out; have := Hq.out; omega))
          go_wp2
          go_ret
          exact ⟨ret_int (by rw [HR.out]), hbel⟩
      · have HR : Hid (leftR (d.length + szL strE d) left = left - (d.length + szL strE (d.take k) : Nat)) := Lib.hid (by
          rw [List.take_of_length_le (by omega)] at hle ⊢
          exact leftR_pos hle)
        go_wp2
        go_ret
        exact ⟨ret_int (by rw [HR.out]), hbel⟩
  · have HR : Hid (leftR (d.length + szL strE d) left = -1) := Lib.hid (leftR_neg (by omega))
    have c1 : left - (d.length : Int) < 0 := by omega
    go_enter Try.func39, Try.ntmps39
    go_wp2
    go_ret
    exact ⟨ret_int (by rw [HR.out]), Below.refl _ _⟩
end Go.Proofs.Ytglgkocjdockdaa
/- The helpers of the laws: sizes. -/
namespace Go.Proofs.Ytglgkocjdockdaa
open Go.RowKit
attribute [local go_sem ↓] Go.wp_at_zero Go.wp_at_succ

set_option maxRecDepth 100000 in
set_option maxHeartbeats 4000000 in
theorem szRule_at {S : Bs} (a0 : ByteArray) (a1 : (List RdnT)) (a2 : (List ByteArray)) (a3 : Int) (a4 : Bool) (v1 v2 : Value) (left : Int) (w : World) (h1 : SlAt rdnE S w a1 v1) (h2 : SlAt strE S w a2 v2) (hl : ruleE.long (a0, a1, a2, a3, a4)) (g0 : 0 ≤ left) (g1 : left ≤ 1048576) :
    Calls Try.prog 66 #[.agg #[.string a0, v1, v2, .int .i64 a3, .bool a4], .int .i64 left] w fun e w' => e = .returned (.int .i64 (leftR (ruleE.sz (a0, a1, a2, a3, a4)) left)) ∧ Below w.heap.size w w' := by
  have HE : Hid (ruleE.sz (a0, a1, a2, a3, a4) = a0.size + ((a1.length + szL rdnE a1) + ((a2.length + szL strE a2) + (0 + (0))))) := Lib.hid rfl
  have z0 : a0.size ≤ 9223372036854775807 := by have := hl.1; simp only [strE, maxLen] at this; omega
  have C1 : Hid (∀ (l : Int) (W : World), Below w.heap.size w W → 0 ≤ l → l ≤ 1048576 → Calls Try.prog 17 #[v1, .int .i64 l] W fun e w' => e = .returned (.int .i64 (leftR (a1.length + szL rdnE a1) l)) ∧ Below W.heap.size W w') := Lib.hid (fun l W b p q => szRdnS_at v1 a1 l W (h1.frame (Same.of_below' b)) hl.2.1 p q)
  have C2 : Hid (∀ (l : Int) (W : World), Below w.heap.size w W → 0 ≤ l → l ≤ 1048576 → Calls Try.prog 39 #[v2, .int .i64 l] W fun e w' => e = .returned (.int .i64 (leftR (a2.length + szL strE a2) l)) ∧ Below W.heap.size W w') := Lib.hid (fun l W b p q => szStringS_at v2 a2 l W (h2.frame (Same.of_below' b)) hl.2.2.1 p q)
  obtain ⟨o1, k1, rfl⟩ := h1.sl
  obtain ⟨o2, k2, rfl⟩ := h2.sl
  clear h1 h2
  clear hl
  generalize ruleE.sz (a0, a1, a2, a3, a4) = z at *
  generalize (a1.length + szL rdnE a1) = r1 at *
  generalize (a2.length + szL strE a2) = r2 at *
  generalize a1.length = m1 at *
  generalize a2.length = m2 at *
  by_cases g2 : (a0.size : Int) ≤ left
  · have c0 : ¬ left - (a0.size : Int) < 0 := by omega
    go_enter Try.func66, Try.ntmps66
    go_wp2_with fail
    refine calls_by (fun W => Below w.heap.size w W ∧ Blk W w.heap.size [.string a0, .slice o1 m1 k1, .slice o2 m2 k2, .int .i64 a3, .bool a4]) ⟨more' (Below.refl _ _) _, Blk.new _ _ _⟩ ?_
    rintro w1 ⟨b1, t1⟩
    have T1 := Lib.hid t1; clear t1
    refine (C1.out _ w1 b1 (by omega) (by omega)).mono ?_
    rintro e w2 ⟨rfl, hb⟩
    have T2 := Lib.hid (T1.out.below hb); have b2 := b1.trans (hb.mono b1.size)
    clear hb b1 T1 C1
    by_cases g3 : (r1 : Int) ≤ left - (a0.size : Int)
    · rw [leftR_pos g3]
      have c1 : ¬ left - (a0.size : Int) - (r1 : Int) < 0 := by omega
      have q0 := T2.out.cell 0 rfl
      have q1 := T2.out.cell 1 rfl
      have q2 := T2.out.cell 2 rfl
      have q3 := T2.out.cell 3 rfl
      have q4 := T2.out.cell 4 rfl
      go_wp2_with fail
      refine (C2.out _ w2 b2 (by omega) (by omega)).mono ?_
      rintro e w3 ⟨rfl, hb⟩
      have T3 := Lib.hid (T2.out.below hb); have b3 := b2.trans (hb.mono b2.size)
      clear hb b2 T2 C2 q0 q1 q2 q3 q4
      by_cases g4 : (r2 : Int) ≤ left - (a0.size : Int) - (r1 : Int)
      · rw [leftR_pos g4]
        have c2 : ¬ left - (a0.size : Int) - (r1 : Int) - (r2 : Int) < 0 := by omega
        have q0 := T3.out.cell 0 rfl
        have q1 := T3.out.cell 1 rfl
        have q2 := T3.out.cell 2 rfl
        have q3 := T3.out.cell 3 rfl
        have q4 := T3.out.cell 4 rfl
        have HR : Hid (leftR z left = left - (a0.size : Int) - (r1 : Int) - (r2 : Int)) := Lib.hid (by rw [leftR_pos (by rw [HE.out]; omega), HE.out]; omega)
        go_wp2
        go_ret
        exact ⟨ret_int (by rw [HR.out]), b3⟩
      · rw [leftR_neg g4]
        have HR : Hid (leftR z left = -1) := Lib.hid (leftR_neg (by rw [HE.out]; omega))
        go_wp2
        go_ret
        exact ⟨ret_int (by rw [HR.out]), b3⟩
    · rw [leftR_neg g3]
      have HR : Hid (leftR z left = -1) := Lib.hid (leftR_neg (by rw [HE.out]; omega))
      go_wp2
      go_ret
      exact ⟨ret_int (by rw [HR.out]), b2⟩
  · have c0 : left - (a0.size : Int) < 0 := by omega
    have HR : Hid (leftR z left = -1) := Lib.hid (leftR_neg (by rw [HE.out]; omega))
    go_enter Try.func66, Try.ntmps66
    go_wp2
    go_ret
    exact ⟨ret_int (by rw [HR.out]), (Below.refl _ _).alloc (Nat.le_refl _) _⟩
set_option maxRecDepth 100000 in
set_option maxHeartbeats 4000000 in
theorem szRuleS_at {S : Bs} (v : Value) (d : List RuleT) (left : Int) (w : World) (hd : SlAt ruleE S w d v) (hf : (slE ruleE).long d) (h0 : 0 ≤ left) (h1 : left ≤ 1048576) :
    Calls Try.prog 12 #[v, .int .i64 left] w fun e w' => e = .returned (.int .i64 (leftR (d.length + szL ruleE d) left)) ∧ Below w.heap.size w w' := by
  obtain ⟨ao, cap, rfl⟩ := hd.sl
  have hl : d.length ≤ 9223372036854775807 := hf.1
  have HD := Lib.hid hd; have HF := Lib.hid hf; clear hd hf
  by_cases g : (d.length : Int) ≤ left
  · have c1 : ¬ left - (d.length : Int) < 0 := by omega
    go_enter Try.func12, Try.ntmps12
    go_wp2
    go_loopw [1, 5] (fun t i wr => ∃ k : Nat, k ≤ d.length ∧ i = .int .i64 k ∧ ((d.length + szL ruleE (d.take k) : Nat) : Int) ≤ left ∧ t = .int .i64 (left - (d.length + szL ruleE (d.take k) : Nat)) ∧ Below w.heap.size w wr) (fun _ i _ => d.length - (intOf i).toNat)
    case atStart => exact ⟨0, Nat.zero_le _, rfl, by simp [szL]; omega, by simp [szL], Below.refl _ _⟩
    case round =>
      clear c1
      obtain ⟨k, hk, rfl, hle, rfl, hbel⟩ := hrel
      have hsz := hbel.size
      by_cases hlt : k < d.length
      · obtain ⟨b, off, a0, a1, a2, a3, a4, v1, v2, rfl, _, hb0, hx, ⟨hc0, hc1, hc2, hc3, hc4⟩, s1, s2, _⟩ := rule_row (HD.out.frame (Same.of_below' hbel)) hlt
        have HV1 := Lib.hid s1; clear s1
        have HV2 := Lib.hid s2; clear s2
        have HZ : Hid (ruleE.long (a0, a1, a2, a3, a4)) := Lib.hid (by have := HF.out.2 _ (List.getElem_mem hlt); rw [hx] at this; exact this)
        have HT : Hid (szL ruleE (d.take (k + 1)) = szL ruleE (d.take k) + ruleE.sz (a0, a1, a2, a3, a4)) := Lib.hid (by rw [szL_take ruleE d k hlt, hx])
        have HTl := Lib.hid (szL_le ruleE d (k + 1))
        clear hx
        generalize hq : d.length + szL ruleE (d.take k) = q at *
        have Hq := Lib.hid hq; clear hq
        have HC := Lib.hid (szRule_at a0 a1 a2 a3 a4 v1 v2 (left - (q : Int)) wr HV1.out HV2.out HZ.out (by omega) (by omega))
        generalize ruleE.sz (a0, a1, a2, a3, a4) = r at *
        go_wp2_with fail
        refine HC.out.mono ?_
        rintro e w2 ⟨rfl, hb2⟩
        have B2 := Lib.hid (hbel.trans (hb2.mono hsz)); clear hb2
        by_cases hfit : (r : Int) ≤ left - (q : Int)
        · rw [leftR_pos hfit]
          have c2 : ¬ left - (q : Int) - (r : Int) < 0 := by omega
          go_wp2
          go_roundw
          case rel =>
            have e := HT.out
            have e3 := Hq.out
            exact ⟨k + 1, by omega, by go_num, by omega, by rw [e]; congr 1; omega, B2.out⟩
          case measure => simp [intOf]; omega
        · rw [leftR_neg hfit]
          have HR : Hid (leftR (d.length + szL ruleE d) left = -1) := Lib.hid (leftR_neg (by
            have := HT.out; have := HTl.out; have := Hq.out; omega))
          go_wp2
          go_ret
          exact ⟨ret_int (by rw [HR.out]), B2.out⟩
      · have HR : Hid (leftR (d.length + szL ruleE d) left = left - (d.length + szL ruleE (d.take k) : Nat)) := Lib.hid (by
          rw [List.take_of_length_le (by omega)] at hle ⊢
          exact leftR_pos hle)
        go_wp2
        go_ret
        exact ⟨ret_int (by rw [HR.out]), hbel⟩
  · have HR : Hid (leftR (d.length + szL ruleE d) left = -1) := Lib.hid (leftR_neg (by omega))
    have c1 : left - (d.length : Int) < 0 := by omega
    go_enter Try.func12, Try.ntmps12
    go_wp2
    go_ret
    exact ⟨ret_int (by rw [HR.out]), Below.refl _ _⟩
end Go.Proofs.Ytglgkocjdockdaa
/- The helpers of the laws: copies. -/
namespace Go.Proofs.Ytglgkocjdockdaa
open Go.RowKit
attribute [local go_sem ↓] Go.wp_at_zero Go.wp_at_succ

theorem Try.infoTRdn : (Try.prog.info? 104).map (fun i => (i.zero, i.size, i.bytes)) = some (some (.agg #[.string ByteArray.empty, .string ByteArray.empty]), 2, 32) := by kernel_rfl
theorem mkRdn (n : Nat) (hn : n ≤ 1048576) (W : World) : ∃ C : Array Value, C.size = n * 2 ∧
    (Instr.makeSlice 32 (.int .i64 (n : Int)) (.int .i64 (n : Int))).run Try.prog W = .ok (.slice (some ⟨W.heap.size, 0, none⟩) n n) (W.alloc (.cells C 104)) := by
  obtain ⟨i0, hi, hz0, hz1, hz2⟩ := info_parts Try.infoTRdn
  have := run_make (P := Try.prog) W 32 104 i0 _ Try.underlying32 hi hz0 .i64 .i64 (n : Int) (n : Int) (by omega) (by omega) (by rw [hz2]; omega) (by omega)
  rw [hz1] at this
  refine ⟨madeCells (Value.cells (.agg #[.string ByteArray.empty, .string ByteArray.empty])) (n * 2), size_madeCells _ _, ?_⟩
  simpa using this
set_option maxRecDepth 100000 in
set_option maxHeartbeats 4000000 in
theorem toRdn_at  (a0 : ByteArray) (a1 : ByteArray)  (w : World)   :
    Calls Try.prog 74 #[.agg #[.string a0, .string a1]] w fun e w' => e = .returned (.agg #[.string a0, .string a1]) ∧ rdnE.Own (Fresh w w') w' (a0, a1) [.string a0, .string a1] ∧ Below w.heap.size w w' := by
  go_enter Try.func74, Try.ntmps74
  go_wp2
  refine bodyPost_ret (v := .agg #[.string a0, .string a1]) (by simp [results, Try.results74, go_sem]) rfl ⟨rfl, ?_, ?_⟩
  · exact rdn_pack a0 a1 trivial
  · exact more' (more' (more' (Below.refl _ _) _) _) _
set_option maxRecDepth 100000 in
set_option maxHeartbeats 4000000 in
theorem toRdnS_at {S : Bs} (v : Value) (d : List RdnT) (w : World) (hd : SlAt rdnE S w d v) (hz : d.length + szL rdnE d ≤ 1048576) :
    Calls Try.prog 19 #[v] w fun e w' => ∃ u, e = .returned u ∧ SlOwn rdnE (Fresh w w') w' d u ∧ Below w.heap.size w w' := by
  obtain ⟨ao, cap, rfl⟩ := hd.sl
  have HD := Lib.hid hd; clear hd
  have HL := Lib.hid hz
  have hl : d.length ≤ 1048576 := by omega
  clear hz
  obtain ⟨C, hC, hmk⟩ := mkRdn d.length hl w
  have HC := Lib.hid hC; clear hC
  go_enter Try.func19, Try.ntmps19
  go_wp2
  clear hmk
  go_loopw [4] (fun i wr => ∃ k : Nat, k ≤ d.length ∧ i = .int .i64 k ∧ Build rdnE wr w.heap.size d.length (d.take k) ∧ Below w.heap.size w wr) (fun i _ => d.length - (intOf i).toNat)
  case atStart => exact ⟨0, Nat.zero_le _, rfl, Build.new _ _ _ _ HC.out, (Below.refl _ _).alloc (Nat.le_refl _) _⟩
  case round =>
    obtain ⟨k, hk, rfl, hR, hbel⟩ := hrel
    have HR := Lib.hid hR; clear hR
    have hsz := hbel.size
    by_cases hlt : k < d.length
    · obtain ⟨b, off, a0, a1, rfl, _, hb0, hx, ⟨hc0, hc1⟩, _⟩ := rdn_row (HD.out.frame (Same.of_below' hbel)) hlt
      have HT : Hid (d.take (k + 1) = d.take k ++ [(a0, a1)]) := Lib.hid (by rw [List.take_succ_eq_append_getElem hlt, hx])
      have HK : Hid ((d.take k).length = k) := Lib.hid (by rw [List.length_take]; omega)
      have HZ : Hid (rdnE.sz (a0, a1) ≤ 1048576) := Lib.hid (by have h1 := szL_mem rdnE (List.getElem_mem hlt); rw [hx] at h1; have := HL.out; omega)
      clear hx
      go_wp2_with fail
      refine (toRdn_at a0 a1 wr ).mono ?_
      rintro e w2 ⟨rfl, hq, hb2⟩
      have HR2 := Lib.hid (HR.out.below hb2)
      have B2 := Lib.hid (hbel.trans (hb2.mono hsz))
      have HQ := Lib.hid hq
      have HB := Lib.hid hb2
      clear hb2 hq hc0 hc1
      obtain ⟨x0, c0⟩ := HR2.out.cell (k := k) (u := 0) hlt (by decide)
      have c0 : w2.cell? ⟨w.heap.size, k * 2, none⟩ = some x0 := c0
      have f0 := HR2.out.soft (k * 2)
      obtain ⟨x1, c1⟩ := HR2.out.cell (k := k) (u := 1) hlt (by decide)
      have c1 : w2.cell? ⟨w.heap.size, k * 2 + 1, none⟩ = some x1 := c1
      have f1 := HR2.out.soft (k * 2 + 1)
      go_wp2
      go_roundw
      case rel => exact ⟨k + 1, by omega, by go_num, by rw [HT.out]; exact HR.out.row (o := k * 2) (cs := [.string a0, .string a1]) (by rw [HK.out]; exact hlt) (by rw [HK.out]; rfl) HB.out HQ.out, ((B2.out.setCell (Nat.le_refl _) _).setCell (Nat.le_refl _) _)⟩
      case measure => simp [intOf]; omega
    · have e : d.take k = d := List.take_of_length_le (by omega)
      rw [e] at HR
      clear e
      go_wp2
      go_ret
      exact ⟨_, rfl, HR.out.own, hbel⟩
end Go.Proofs.Ytglgkocjdockdaa
/- The helpers of the laws: copies. -/
namespace Go.Proofs.Ytglgkocjdockdaa
open Go.RowKit
attribute [local go_sem ↓] Go.wp_at_zero Go.wp_at_succ

theorem Try.infoTString : (Try.prog.info? 9).map (fun i => (i.zero, i.size, i.bytes)) = some (some (.string ByteArray.empty), 1, 16) := by kernel_rfl
theorem mkString (n : Nat) (hn : n ≤ 1048576) (W : World) : ∃ C : Array Value, C.size = n * 1 ∧
    (Instr.makeSlice 61 (.int .i64 (n : Int)) (.int .i64 (n : Int))).run Try.prog W = .ok (.slice (some ⟨W.heap.size, 0, none⟩) n n) (W.alloc (.cells C 9)) := by
  obtain ⟨i0, hi, hz0, hz1, hz2⟩ := info_parts Try.infoTString
  have := run_make (P := Try.prog) W 61 9 i0 _ Try.underlying61 hi hz0 .i64 .i64 (n : Int) (n : Int) (by omega) (by omega) (by rw [hz2]; omega) (by omega)
  rw [hz1] at this
  refine ⟨madeCells (Value.cells (.string ByteArray.empty)) (n * 1), size_madeCells _ _, ?_⟩
  simpa using this
set_option maxRecDepth 100000 in
set_option maxHeartbeats 4000000 in
theorem toStringS_at {S : Bs} (v : Value) (d : List ByteArray) (w : World) (hd : SlAt strE S w d v) (hz : d.length + szL strE d ≤ 1048576) :
    Calls Try.prog 41 #[v] w fun e w' => ∃ u, e = .returned u ∧ SlOwn strE (Fresh w w') w' d u ∧ Below w.heap.size w w' := by
  obtain ⟨ao, cap, rfl⟩ := hd.sl
  have HD := Lib.hid hd; clear hd
  have HL := Lib.hid hz
  have hl : d.length ≤ 1048576 := by omega
  clear hz
  obtain ⟨C, hC, hmk⟩ := mkString d.length hl w
  have HC := Lib.hid hC; clear hC
  go_enter Try.func41, Try.ntmps41
  go_wp2
  clear hmk
  go_loopw [4] (fun i wr => ∃ k : Nat, k ≤ d.length ∧ i = .int .i64 k ∧ Build strE wr w.heap.size d.length (d.take k) ∧ Below w.heap.size w wr) (fun i _ => d.length - (intOf i).toNat)
  case atStart => exact ⟨0, Nat.zero_le _, rfl, Build.new _ _ _ _ HC.out, (Below.refl _ _).alloc (Nat.le_refl _) _⟩
  case round =>
    obtain ⟨k, hk, rfl, hR, hbel⟩ := hrel
    have HR := Lib.hid hR; clear hR
    have hsz := hbel.size
    by_cases hlt : k < d.length
    · obtain ⟨b, off, A, rfl, _, hb0, hx, hc1⟩ := str_row (HD.out.frame (Same.of_below' hbel)) hlt
      have HT : Hid (d.take (k + 1) = d.take k ++ [A]) := Lib.hid (by rw [List.take_succ_eq_append_getElem hlt, hx])
      have HK : Hid ((d.take k).length = k) := Lib.hid (by rw [List.length_take]; omega)
      clear hx
      obtain ⟨x, c0⟩ := HR.out.cell (k := k) (u := 0) hlt (by decide)
      have c0 : wr.cell? ⟨w.heap.size, k, none⟩ = some x := by have e1 : k * strE.n + 0 = k := by (show k * 1 + 0 = k); omega
                                                               rw [e1] at c0; exact c0
      have f0 := HR.out.soft k
      go_wp2
      go_roundw
      case rel => exact ⟨k + 1, by omega, by go_num, by rw [HT.out]; exact HR.out.row (o := k) (cs := [.string A]) (by rw [HK.out]; exact hlt) (by rw [HK.out]; show k = k * 1; omega) (Below.refl _ _) rfl, hbel.setCell (Nat.le_refl _) _⟩
      case measure => simp [intOf]; omega
    · have e : d.take k = d := List.take_of_length_le (by omega)
      rw [e] at HR
      clear e
      go_wp2
      go_ret
      exact ⟨_, rfl, HR.out.own, hbel⟩
end Go.Proofs.Ytglgkocjdockdaa
/- The helpers of the laws: copies. -/
namespace Go.Proofs.Ytglgkocjdockdaa
open Go.RowKit
attribute [local go_sem ↓] Go.wp_at_zero Go.wp_at_succ

theorem Try.infoTRule : (Try.prog.info? 74).map (fun i => (i.zero, i.size, i.bytes)) = some (some (.agg #[.string ByteArray.empty, .slice none 0 0, .slice none 0 0, .int .i64 0, .bool false]), 5, 80) := by kernel_rfl
theorem mkRule (n : Nat) (hn : n ≤ 1048576) (W : World) : ∃ C : Array Value, C.size = n * 5 ∧
    (Instr.makeSlice 25 (.int .i64 (n : Int)) (.int .i64 (n : Int))).run Try.prog W = .ok (.slice (some ⟨W.heap.size, 0, none⟩) n n) (W.alloc (.cells C 74)) := by
  obtain ⟨i0, hi, hz0, hz1, hz2⟩ := info_parts Try.infoTRule
  have := run_make (P := Try.prog) W 25 74 i0 _ Try.underlying25 hi hz0 .i64 .i64 (n : Int) (n : Int) (by omega) (by omega) (by rw [hz2]; omega) (by omega)
  rw [hz1] at this
  refine ⟨madeCells (Value.cells (.agg #[.string ByteArray.empty, .slice none 0 0, .slice none 0 0, .int .i64 0, .bool false])) (n * 5), size_madeCells _ _, ?_⟩
  simpa using this
set_option maxRecDepth 100000 in
set_option maxHeartbeats 4000000 in
theorem toRule_at {S : Bs} (a0 : ByteArray) (a1 : (List RdnT)) (a2 : (List ByteArray)) (a3 : Int) (a4 : Bool) (v1 v2 : Value) (w : World) (h1 : SlAt rdnE S w a1 v1) (h2 : SlAt strE S w a2 v2) (hz : ruleE.sz (a0, a1, a2, a3, a4) ≤ 1048576) :
    Calls Try.prog 68 #[.agg #[.string a0, v1, v2, .int .i64 a3, .bool a4]] w fun e w' => ∃ u1 u2, e = .returned (.agg #[.string a0, u1, u2, .int .i64 a3, .bool a4]) ∧ ruleE.Own (Fresh w w') w' (a0, a1, a2, a3, a4) [.string a0, u1, u2, .int .i64 a3, .bool a4] ∧ Below w.heap.size w w' := by
  have HE : ruleE.sz (a0, a1, a2, a3, a4) = a0.size + ((a1.length + szL rdnE a1) + ((a2.length + szL strE a2) + (0 + (0)))) := rfl
  rw [HE] at hz
  have C1 : Hid (∀ W : World, Below w.heap.size w W → Calls Try.prog 19 #[v1] W fun e w' => ∃ u, e = .returned u ∧ SlOwn rdnE (Fresh W w') w' a1 u ∧ Below W.heap.size W w') := Lib.hid (fun W b => toRdnS_at v1 a1 W (h1.frame (Same.of_below' b)) (by omega))
  have C2 : Hid (∀ W : World, Below w.heap.size w W → Calls Try.prog 41 #[v2] W fun e w' => ∃ u, e = .returned u ∧ SlOwn strE (Fresh W w') w' a2 u ∧ Below W.heap.size W w') := Lib.hid (fun W b => toStringS_at v2 a2 W (h2.frame (Same.of_below' b)) (by omega))
  obtain ⟨o1, k1, rfl⟩ := h1.sl
  obtain ⟨o2, k2, rfl⟩ := h2.sl
  clear hz HE h1 h2
  go_enter Try.func68, Try.ntmps68
  go_wp2_with fail
  refine calls_by (fun W => Below w.heap.size w W ∧ Blk W w.heap.size [.string a0, .slice o1 a1.length k1, .slice o2 a2.length k2, .int .i64 a3, .bool a4] ∧ Blk W (w.heap.size + 1) [.string ⟨#[]⟩, .slice none 0 0, .slice none 0 0, .int .i64 0, .bool false] ∧ Blk W (w.heap.size + 1 + 1) [.string a0, .slice none 0 0, .slice none 0 0, .int .i64 0, .bool false]) ⟨more' (more' (more' (Below.refl _ _) _) _) _, ((Blk.new _ _ _).alloc _).alloc _, (blk_at _ _ _ (by simp)).alloc _, blk_at _ _ _ (by simp)⟩ ?_
  rintro W0 ⟨b0, t0, r0, s0⟩
  have hn : w.heap.size + 1 + 1 < W0.heap.size := s0.lt
  refine (C1.out W0 b0).mono ?_
  rintro e y1 ⟨u1, rfl, q1, hb⟩
  obtain ⟨p1, j1, rfl⟩ := q1.at.sl
  have T := Lib.hid (t0.below hb); have Rr := Lib.hid (r0.below hb); have U := Lib.hid (s0.below hb); have B := Lib.hid (b0.trans (hb.mono b0.size)); have hs1 := hb.size
  have Q1 := Lib.hid q1
  clear t0 r0 s0 b0 hb q1 C1
  have m0 := T.out.cell 0 rfl
  have c0 := U.out.cell 0 rfl
  have f0 := U.out.soft 0
  have m1 := T.out.cell 1 rfl
  have c1 := U.out.cell 1 rfl
  have f1 := U.out.soft 1
  have m2 := T.out.cell 2 rfl
  have c2 := U.out.cell 2 rfl
  have f2 := U.out.soft 2
  have m3 := T.out.cell 3 rfl
  have c3 := U.out.cell 3 rfl
  have f3 := U.out.soft 3
  have m4 := T.out.cell 4 rfl
  have c4 := U.out.cell 4 rfl
  have f4 := U.out.soft 4
  go_wp2_with fail
  have hW : y1.heap.size = y1.heap.size := rfl
  refine calls_by (fun W => y1.heap.size ≤ W.heap.size ∧ Below w.heap.size w W ∧ Blk W w.heap.size [.string a0, .slice o1 a1.length k1, .slice o2 a2.length k2, .int .i64 a3, .bool a4] ∧ Blk W (w.heap.size + 1) [.string ⟨#[]⟩, .slice none 0 0, .slice none 0 0, .int .i64 0, .bool false] ∧ Blk W (w.heap.size + 1 + 1) [.string a0, .slice p1 a1.length j1, .slice none 0 0, .int .i64 0, .bool false] ∧ SlOwn rdnE (Fresh W0 y1) W a1 (.slice p1 a1.length j1)) ⟨by simp [World.setCell], (B.out.setCell (p := ⟨w.heap.size + 1 + 1, 1, none⟩) (by show w.heap.size ≤ w.heap.size + 1 + 1; omega) _), (T.out.far (by omega) _), (Rr.out.far (by omega) _), (U.out.set 1 _), (Q1.out.frame (Same.set _ _ _ (by intro h; have := h.1; omega)))⟩ ?_
  clear T Rr U B Q1
  rintro W1 ⟨hl1, b1, t1, r1, s1, q1⟩
  have Q1 := Lib.hid q1; clear q1
  refine (C2.out W1 b1).mono ?_
  rintro e y2 ⟨u2, rfl, q2, hb⟩
  obtain ⟨p2, j2, rfl⟩ := q2.at.sl
  have T := Lib.hid (t1.below hb); have Rr := Lib.hid (r1.below hb); have U := Lib.hid (s1.below hb); have B := Lib.hid (b1.trans (hb.mono b1.size)); have hs2 := hb.size
  have Q2 := Lib.hid q2
  have Q1 := Lib.hid (Q1.out.frame (Same.of_below' hb))
  clear t1 r1 s1 b1 hb q2 C2
  clear c0 f0 m0 c1 f1 m1 c2 f2 m2 c3 f3 m3 c4 f4 m4
  have m0 := T.out.cell 0 rfl
  have c0 := U.out.cell 0 rfl
  have f0 := U.out.soft 0
  have m1 := T.out.cell 1 rfl
  have c1 := U.out.cell 1 rfl
  have f1 := U.out.soft 1
  have m2 := T.out.cell 2 rfl
  have c2 := U.out.cell 2 rfl
  have f2 := U.out.soft 2
  have m3 := T.out.cell 3 rfl
  have c3 := U.out.cell 3 rfl
  have f3 := U.out.soft 3
  have m4 := T.out.cell 4 rfl
  have c4 := U.out.cell 4 rfl
  have f4 := U.out.soft 4
  have TE := ((((((((Rr.out.far (R := w.heap.size + 1 + 1) (j := 2) (by omega) (.slice p2 a2.length j2)).far (R := w.heap.size + 1 + 1) (j := 3) (by omega) (.int .i64 a3)).far (R := w.heap.size + 1 + 1) (j := 4) (by omega) (.bool a4)).set 0 (.string a0)).set 1 (.slice p1 a1.length j1)).set 2 (.slice p2 a2.length j2)).set 3 (.int .i64 a3)).set 4 (.bool a4))
  have d0 := Rr.out.cell 0 rfl
  have g0 := Rr.out.soft 0
  have k100 := TE.cell 0 rfl
  have d1 := Rr.out.cell 1 rfl
  have g1 := Rr.out.soft 1
  have k101 := TE.cell 1 rfl
  have d2 := Rr.out.cell 2 rfl
  have g2 := Rr.out.soft 2
  have k102 := TE.cell 2 rfl
  have d3 := Rr.out.cell 3 rfl
  have g3 := Rr.out.soft 3
  have k103 := TE.cell 3 rfl
  have d4 := Rr.out.cell 4 rfl
  have g4 := Rr.out.soft 4
  have k104 := TE.cell 4 rfl
  clear TE
  go_wp2_with fail
  refine bodyPost_ret (v := .agg #[.string a0, .slice p1 a1.length j1, .slice p2 a2.length j2, .int .i64 a3, .bool a4]) (by simp [results, Try.results68, go_sem, k100, k101, k102, k103, k104]) rfl ⟨_, _, rfl, ?_, ?_⟩
  · exact rule_pack a0 a1 a2 a3 a4 _ _ (Fresh W0 y1) (Fresh W1 y2) ⟨((((((((Q1.out.frame (Same.set _ _ _ (by intro h; have := h.1; omega))).frame (Same.set _ _ _ (by intro h; have := h.1; omega))).frame (Same.set _ _ _ (by intro h; have := h.1; omega))).frame (Same.set _ _ _ (by intro h; have := h.1; omega))).frame (Same.set _ _ _ (by intro h; have := h.1; omega))).frame (Same.set _ _ _ (by intro h; have := h.1; omega))).frame (Same.set _ _ _ (by intro h; have := h.1; omega))).frame (Same.set _ _ _ (by intro h; have := h.1; omega))), (fun k z => ⟨by have := z.1; omega, by have := z.2; show _ < (World.heap _).size; simp only [setCell_size]; omega⟩), ((((((((Q2.out.frame (Same.set _ _ _ (by intro h; have := h.1; omega))).frame (Same.set _ _ _ (by intro h; have := h.1; omega))).frame (Same.set _ _ _ (by intro h; have := h.1; omega))).frame (Same.set _ _ _ (by intro h; have := h.1; omega))).frame (Same.set _ _ _ (by intro h; have := h.1; omega))).frame (Same.set _ _ _ (by intro h; have := h.1; omega))).frame (Same.set _ _ _ (by intro h; have := h.1; omega))).frame (Same.set _ _ _ (by intro h; have := h.1; omega))), (fun k z => ⟨by have := z.1; omega, by have := z.2; show _ < (World.heap _).size; simp only [setCell_size]; omega⟩), (fun k z y => by have := z.2; have := y.1; omega), trivial⟩
  · exact ((((((((B.out.setCell (p := ⟨w.heap.size + 1 + 1, 2, none⟩) (by show w.heap.size ≤ w.heap.size + 1 + 1; omega) _).setCell (p := ⟨w.heap.size + 1 + 1, 3, none⟩) (by show w.heap.size ≤ w.heap.size + 1 + 1; omega) _).setCell (p := ⟨w.heap.size + 1 + 1, 4, none⟩) (by show w.heap.size ≤ w.heap.size + 1 + 1; omega) _).setCell (p := ⟨w.heap.size + 1, 0, none⟩) (by show w.heap.size ≤ w.heap.size + 1; omega) _).setCell (p := ⟨w.heap.size + 1, 1, none⟩) (by show w.heap.size ≤ w.heap.size + 1; omega) _).setCell (p := ⟨w.heap.size + 1, 2, none⟩) (by show w.heap.size ≤ w.heap.size + 1; omega) _).setCell (p := ⟨w.heap.size + 1, 3, none⟩) (by show w.heap.size ≤ w.heap.size + 1; omega) _).setCell (p := ⟨w.heap.size + 1, 4, none⟩) (by show w.heap.size ≤ w.heap.size + 1; omega) _)
set_option maxRecDepth 100000 in
set_option maxHeartbeats 4000000 in
theorem toRuleS_at {S : Bs} (v : Value) (d : List RuleT) (w : World) (hd : SlAt ruleE S w d v) (hz : d.length + szL ruleE d ≤ 1048576) :
    Calls Try.prog 14 #[v] w fun e w' => ∃ u, e = .returned u ∧ SlOwn ruleE (Fresh w w') w' d u ∧ Below w.heap.size w w' := by
  obtain ⟨ao, cap, rfl⟩ := hd.sl
  have HD := Lib.hid hd; clear hd
  have HL := Lib.hid hz
  have hl : d.length ≤ 1048576 := by omega
  clear hz
  obtain ⟨C, hC, hmk⟩ := mkRule d.length hl w
  have HC := Lib.hid hC; clear hC
  go_enter Try.func14, Try.ntmps14
  go_wp2
  clear hmk
  go_loopw [4] (fun i wr => ∃ k : Nat, k ≤ d.length ∧ i = .int .i64 k ∧ Build ruleE wr w.heap.size d.length (d.take k) ∧ Below w.heap.size w wr) (fun i _ => d.length - (intOf i).toNat)
  case atStart => exact ⟨0, Nat.zero_le _, rfl, Build.new _ _ _ _ HC.out, (Below.refl _ _).alloc (Nat.le_refl _) _⟩
  case round =>
    obtain ⟨k, hk, rfl, hR, hbel⟩ := hrel
    have HR := Lib.hid hR; clear hR
    have hsz := hbel.size
    by_cases hlt : k < d.length
    · obtain ⟨b, off, a0, a1, a2, a3, a4, v1, v2, rfl, _, hb0, hx, ⟨hc0, hc1, hc2, hc3, hc4⟩, s1, s2, _⟩ := rule_row (HD.out.frame (Same.of_below' hbel)) hlt
      have HT : Hid (d.take (k + 1) = d.take k ++ [(a0, a1, a2, a3, a4)]) := Lib.hid (by rw [List.take_succ_eq_append_getElem hlt, hx])
      have HK : Hid ((d.take k).length = k) := Lib.hid (by rw [List.length_take]; omega)
      have HZ : Hid (ruleE.sz (a0, a1, a2, a3, a4) ≤ 1048576) := Lib.hid (by have h1 := szL_mem ruleE (List.getElem_mem hlt); rw [hx] at h1; have := HL.out; omega)
      clear hx
      have HV1 := Lib.hid s1; clear s1
      have HV2 := Lib.hid s2; clear s2
      obtain ⟨o1, k1, rfl⟩ := HV1.out.sl
      obtain ⟨o2, k2, rfl⟩ := HV2.out.sl
      go_wp2_with fail
      refine (toRule_at a0 a1 a2 a3 a4 _ _ wr HV1.out HV2.out HZ.out).mono ?_
      rintro e w2 ⟨u1, u2, rfl, hq, hb2⟩
      have HR2 := Lib.hid (HR.out.below hb2)
      have B2 := Lib.hid (hbel.trans (hb2.mono hsz))
      have HQ := Lib.hid hq
      have HB := Lib.hid hb2
      clear hb2 hq hc0 hc1 hc2 hc3 hc4
      have hsl := rule_sl HQ.out rfl
      obtain ⟨⟨p1, l1, j1, rfl⟩, ⟨p2, l2, j2, rfl⟩⟩ := hsl
      obtain ⟨x0, c0⟩ := HR2.out.cell (k := k) (u := 0) hlt (by decide)
      have c0 : w2.cell? ⟨w.heap.size, k * 5, none⟩ = some x0 := c0
      have f0 := HR2.out.soft (k * 5)
      obtain ⟨x1, c1⟩ := HR2.out.cell (k := k) (u := 1) hlt (by decide)
      have c1 : w2.cell? ⟨w.heap.size, k * 5 + 1, none⟩ = some x1 := c1
      have f1 := HR2.out.soft (k * 5 + 1)
      obtain ⟨x2, c2⟩ := HR2.out.cell (k := k) (u := 2) hlt (by decide)
      have c2 : w2.cell? ⟨w.heap.size, k * 5 + 2, none⟩ = some x2 := c2
      have f2 := HR2.out.soft (k * 5 + 2)
      obtain ⟨x3, c3⟩ := HR2.out.cell (k := k) (u := 3) hlt (by decide)
      have c3 : w2.cell? ⟨w.heap.size, k * 5 + 3, none⟩ = some x3 := c3
      have f3 := HR2.out.soft (k * 5 + 3)
      obtain ⟨x4, c4⟩ := HR2.out.cell (k := k) (u := 4) hlt (by decide)
      have c4 : w2.cell? ⟨w.heap.size, k * 5 + 4, none⟩ = some x4 := c4
      have f4 := HR2.out.soft (k * 5 + 4)
      go_wp2
      go_roundw
      case rel => exact ⟨k + 1, by omega, by go_num, by rw [HT.out]; exact HR.out.row (o := k * 5) (cs := [.string a0, .slice p1 l1 j1, .slice p2 l2 j2, .int .i64 a3, .bool a4]) (by rw [HK.out]; exact hlt) (by rw [HK.out]; rfl) HB.out HQ.out, (((((B2.out.setCell (Nat.le_refl _) _).setCell (Nat.le_refl _) _).setCell (Nat.le_refl _) _).setCell (Nat.le_refl _) _).setCell (Nat.le_refl _) _)⟩
      case measure => simp [intOf]; omega
    · have e : d.take k = d := List.take_of_length_le (by omega)
      rw [e] at HR
      clear e
      go_wp2
      go_ret
      exact ⟨_, rfl, HR.out.own, hbel⟩
end Go.Proofs.Ytglgkocjdockdaa
/- The helpers of the laws: comparisons. -/
namespace Go.Proofs.Ytglgkocjdockdaa
open Go.RowKit
attribute [local go_sem ↓] Go.wp_at_zero Go.wp_at_succ

set_option maxRecDepth 100000 in
set_option maxHeartbeats 4000000 in
theorem eqRdn_at  (w0 : World) (a0 : ByteArray) (a1 : ByteArray)   (w : World) (hB : Below w0.heap.size w0 w)    :
    Calls Try.prog 77 #[.agg #[.string a0, .string a1], .agg #[.string a0, .string a1]] w fun e w' => e = .returned (.bool true) ∧ Below w0.heap.size w0 w' := by
  have hk0 : (a0.toList == a0.toList) = true := by simp
  have hk1 : (a1.toList == a1.toList) = true := by simp
  have HB := Lib.hid hB
  clear hB
  go_enter Try.func77, Try.ntmps77
  go_wp2
  go_ret
  exact ⟨rfl, more' (more' HB.out _) _⟩
set_option maxRecDepth 100000 in
set_option maxHeartbeats 4000000 in
theorem eqRdnS_at {S S' : Bs} (v u : Value) (d : List RdnT) (w : World) (hd : SlAt rdnE S w d v) (hu : SlAt rdnE S' w d u) (hz : d.length + szL rdnE d ≤ 1048576) :
    Calls Try.prog 21 #[v, u] w fun e w' => e = .returned (.bool true) ∧ Below w.heap.size w w' := by
  obtain ⟨ao, ca, rfl⟩ := hd.sl
  obtain ⟨bo, cb, rfl⟩ := hu.sl
  have HA := Lib.hid hd; have HB := Lib.hid hu; clear hd hu
  have HL := Lib.hid hz
  have hl : d.length ≤ 1048576 := by omega
  clear hz
  go_enter Try.func21, Try.ntmps21
  go_wp2
  go_loopw [5] (fun i wr => ∃ k : Nat, k ≤ d.length ∧ i = .int .i64 k ∧ Below w.heap.size w wr) (fun i _ => d.length - (intOf i).toNat)
  case atStart => exact ⟨0, Nat.zero_le _, rfl, Below.refl _ _⟩
  case round =>
    obtain ⟨k, hk, rfl, hbel⟩ := hrel
    have hsz := hbel.size
    by_cases hlt : k < d.length
    · obtain ⟨p, off, a0, a1, rfl, _, hp0, hx, hc, _⟩ := rdn_row (HA.out.frame (Same.of_below' hbel)) hlt
      obtain ⟨q, off', x0, x1, rfl, _, hq0, hx', hd, _⟩ := rdn_row (HB.out.frame (Same.of_below' hbel)) hlt
      have hxx := hx.symm.trans hx'
      simp only [Prod.mk.injEq] at hxx
      obtain ⟨rfl, rfl⟩ := hxx
      have HZ : Hid (rdnE.sz (a0, a1) ≤ 1048576) := Lib.hid (by have h1 := szL_mem rdnE (List.getElem_mem hlt); rw [hx] at h1; have := HL.out; omega)
      clear hx hx'
      have C : Hid (∀ W : World, Below wr.heap.size wr W → Calls Try.prog 77 #[.agg #[.string a0, .string a1], .agg #[.string a0, .string a1]] W fun e w' => e = .returned (.bool true) ∧ Below wr.heap.size wr w') := Lib.hid (fun W b => eqRdn_at wr a0 a1 W b   )
      have SK : Hid (∀ W : World, Below wr.heap.size wr W → (Below wr.heap.size wr W ∧ (W.cell? ⟨p, off + k * 2, none⟩ = some (.string a0) ∧ W.cell? ⟨p, off + k * 2 + 1, none⟩ = some (.string a1)) ∧ (W.cell? ⟨q, off' + k * 2, none⟩ = some (.string a0) ∧ W.cell? ⟨q, off' + k * 2 + 1, none⟩ = some (.string a1)))) :=
        Lib.hid (fun W h => ⟨h, ⟨(h.cell (p := ⟨p, _, none⟩) hp0).trans hc.1, (h.cell (p := ⟨p, _, none⟩) hp0).trans hc.2⟩, ⟨(h.cell (p := ⟨q, _, none⟩) hq0).trans hd.1, (h.cell (p := ⟨q, _, none⟩) hq0).trans hd.2⟩⟩)
      have hbd : Below wr.heap.size wr wr.drew := (Below.refl _ _).drew
      have hb0 : Below wr.heap.size wr wr := Below.refl _ _
      have HBl := Lib.hid hbel
      clear hc hd hbel
      have g1 : (0 : Int) ≤ (k : Int) := by omega
      have g2 : (k : Int) < (d.length : Int) := by omega
      go_wp2_with fail
      go_region_held3 (fun W => Below wr.heap.size wr W ∧ (W.cell? ⟨p, off + k * 2, none⟩ = some (.string a0) ∧ W.cell? ⟨p, off + k * 2 + 1, none⟩ = some (.string a1)) ∧ (W.cell? ⟨q, off' + k * 2, none⟩ = some (.string a0) ∧ W.cell? ⟨q, off' + k * 2 + 1, none⟩ = some (.string a1)))
        (exact SK.out _ (by assumption))
        (first | (go_at_call 77; refine (C.out _ (by assumption)).mono ?_; rintro e w2 ⟨rfl, hb2⟩) | (fail "none"))
      all_goals
        go_wp2
        go_roundw
        case rel => exact ⟨k + 1, by omega, by go_num, HBl.out.trans (hb2.mono HBl.out.size)⟩
        case measure => simp [intOf]; omega
    · go_wp2
      go_ret
      exact ⟨rfl, hbel⟩
end Go.Proofs.Ytglgkocjdockdaa
/- The helpers of the laws: comparisons. -/
namespace Go.Proofs.Ytglgkocjdockdaa
open Go.RowKit
attribute [local go_sem ↓] Go.wp_at_zero Go.wp_at_succ

set_option maxRecDepth 100000 in
set_option maxHeartbeats 4000000 in
theorem eqStringS_at {S S' : Bs} (v u : Value) (d : List ByteArray) (w : World) (hd : SlAt strE S w d v) (hu : SlAt strE S' w d u) (hz : d.length + szL strE d ≤ 1048576) :
    Calls Try.prog 43 #[v, u] w fun e w' => e = .returned (.bool true) ∧ Below w.heap.size w w' := by
  obtain ⟨ao, ca, rfl⟩ := hd.sl
  obtain ⟨bo, cb, rfl⟩ := hu.sl
  have HA := Lib.hid hd; have HB := Lib.hid hu; clear hd hu
  have HL := Lib.hid hz
  have hl : d.length ≤ 1048576 := by omega
  clear hz
  go_enter Try.func43, Try.ntmps43
  go_wp2
  go_loopw [5] (fun i wr => ∃ k : Nat, k ≤ d.length ∧ i = .int .i64 k ∧ Below w.heap.size w wr) (fun i _ => d.length - (intOf i).toNat)
  case atStart => exact ⟨0, Nat.zero_le _, rfl, Below.refl _ _⟩
  case round =>
    obtain ⟨k, hk, rfl, hbel⟩ := hrel
    have hsz := hbel.size
    by_cases hlt : k < d.length
    · obtain ⟨p, off, A, rfl, _, hp0, hx, c1⟩ := str_row (HA.out.frame (Same.of_below' hbel)) hlt
      obtain ⟨q, off', A', rfl, _, hq0, hx', c2⟩ := str_row (HB.out.frame (Same.of_below' hbel)) hlt
      obtain rfl : A = A' := hx.symm.trans hx'
      clear hx hx'
      have hkk : (A.toList == A.toList) = true := by simp
      have g1 : (0 : Int) ≤ (k : Int) := by omega
      have g2 : (k : Int) < (d.length : Int) := by omega
      have hbd := hbel.drew
      have c1' : wr.drew.cell? ⟨p, off + k, none⟩ = some (.string A) := c1
      have c2' : wr.drew.cell? ⟨q, off' + k, none⟩ = some (.string A) := c2
      go_wp2_with fail
      go_region_held3 (fun W => Below w.heap.size w W ∧ W.cell? ⟨p, off + k, none⟩ = some (.string A) ∧ W.cell? ⟨q, off' + k, none⟩ = some (.string A))
        (first | exact ⟨hbel, c1, c2⟩ | exact ⟨hbd, c1', c2'⟩)
        (fail "none")
      all_goals
        go_wp2
        go_roundw
        case rel => exact ⟨k + 1, by omega, by go_num, by first | exact hbel | exact hbd⟩
        case measure => simp [intOf]; omega
    · go_wp2
      go_ret
      exact ⟨rfl, hbel⟩
end Go.Proofs.Ytglgkocjdockdaa
/- The helpers of the laws: comparisons. -/
namespace Go.Proofs.Ytglgkocjdockdaa
open Go.RowKit
attribute [local go_sem ↓] Go.wp_at_zero Go.wp_at_succ

set_option maxRecDepth 100000 in
set_option maxHeartbeats 4000000 in
theorem eqRule_at {S S' : Bs} (w0 : World) (a0 : ByteArray) (a1 : (List RdnT)) (a2 : (List ByteArray)) (a3 : Int) (a4 : Bool) (v1 v2 : Value) (u1 u2 : Value) (w : World) (hB : Below w0.heap.size w0 w) (h1 : SlAt rdnE S w0 a1 v1) (h2 : SlAt strE S w0 a2 v2) (g1 : SlAt rdnE S' w0 a1 u1) (g2 : SlAt strE S' w0 a2 u2) (hz : ruleE.sz (a0, a1, a2, a3, a4) ≤ 1048576) :
    Calls Try.prog 70 #[.agg #[.string a0, v1, v2, .int .i64 a3, .bool a4], .agg #[.string a0, u1, u2, .int .i64 a3, .bool a4]] w fun e w' => e = .returned (.bool true) ∧ Below w0.heap.size w0 w' := by
  have HE : ruleE.sz (a0, a1, a2, a3, a4) = a0.size + ((a1.length + szL rdnE a1) + ((a2.length + szL strE a2) + (0 + (0)))) := rfl
  rw [HE] at hz
  have hk0 : (a0.toList == a0.toList) = true := by simp
  have C1 : Hid (∀ W : World, Below w0.heap.size w0 W → Calls Try.prog 21 #[v1, u1] W fun e w' => e = .returned (.bool true) ∧ Below W.heap.size W w') := Lib.hid (fun W b => eqRdnS_at v1 u1 a1 W (h1.frame (Same.of_below' b)) (g1.frame (Same.of_below' b)) (by omega))
  have C2 : Hid (∀ W : World, Below w0.heap.size w0 W → Calls Try.prog 43 #[v2, u2] W fun e w' => e = .returned (.bool true) ∧ Below W.heap.size W w') := Lib.hid (fun W b => eqStringS_at v2 u2 a2 W (h2.frame (Same.of_below' b)) (g2.frame (Same.of_below' b)) (by omega))
  have hk3 : (a3 == a3) = true := by simp
  have hj3 : (a3 != a3) = false := by simp
  have hk4 : (a4 == a4) = true := by simp
  have hj4 : (a4 != a4) = false := by simp
  obtain ⟨o1, k1, rfl⟩ := h1.sl
  obtain ⟨p1, j1, rfl⟩ := g1.sl
  obtain ⟨o2, k2, rfl⟩ := h2.sl
  obtain ⟨p2, j2, rfl⟩ := g2.sl
  clear hz HE h1 g1 h2 g2
  have HB := Lib.hid hB
  clear hB
  go_enter Try.func70, Try.ntmps70
  go_wp2_with fail
  refine calls_by (fun W => Below w0.heap.size w0 W ∧ Blk W w.heap.size [.string a0, .slice o1 a1.length k1, .slice o2 a2.length k2, .int .i64 a3, .bool a4] ∧ Blk W (w.heap.size + 1) [.string a0, .slice p1 a1.length j1, .slice p2 a2.length j2, .int .i64 a3, .bool a4]) ⟨more' (more' HB.out _) _, (Blk.new _ _ _).alloc _, blk_at _ _ _ (by simp)⟩ ?_
  rintro W1 ⟨b1, x1, y1⟩
  have X1 := Lib.hid x1; have Y1 := Lib.hid y1; clear x1 y1
  refine (C1.out W1 b1).mono ?_
  rintro e W2 ⟨rfl, hb⟩
  have X2 := Lib.hid (X1.out.below hb); have Y2 := Lib.hid (Y1.out.below hb); have b2 := b1.trans (hb.mono b1.size)
  clear X1 Y1 hb b1 C1
  have m0 := X2.out.cell 0 rfl
  have n0 := Y2.out.cell 0 rfl
  have m1 := X2.out.cell 1 rfl
  have n1 := Y2.out.cell 1 rfl
  have m2 := X2.out.cell 2 rfl
  have n2 := Y2.out.cell 2 rfl
  have m3 := X2.out.cell 3 rfl
  have n3 := Y2.out.cell 3 rfl
  have m4 := X2.out.cell 4 rfl
  have n4 := Y2.out.cell 4 rfl
  go_wp2_with fail
  refine (C2.out W2 b2).mono ?_
  rintro e W3 ⟨rfl, hb⟩
  have X3 := Lib.hid (X2.out.below hb); have Y3 := Lib.hid (Y2.out.below hb); have b3 := b2.trans (hb.mono b2.size)
  clear X2 Y2 hb b2 C2 m0 n0 m1 n1 m2 n2 m3 n3 m4 n4
  have m0 := X3.out.cell 0 rfl
  have n0 := Y3.out.cell 0 rfl
  have m1 := X3.out.cell 1 rfl
  have n1 := Y3.out.cell 1 rfl
  have m2 := X3.out.cell 2 rfl
  have n2 := Y3.out.cell 2 rfl
  have m3 := X3.out.cell 3 rfl
  have n3 := Y3.out.cell 3 rfl
  have m4 := X3.out.cell 4 rfl
  have n4 := Y3.out.cell 4 rfl
  go_wp2
  go_ret
  exact ⟨rfl, b3⟩
set_option maxRecDepth 100000 in
set_option maxHeartbeats 4000000 in
theorem eqRuleS_at {S S' : Bs} (v u : Value) (d : List RuleT) (w : World) (hd : SlAt ruleE S w d v) (hu : SlAt ruleE S' w d u) (hz : d.length + szL ruleE d ≤ 1048576) :
    Calls Try.prog 16 #[v, u] w fun e w' => e = .returned (.bool true) ∧ Below w.heap.size w w' := by
  obtain ⟨ao, ca, rfl⟩ := hd.sl
  obtain ⟨bo, cb, rfl⟩ := hu.sl
  have HA := Lib.hid hd; have HB := Lib.hid hu; clear hd hu
  have HL := Lib.hid hz
  have hl : d.length ≤ 1048576 := by omega
  clear hz
  go_enter Try.func16, Try.ntmps16
  go_wp2
  go_loopw [5] (fun i wr => ∃ k : Nat, k ≤ d.length ∧ i = .int .i64 k ∧ Below w.heap.size w wr) (fun i _ => d.length - (intOf i).toNat)
  case atStart => exact ⟨0, Nat.zero_le _, rfl, Below.refl _ _⟩
  case round =>
    obtain ⟨k, hk, rfl, hbel⟩ := hrel
    have hsz := hbel.size
    by_cases hlt : k < d.length
    · obtain ⟨p, off, a0, a1, a2, a3, a4, v1, v2, rfl, _, hp0, hx, hc, s1, s2, _⟩ := rule_row (HA.out.frame (Same.of_below' hbel)) hlt
      obtain ⟨q, off', x0, x1, x2, x3, x4, u1, u2, rfl, _, hq0, hx', hd, t1, t2, _⟩ := rule_row (HB.out.frame (Same.of_below' hbel)) hlt
      have hxx := hx.symm.trans hx'
      simp only [Prod.mk.injEq] at hxx
      obtain ⟨rfl, rfl, rfl, rfl, rfl⟩ := hxx
      have HZ : Hid (ruleE.sz (a0, a1, a2, a3, a4) ≤ 1048576) := Lib.hid (by have h1 := szL_mem ruleE (List.getElem_mem hlt); rw [hx] at h1; have := HL.out; omega)
      clear hx hx'
      have C : Hid (∀ W : World, Below wr.heap.size wr W → Calls Try.prog 70 #[.agg #[.string a0, v1, v2, .int .i64 a3, .bool a4], .agg #[.string a0, u1, u2, .int .i64 a3, .bool a4]] W fun e w' => e = .returned (.bool true) ∧ Below wr.heap.size wr w') := Lib.hid (fun W b => eqRule_at wr a0 a1 a2 a3 a4 v1 v2 u1 u2 W b s1 s2 t1 t2 HZ.out)
      clear s1 t1 s2 t2 HZ
      have SK : Hid (∀ W : World, Below wr.heap.size wr W → (Below wr.heap.size wr W ∧ (W.cell? ⟨p, off + k * 5, none⟩ = some (.string a0) ∧ W.cell? ⟨p, off + k * 5 + 1, none⟩ = some (v1) ∧ W.cell? ⟨p, off + k * 5 + 2, none⟩ = some (v2) ∧ W.cell? ⟨p, off + k * 5 + 3, none⟩ = some (.int .i64 a3) ∧ W.cell? ⟨p, off + k * 5 + 4, none⟩ = some (.bool a4)) ∧ (W.cell? ⟨q, off' + k * 5, none⟩ = some (.string a0) ∧ W.cell? ⟨q, off' + k * 5 + 1, none⟩ = some (u1) ∧ W.cell? ⟨q, off' + k * 5 + 2, none⟩ = some (u2) ∧ W.cell? ⟨q, off' + k * 5 + 3, none⟩ = some (.int .i64 a3) ∧ W.cell? ⟨q, off' + k * 5 + 4, none⟩ = some (.bool a4)))) :=
        Lib.hid (fun W h => ⟨h, ⟨(h.cell (p := ⟨p, _, none⟩) hp0).trans hc.1, (h.cell (p := ⟨p, _, none⟩) hp0).trans hc.2.1, (h.cell (p := ⟨p, _, none⟩) hp0).trans hc.2.2.1, (h.cell (p := ⟨p, _, none⟩) hp0).trans hc.2.2.2.1, (h.cell (p := ⟨p, _, none⟩) hp0).trans hc.2.2.2.2⟩, ⟨(h.cell (p := ⟨q, _, none⟩) hq0).trans hd.1, (h.cell (p := ⟨q, _, none⟩) hq0).trans hd.2.1, (h.cell (p := ⟨q, _, none⟩) hq0).trans hd.2.2.1, (h.cell (p := ⟨q, _, none⟩) hq0).trans hd.2.2.2.1, (h.cell (p := ⟨q, _, none⟩) hq0).trans hd.2.2.2.2⟩⟩)
      have hbd : Below wr.heap.size wr wr.drew := (Below.refl _ _).drew
      have hb0 : Below wr.heap.size wr wr := Below.refl _ _
      have HBl := Lib.hid hbel
      clear hc hd hbel
      have g1 : (0 : Int) ≤ (k : Int) := by omega
      have g2 : (k : Int) < (d.length : Int) := by omega
      go_wp2_with fail
      go_region_held3 (fun W => Below wr.heap.size wr W ∧ (W.cell? ⟨p, off + k * 5, none⟩ = some (.string a0) ∧ W.cell? ⟨p, off + k * 5 + 1, none⟩ = some (v1) ∧ W.cell? ⟨p, off + k * 5 + 2, none⟩ = some (v2) ∧ W.cell? ⟨p, off + k * 5 + 3, none⟩ = some (.int .i64 a3) ∧ W.cell? ⟨p, off + k * 5 + 4, none⟩ = some (.bool a4)) ∧ (W.cell? ⟨q, off' + k * 5, none⟩ = some (.string a0) ∧ W.cell? ⟨q, off' + k * 5 + 1, none⟩ = some (u1) ∧ W.cell? ⟨q, off' + k * 5 + 2, none⟩ = some (u2) ∧ W.cell? ⟨q, off' + k * 5 + 3, none⟩ = some (.int .i64 a3) ∧ W.cell? ⟨q, off' + k * 5 + 4, none⟩ = some (.bool a4)))
        (exact SK.out _ (by assumption))
        (first | (go_at_call 70; refine (C.out _ (by assumption)).mono ?_; rintro e w2 ⟨rfl, hb2⟩) | (fail "none"))
      all_goals
        go_wp2
        go_roundw
        case rel => exact ⟨k + 1, by omega, by go_num, HBl.out.trans (hb2.mono HBl.out.size)⟩
        case measure => simp [intOf]; omega
    · go_wp2
      go_ret
      exact ⟨rfl, hbel⟩
end Go.Proofs.Ytglgkocjdockdaa
/- The law FnExactAllowed: its walk. -/
namespace Go.Proofs.Ytglgkocjdockdaa
open Go.RowKit
attribute [local go_sem ↓] Go.wp_at_zero Go.wp_at_succ

set_option maxRecDepth 100000 in
set_option maxHeartbeats 4000000 in
theorem Allowed_walk (v0 : Value) (d0 : List RuleT) (s1 : ByteArray) (v2 : Value) (d2 : List RdnT) (s3 : ByteArray) (n4 : Int) (w : World) (h0 : SlAt ruleE (All w) w d0 v0) (f0 : (slE ruleE).long d0) (f1 : s1.size ≤ maxLen) (h2 : SlAt rdnE (All w) w d2 v2) (f2 : (slE rdnE).long d2) (f3 : s3.size ≤ maxLen) (f4 : -9223372036854775808 ≤ n4 ∧ n4 ≤ 9223372036854775807) :
    Calls Try.prog 4 #[v0, .string s1, v2, .string s3, .int .i64 n4] w fun e w' => e = .returned (.bool true) ∧ Below w.heap.size w w' := by
  have HQ0 : Hid (d0.length + szL ruleE d0 ≤ 1048576 → ∀ (Y : World) (S S' : Bs) (x u : Value), SlAt ruleE S Y d0 x → SlAt ruleE S' Y d0 u → Calls Try.prog 16 #[x, u] Y fun e w' => e = .returned (.bool true) ∧ Below Y.heap.size Y w') := Lib.hid (fun z Y S S' x u h1 h2 => eqRuleS_at x u d0 Y h1 h2 z)
  have HS0 : Hid (∀ (l : Int) (W : World), Below w.heap.size w W → 0 ≤ l → l ≤ 1048576 → Calls Try.prog 12 #[v0, .int .i64 l] W fun e w' => e = .returned (.int .i64 (leftR (d0.length + szL ruleE d0) l)) ∧ Below W.heap.size W w') := Lib.hid (fun l W b p q => szRuleS_at v0 d0 l W (h0.frame (Same.of_below' b)) f0 p q)
  have HT0 : Hid (d0.length + szL ruleE d0 ≤ 1048576 → ∀ Y : World, Below w.heap.size w Y → Calls Try.prog 14 #[v0] Y fun e w' => ∃ u, e = .returned u ∧ SlOwn ruleE (Fresh Y w') w' d0 u ∧ Below Y.heap.size Y w') := Lib.hid (fun z Y b => toRuleS_at v0 d0 Y (h0.frame (Same.of_below' b)) z)
  have HQ2 : Hid (d2.length + szL rdnE d2 ≤ 1048576 → ∀ (Y : World) (S S' : Bs) (x u : Value), SlAt rdnE S Y d2 x → SlAt rdnE S' Y d2 u → Calls Try.prog 21 #[x, u] Y fun e w' => e = .returned (.bool true) ∧ Below Y.heap.size Y w') := Lib.hid (fun z Y S S' x u h1 h2 => eqRdnS_at x u d2 Y h1 h2 z)
  have HS2 : Hid (∀ (l : Int) (W : World), Below w.heap.size w W → 0 ≤ l → l ≤ 1048576 → Calls Try.prog 17 #[v2, .int .i64 l] W fun e w' => e = .returned (.int .i64 (leftR (d2.length + szL rdnE d2) l)) ∧ Below W.heap.size W w') := Lib.hid (fun l W b p q => szRdnS_at v2 d2 l W (h2.frame (Same.of_below' b)) f2 p q)
  have HT2 : Hid (d2.length + szL rdnE d2 ≤ 1048576 → ∀ Y : World, Below w.heap.size w Y → Calls Try.prog 19 #[v2] Y fun e w' => ∃ u, e = .returned u ∧ SlOwn rdnE (Fresh Y w') w' d2 u ∧ Below Y.heap.size Y w') := Lib.hid (fun z Y b => toRdnS_at v2 d2 Y (h2.frame (Same.of_below' b)) z)
  have HSp : Hid (d0.length + szL ruleE d0 ≤ 1048576 → d2.length + szL rdnE d2 ≤ 1048576 → s1.size ≤ 1048576 → s3.size ≤ 1048576 → ∀ (Y : World) (S0 S1 : Bs) (u0 u2 : Value), SlAt ruleE S0 Y d0 u0 → SlAt rdnE S1 Y d2 u2 → Calls Try.prog 18 #[u0, .string s1, u2, .string s3, .int .i64 n4] Y fun e w' => e = .returned (.bool (allowB d0 s1 d2 s3 n4)) ∧ Below Y.heap.size Y w') := Lib.hid (fun z0 z2 z1 z3 Y S0 S1 u0 u2 h0 h2 => SpecAllowed_any u0 d0 s1 d2 u2 s3 n4 Y h0 h2 z0 z2 z1 z3)
  have HIm : Hid (d0.length + szL ruleE d0 ≤ 1048576 → d2.length + szL rdnE d2 ≤ 1048576 → s1.size ≤ 1048576 → s3.size ≤ 1048576 → ∀ (Y : World) (S0 S1 : Bs) (u0 u2 : Value), SlAt ruleE S0 Y d0 u0 → SlAt rdnE S1 Y d2 u2 → Calls Try.prog 20 #[u0, .string s1, u2, .string s3, .int .i64 n4] Y fun e w' => e = .returned (.bool (allowB d0 s1 d2 s3 n4)) ∧ Below Y.heap.size Y w') := Lib.hid (fun z0 z2 z1 z3 Y S0 S1 u0 u2 h0 h2 => Allowed_any u0 d0 s1 d2 u2 s3 n4 Y h0 h2 z0 z2 z1 z3)
  by_cases y1 : s1.size ≤ 1048576
  rotate_left
  · have y1' : (1048576 : Int) < (s1.size : Int) := by omega
    unfold maxLen at *
    obtain ⟨o0, k0, rfl⟩ := h0.sl
    obtain ⟨o2, k2, rfl⟩ := h2.sl
    go_enter Try.func4, Try.ntmps4
    go_wp2
    go_ret
    exact ⟨rfl, Below.refl _ _⟩
  by_cases y3 : s3.size ≤ 1048576
  rotate_left
  · have y3' : (1048576 : Int) < (s3.size : Int) := by omega
    have y1' : ¬ (1048576 : Int) < (s1.size : Int) := by omega
    unfold maxLen at *
    obtain ⟨o0, k0, rfl⟩ := h0.sl
    obtain ⟨o2, k2, rfl⟩ := h2.sl
    go_enter Try.func4, Try.ntmps4
    go_wp2
    go_ret
    exact ⟨rfl, Below.refl _ _⟩
  have y1' : ¬ (1048576 : Int) < (s1.size : Int) := by omega
  clear f1
  have y3' : ¬ (1048576 : Int) < (s3.size : Int) := by omega
  clear f3
  obtain ⟨o0, k0, rfl⟩ := h0.sl
  obtain ⟨o2, k2, rfl⟩ := h2.sl
  clear h0 f0
  clear h2 f2
  go_enter Try.func4, Try.ntmps4
  have B : Hid (Below w.heap.size w w) := Lib.hid (Below.refl _ _)
  obtain ⟨W0, hW0⟩ : ∃ W, W = w := ⟨w, rfl⟩
  go_wp2_with fail
  refine (HS0.out (1048576) w B.out (by omega) (by omega)).mono ?_
  rintro e W1 ⟨rfl, hb⟩
  have B1 := Lib.hid (B.out.trans (hb.mono B.out.size)); clear B hb HS0; have B := B1; clear B1
  by_cases g0 : ((d0.length + szL ruleE d0 : Nat) : Int) ≤ 1048576
  rotate_left
  · rw [leftR_neg g0]
    clear g0
    go_wp2
    go_ret
    exact ⟨rfl, B.out⟩
  rw [leftR_pos g0]
  have HZ0 : Hid (d0.length + szL ruleE d0 ≤ 1048576) := Lib.hid (by omega)
  have p0 : (0 : Int) ≤ ((d0.length + szL ruleE d0 : Nat) : Int) := by omega
  have c0 : ¬ 1048576 - ((d0.length + szL ruleE d0 : Nat) : Int) < 0 := by omega
  generalize ((d0.length + szL ruleE d0 : Nat) : Int) = t0 at *
  go_wp2_with fail
  refine (HS2.out (1048576 - t0) W1 B.out (by omega) (by omega)).mono ?_
  rintro e W2 ⟨rfl, hb⟩
  have B1 := Lib.hid (B.out.trans (hb.mono B.out.size)); clear B hb HS2; have B := B1; clear B1
  by_cases g2 : ((d2.length + szL rdnE d2 : Nat) : Int) ≤ 1048576 - t0
  rotate_left
  · rw [leftR_neg g2]
    clear g2
    go_wp2
    go_ret
    exact ⟨rfl, B.out⟩
  rw [leftR_pos g2]
  have HZ2 : Hid (d2.length + szL rdnE d2 ≤ 1048576) := Lib.hid (by omega)
  have p2 : (0 : Int) ≤ ((d2.length + szL rdnE d2 : Nat) : Int) := by omega
  have c2 : ¬ 1048576 - t0 - ((d2.length + szL rdnE d2 : Nat) : Int) < 0 := by omega
  generalize ((d2.length + szL rdnE d2 : Nat) : Int) = t2 at *
  have HT := Lib.hid (HT0.out HZ0.out); clear HT0; have HT0 := HT; clear HT
  have HQ := Lib.hid (HQ0.out HZ0.out); clear HQ0; have HQ0 := HQ; clear HQ
  have HT := Lib.hid (HT2.out HZ2.out); clear HT2; have HT2 := HT; clear HT
  have HQ := Lib.hid (HQ2.out HZ2.out); clear HQ2; have HQ2 := HQ; clear HQ
  have HS := Lib.hid (HSp.out HZ0.out HZ2.out y1 y3); have HI := Lib.hid (HIm.out HZ0.out HZ2.out y1 y3); clear HSp HIm
  generalize (allowB d0 s1 d2 s3 n4) = r at *
  have hrr : (r != r) = false := by simp
  have hrq : (r == r) = true := by simp
  go_wp2_with fail
  refine (HT0.out W2 B.out).mono ?_
  rintro e W3 ⟨x0, rfl, q, hb⟩
  have B1 := Lib.hid (B.out.trans (hb.mono B.out.size)); clear B; have B := B1; clear B1
  have Qx0 := Lib.hid q.at; clear q hb
  obtain ⟨px0, cx0, rfl⟩ := Qx0.out.sl
  go_wp2_with fail
  refine (HT2.out W3 B.out).mono ?_
  rintro e W4 ⟨x2, rfl, q, hb⟩
  have P := Lib.hid (Qx0.out.frame (Same.of_below' hb)); clear Qx0; have Qx0 := P; clear P
  have B1 := Lib.hid (B.out.trans (hb.mono B.out.size)); clear B; have B := B1; clear B1
  have Qx2 := Lib.hid q.at; clear q hb
  obtain ⟨px2, cx2, rfl⟩ := Qx2.out.sl
  go_wp2_with fail
  refine (HS.out W4 _ _ _ _ Qx0.out Qx2.out).mono ?_
  rintro e W5 ⟨rfl, hb⟩
  clear Qx0
  clear Qx2
  have B1 := Lib.hid (B.out.trans (hb.mono B.out.size)); clear B; have B := B1; clear B1
  clear hb
  go_wp2_with fail
  refine (HT0.out W5 B.out).mono ?_
  rintro e W6 ⟨y0, rfl, q, hb⟩
  have B1 := Lib.hid (B.out.trans (hb.mono B.out.size)); clear B; have B := B1; clear B1
  have Qy0 := Lib.hid q.at; clear q hb
  obtain ⟨py0, cy0, rfl⟩ := Qy0.out.sl
  go_wp2_with fail
  refine (HT2.out W6 B.out).mono ?_
  rintro e W7 ⟨y2, rfl, q, hb⟩
  have P := Lib.hid (Qy0.out.frame (Same.of_below' hb)); clear Qy0; have Qy0 := P; clear P
  have B1 := Lib.hid (B.out.trans (hb.mono B.out.size)); clear B; have B := B1; clear B1
  have Qy2 := Lib.hid q.at; clear q hb
  obtain ⟨py2, cy2, rfl⟩ := Qy2.out.sl
  go_wp2_with fail
  refine (HI.out W7 _ _ _ _ Qy0.out Qy2.out).mono ?_
  rintro e W8 ⟨rfl, hb⟩
  have P := Lib.hid (Qy0.out.frame (Same.of_below' hb)); clear Qy0; have Qy0 := P; clear P
  have P := Lib.hid (Qy2.out.frame (Same.of_below' hb)); clear Qy2; have Qy2 := P; clear P
  have B1 := Lib.hid (B.out.trans (hb.mono B.out.size)); clear B; have B := B1; clear B1
  clear hb
  go_wp2_with fail
  refine (HT0.out W8 B.out).mono ?_
  rintro e W9 ⟨z0, rfl, q, hb⟩
  have P := Lib.hid (Qy0.out.frame (Same.of_below' hb)); clear Qy0; have Qy0 := P; clear P
  have P := Lib.hid (Qy2.out.frame (Same.of_below' hb)); clear Qy2; have Qy2 := P; clear P
  have B1 := Lib.hid (B.out.trans (hb.mono B.out.size)); clear B; have B := B1; clear B1
  have Qz0 := Lib.hid q.at; clear q hb
  obtain ⟨pz0, cz0, rfl⟩ := Qz0.out.sl
  go_wp2_with fail
  refine (HQ0.out W9 _ _ _ _ Qy0.out Qz0.out).mono ?_
  rintro e W10 ⟨rfl, hb⟩
  have P := Lib.hid (Qy0.out.frame (Same.of_below' hb)); clear Qy0; have Qy0 := P; clear P
  have P := Lib.hid (Qy2.out.frame (Same.of_below' hb)); clear Qy2; have Qy2 := P; clear P
  have P := Lib.hid (Qz0.out.frame (Same.of_below' hb)); clear Qz0; have Qz0 := P; clear P
  have B1 := Lib.hid (B.out.trans (hb.mono B.out.size)); clear B; have B := B1; clear B1
  clear hb
  clear Qz0
  go_wp2_with fail
  refine (HT2.out W10 B.out).mono ?_
  rintro e W11 ⟨z2, rfl, q, hb⟩
  have P := Lib.hid (Qy0.out.frame (Same.of_below' hb)); clear Qy0; have Qy0 := P; clear P
  have P := Lib.hid (Qy2.out.frame (Same.of_below' hb)); clear Qy2; have Qy2 := P; clear P
  have B1 := Lib.hid (B.out.trans (hb.mono B.out.size)); clear B; have B := B1; clear B1
  have Qz2 := Lib.hid q.at; clear q hb
  obtain ⟨pz2, cz2, rfl⟩ := Qz2.out.sl
  go_wp2_with fail
  refine (HQ2.out W11 _ _ _ _ Qy2.out Qz2.out).mono ?_
  rintro e W12 ⟨rfl, hb⟩
  have P := Lib.hid (Qy0.out.frame (Same.of_below' hb)); clear Qy0; have Qy0 := P; clear P
  have P := Lib.hid (Qy2.out.frame (Same.of_below' hb)); clear Qy2; have Qy2 := P; clear P
  have P := Lib.hid (Qz2.out.frame (Same.of_below' hb)); clear Qz2; have Qz2 := P; clear P
  have B1 := Lib.hid (B.out.trans (hb.mono B.out.size)); clear B; have B := B1; clear B1
  clear hb
  clear Qz2
  go_wp2
  go_ret
  exact ⟨rfl, B.out⟩
end Go.Proofs.Ytglgkocjdockdaa
/- Arguments of the laws: where they lie. -/
namespace Go.Proofs.Ytglgkocjdockdaa
open Go.RowKit

open Go.ChangeShapes Go.WideShapes Go.Joins Go.Deep
theorem opn_str : Opens Try.prog 9 strE := opens_str Try.underlying9
theorem Try.cellStr : Try.prog.cellsOf 9 = strE.n := by kernel_rfl
theorem opn_int : Opens Try.prog 2 intE := opens_int Try.underlying2
theorem opn_bool : Opens Try.prog 4 boolE := opens_bool Try.underlying4
theorem opn_strS : Opens Try.prog 61 (slE strE) := opens_sl Try.underlying61 Try.cellStr (by decide) opn_str
theorem Try.cellRdn : Try.prog.cellsOf 102 = rdnE.n := by kernel_rfl
set_option maxRecDepth 100000 in
theorem opn_rdn : Opens Try.prog 102 rdnE := opens_struct Try.underlying102 Try.cellRdn (ff_cons _ (by rfl) (by rfl) (by kernel_rfl) opn_str (ff_last _ (by rfl) (by rfl) (by kernel_rfl) (by rfl) opn_str))
theorem Try.cellAttr : Try.prog.cellsOf 154 = attrE.n := by kernel_rfl
set_option maxRecDepth 100000 in
theorem opn_attr : Opens Try.prog 154 attrE := opens_struct Try.underlying154 Try.cellAttr (ff_cons _ (by rfl) (by rfl) (by kernel_rfl) opn_str (ff_last _ (by rfl) (by rfl) (by kernel_rfl) (by rfl) opn_strS))
theorem opn_rdnS : Opens Try.prog 29 (slE rdnE) := opens_sl Try.underlying29 Try.cellRdn (by decide) opn_rdn
theorem opn_attrS : Opens Try.prog 36 (slE attrE) := opens_sl Try.underlying36 Try.cellAttr (by decide) opn_attr
theorem Try.cellEntry : Try.prog.cellsOf 38 = entryE.n := by kernel_rfl
set_option maxRecDepth 100000 in
theorem opn_entry : Opens Try.prog 38 entryE := opens_struct Try.underlying38 Try.cellEntry (ff_cons _ (by rfl) (by rfl) (by kernel_rfl) opn_rdnS (ff_last _ (by rfl) (by rfl) (by kernel_rfl) (by rfl) opn_attrS))
theorem Try.cellRule : Try.prog.cellsOf 96 = ruleE.n := by kernel_rfl
set_option maxRecDepth 100000 in
theorem opn_rule : Opens Try.prog 96 ruleE := opens_struct Try.underlying96 Try.cellRule (ff_cons _ (by rfl) (by rfl) (by kernel_rfl) opn_str (ff_cons _ (by rfl) (by rfl) (by kernel_rfl) opn_rdnS (ff_cons _ (by rfl) (by rfl) (by kernel_rfl) opn_strS (ff_cons _ (by rfl) (by rfl) (by kernel_rfl) opn_int (ff_last _ (by rfl) (by rfl) (by kernel_rfl) (by rfl) opn_bool)))))
theorem opn_entryS : Opens Try.prog 53 (slE entryE) := opens_sl Try.underlying53 Try.cellEntry (by decide) opn_entry
theorem opn_ruleS : Opens Try.prog 22 (slE ruleE) := opens_sl Try.underlying22 Try.cellRule (by decide) opn_rule
set_option maxRecDepth 100000 in
theorem opv_rdn {H : Type} {enc : TypeId × Value → H} {w : World} {base : Nat} {spare : Nat → Bool} {held : Bool} {r : Reach} {b0 : Nat} {v : Value} {d : DataW H} {p : List MemPlace} (hv : Value.okWide Try.prog w r b0 102 v) (h : DataW.Trod enc Try.prog w base spare held 102 v d p) :
    ∃ (a0 : ByteArray) (a1 : ByteArray) , v = .agg #[.string a0, .string a1] ∧ (True) ∧ rdnE.long (a0, a1) := by
  obtain ⟨cs, a, rfl, h1, h2⟩ := opv_struct Try.underlying102 opn_rdn hv h
  obtain ⟨a0, a1, rfl, e1, hq⟩ := rdn_atq h1
  refine ⟨a0, a1, agg_eq e1, ?_, h2⟩
  exact hq
set_option maxRecDepth 100000 in
theorem opv_attr {H : Type} {enc : TypeId × Value → H} {w : World} {base : Nat} {spare : Nat → Bool} {held : Bool} {r : Reach} {b0 : Nat} {v : Value} {d : DataW H} {p : List MemPlace} (hv : Value.okWide Try.prog w r b0 154 v) (h : DataW.Trod enc Try.prog w base spare held 154 v d p) :
    ∃ (a0 : ByteArray) (a1 : (List ByteArray)) (v1 : Value), v = .agg #[.string a0, v1] ∧ (SlAt strE (All w) w a1 v1) ∧ attrE.long (a0, a1) := by
  obtain ⟨cs, a, rfl, h1, h2⟩ := opv_struct Try.underlying154 opn_attr hv h
  obtain ⟨a0, a1, v1, rfl, e1, hq⟩ := attr_atq h1
  refine ⟨a0, a1, v1, agg_eq e1, ?_, h2⟩
  exact hq.1
set_option maxRecDepth 100000 in
theorem opv_entry {H : Type} {enc : TypeId × Value → H} {w : World} {base : Nat} {spare : Nat → Bool} {held : Bool} {r : Reach} {b0 : Nat} {v : Value} {d : DataW H} {p : List MemPlace} (hv : Value.okWide Try.prog w r b0 38 v) (h : DataW.Trod enc Try.prog w base spare held 38 v d p) :
    ∃ (a0 : (List RdnT)) (a1 : (List AttrT)) (v0 v1 : Value), v = .agg #[v0, v1] ∧ (SlAt rdnE (All w) w a0 v0 ∧ SlAt attrE (All w) w a1 v1) ∧ entryE.long (a0, a1) := by
  obtain ⟨cs, a, rfl, h1, h2⟩ := opv_struct Try.underlying38 opn_entry hv h
  obtain ⟨a0, a1, v0, v1, rfl, e1, hq⟩ := entry_atq h1
  refine ⟨a0, a1, v0, v1, agg_eq e1, ?_, h2⟩
  exact ⟨hq.1, hq.2.1⟩
set_option maxRecDepth 100000 in
theorem opv_rule {H : Type} {enc : TypeId × Value → H} {w : World} {base : Nat} {spare : Nat → Bool} {held : Bool} {r : Reach} {b0 : Nat} {v : Value} {d : DataW H} {p : List MemPlace} (hv : Value.okWide Try.prog w r b0 96 v) (h : DataW.Trod enc Try.prog w base spare held 96 v d p) :
    ∃ (a0 : ByteArray) (a1 : (List RdnT)) (a2 : (List ByteArray)) (a3 : Int) (a4 : Bool) (v1 v2 : Value), v = .agg #[.string a0, v1, v2, .int .i64 a3, .bool a4] ∧ (SlAt rdnE (All w) w a1 v1 ∧ SlAt strE (All w) w a2 v2) ∧ ruleE.long (a0, a1, a2, a3, a4) := by
  obtain ⟨cs, a, rfl, h1, h2⟩ := opv_struct Try.underlying96 opn_rule hv h
  obtain ⟨a0, a1, a2, a3, a4, v1, v2, rfl, e1, hq⟩ := rule_atq h1
  refine ⟨a0, a1, a2, a3, a4, v1, v2, agg_eq e1, ?_, h2⟩
  exact ⟨hq.1, hq.2.1⟩
end Go.Proofs.Ytglgkocjdockdaa
