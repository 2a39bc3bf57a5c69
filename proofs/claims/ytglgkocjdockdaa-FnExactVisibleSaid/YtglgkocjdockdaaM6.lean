/- Merged texts: Alw, Rd, toString, toAttr, Rd2, JoinRF, EntR2, VwI. -/
import Derived.Test.YtglgkocjdockdaaM4
import Derived.Test.YtglgkocjdockdaaM5
import Derived.Test.YtglgkocjdockdaaM1
import Derived.Test.YtglgkocjdockdaaM3
import Derived.Test.YtglgkocjdockdaaM2
import Derived.Laws.MakeOwn
/- Allowed: what the texts of the program and of the specification return. -/
namespace Go.Proofs.Ytglgkocjdockdaa
open Go.RowKit
attribute [local go_sem ↓] Go.wp_at_zero Go.wp_at_succ

/-- what is asked of an access control list -/
noncomputable def accB (who : ByteArray) (dn : RdnL) (attr : ByteArray) (right : Int) : Bool := nmL who && (dnB dn && !(decide (dn.length = 0))) && ((attr.toList.isEmpty || nmL attr) && rtB right)
noncomputable def allowB (l : List RuleT) (who : ByteArray) (dn : RdnL) (attr : ByteArray) (right : Int) : Bool := aclB l && (accB who dn attr right && grantB l who dn attr right)
theorem nm_small {s : ByteArray} (h : nmL s = true) : s.size ≤ 20 := by unfold nmL at h; simp only [Bool.and_eq_true, decide_eq_true_eq] at h; exact h.1.1.2
set_option maxRecDepth 100000 in
set_option maxHeartbeats 4000000 in
theorem accessRight_any {S : Bs} (who : ByteArray) (dn : RdnL) (dv : Value) (attr : ByteArray) (right : Int) (w : World) (hd : SlAt rdnE S w dn dv) (hzd : dn.length + szL rdnE dn ≤ 1048576) (hw : who.size ≤ 1048576) (ha : attr.size ≤ 1048576) :
    Calls Try.prog 75 #[.agg #[.string who, dv, .string attr, .int .i64 right]] w fun e w' => e = .returned (.bool (accB who dn attr right)) ∧ Below w.heap.size w w' := by
  obtain ⟨o1, k1, rfl⟩ := hd.sl
  have HB : Hid (accB who dn attr right = (nmL who && (dnB dn && !(decide (dn.length = 0))) && ((attr.toList.isEmpty || nmL attr) && rtB right))) := Lib.hid rfl
  have CN : Hid (∀ W : World, Calls Try.prog 84 #[.string who] W fun e w' => e = .returned (.bool (nmL who)) ∧ W = w') := Lib.hid (fun W => NameRight_any who W (by unfold maxLen; omega))
  have CM : Hid (∀ W : World, Calls Try.prog 84 #[.string attr] W fun e w' => e = .returned (.bool (nmL attr)) ∧ W = w') := Lib.hid (fun W => NameRight_any attr W (by unfold maxLen; omega))
  have CD : Hid (∀ W : World, Below w.heap.size w W → Calls Try.prog 117 #[.slice o1 dn.length k1] W fun e w' => e = .returned (.bool (dnB dn)) ∧ Below W.heap.size W w') := Lib.hid (fun W b => DnRight_any o1 dn k1 W ((dn_of hd).below b) (fits_dn hzd))
  have hl : dn.length ≤ 1048576 := by omega
  clear hd hzd
  generalize nmL who = n1 at *
  generalize nmL attr = n2 at *
  generalize dnB dn = db at *
  generalize accB who dn attr right = R at *
  go_enter Try.func75, Try.ntmps75
  go_wp2_with fail
  refine (CN.out _).mono ?_
  rintro e w1 ⟨rfl, rfl⟩
  cases n1
  · have HR : Hid (R = false) := Lib.hid (by rw [HB.out]; rfl)
    go_wp2
    go_ret
    exact ⟨ret_bool HR.out.symm, more' (Below.refl _ _) _⟩
  go_wp2_with fail
  refine calls_by (fun W => Below w.heap.size w W ∧ Blk W w.heap.size [.string who, .slice o1 dn.length k1, .string attr, .int .i64 right]) ⟨more' (Below.refl _ _) _, Blk.new _ _ _⟩ ?_
  rintro W1 ⟨b1, t1⟩
  refine (CD.out W1 b1).mono ?_
  rintro e w2 ⟨rfl, hb⟩
  have b2 := b1.trans (hb.mono b1.size); have T2 := Lib.hid (t1.below hb)
  clear hb t1 b1
  cases db
  · have HR : Hid (R = false) := Lib.hid (by rw [HB.out]; rfl)
    go_wp2
    go_ret
    exact ⟨ret_bool HR.out.symm, b2⟩
  have m0 := T2.out.cell 0 rfl
  have m1 := T2.out.cell 1 rfl
  have m2 := T2.out.cell 2 rfl
  have m3 := T2.out.cell 3 rfl
  by_cases hn : dn.length = 0
  · have hn' : ((dn.length : Int) == 0) = true := by simp only [beq_iff_eq]; omega
    have HR : Hid (R = false) := Lib.hid (by rw [HB.out]; simp [hn])
    clear hn
    go_wp2
    go_ret
    exact ⟨ret_bool HR.out.symm, b2⟩
  have hn' : ((dn.length : Int) == 0) = false := by simp only [beq_eq_false_iff_ne, ne_eq]; omega
  have HB2 : Hid (R = ((attr.toList.isEmpty || n2) && rtB right)) := Lib.hid (by rw [HB.out]; simp [hn])
  cases he : attr.toList.isEmpty
  · cases n2
    · have HR : Hid (R = false) := Lib.hid (by rw [HB2.out, he]; rfl)
      go_wp2_with fail
      refine (CM.out _).mono ?_
      rintro e w3 ⟨rfl, rfl⟩
      go_wp2
      go_ret
      exact ⟨ret_bool HR.out.symm, b2⟩
    · have HR : Hid (R = rtB right) := Lib.hid (by rw [HB2.out, he]; rfl)
      go_wp2_with fail
      refine (CM.out _).mono ?_
      rintro e w3 ⟨rfl, rfl⟩
      go_wp2_with fail
      refine (isRight_any right w2).mono ?_
      rintro e w4 ⟨rfl, rfl⟩
      generalize rtB right = q at *
      go_wp2
      go_ret
      exact ⟨ret_bool HR.out.symm, b2⟩
  · have HR : Hid (R = rtB right) := Lib.hid (by rw [HB2.out, he]; rfl)
    go_wp2_with fail
    refine (isRight_any right w2).mono ?_
    rintro e w4 ⟨rfl, rfl⟩
    generalize rtB right = q at *
    go_wp2
    go_ret
    exact ⟨ret_bool HR.out.symm, b2⟩
set_option maxRecDepth 100000 in
set_option maxHeartbeats 4000000 in
theorem Allowed_any {S S' : Bs} (v : Value) (d : List RuleT) (who : ByteArray) (dn : RdnL) (dv : Value) (attr : ByteArray) (right : Int) (w : World) (hL : SlAt ruleE S w d v) (hd : SlAt rdnE S' w dn dv) (hz : d.length + szL ruleE d ≤ 1048576) (hzd : dn.length + szL rdnE dn ≤ 1048576) (hw : who.size ≤ 1048576) (ha : attr.size ≤ 1048576) :
    Calls Try.prog 20 #[v, .string who, dv, .string attr, .int .i64 right] w fun e w' => e = .returned (.bool (allowB d who dn attr right)) ∧ Below w.heap.size w w' := by
  have HB : Hid (allowB d who dn attr right = (aclB d && (accB who dn attr right && grantB d who dn attr right))) := Lib.hid rfl
  have CL : Hid (∀ W : World, Below w.heap.size w W → Calls Try.prog 15 #[v] W fun e w' => e = .returned (.bool (aclB d)) ∧ Below W.heap.size W w') := Lib.hid (fun W b => AclRight_any v d W (hL.frame (Same.of_below' b)) hz)
  have CA : Hid (∀ W : World, Below w.heap.size w W → Calls Try.prog 75 #[.agg #[.string who, dv, .string attr, .int .i64 right]] W fun e w' => e = .returned (.bool (accB who dn attr right)) ∧ Below W.heap.size W w') := Lib.hid (fun W b => accessRight_any who dn dv attr right W (hd.frame (Same.of_below' b)) hzd hw ha)
  have CG : Hid (∀ W : World, Below w.heap.size w W → Calls Try.prog 76 #[v, .agg #[.string who, dv, .string attr, .int .i64 right]] W fun e w' => e = .returned (.bool (grantB d who dn attr right)) ∧ Below W.heap.size W w') := Lib.hid (fun W b => grants_any v d who dn dv attr right W (hL.frame (Same.of_below' b)) (hd.frame (Same.of_below' b)) hz hzd)
  obtain ⟨o1, k1, rfl⟩ := hL.sl
  obtain ⟨o2, k2, rfl⟩ := hd.sl
  clear hL hd hz hzd
  generalize aclB d = n1 at *
  generalize accB who dn attr right = n2 at *
  generalize grantB d who dn attr right = n3 at *
  generalize allowB d who dn attr right = R at *
  go_enter Try.func20, Try.ntmps20
  go_wp2_with fail
  refine calls_by (fun W => Below w.heap.size w W ∧ Blk W w.heap.size [.string who, .slice o2 dn.length k2, .string attr, .int .i64 right]) ⟨more' (Below.refl _ _) _, Blk.new _ _ _⟩ ?_
  rintro W1 ⟨b1, t1⟩
  refine (CL.out W1 b1).mono ?_
  rintro e w2 ⟨rfl, hb⟩
  have b2 := b1.trans (hb.mono b1.size); have T2 := Lib.hid (t1.below hb)
  clear hb t1 b1
  cases n1
  · have HR : Hid (R = false) := Lib.hid (by rw [HB.out]; simp)
    go_wp2
    go_ret
    exact ⟨ret_bool HR.out.symm, b2⟩
  have m0 := T2.out.cell 0 rfl
  have m1 := T2.out.cell 1 rfl
  have m2 := T2.out.cell 2 rfl
  have m3 := T2.out.cell 3 rfl
  go_wp2_with fail
  refine (CA.out w2 b2).mono ?_
  rintro e w3 ⟨rfl, hb⟩
  have b3 := b2.trans (hb.mono b2.size); have T3 := Lib.hid (T2.out.below hb)
  clear hb T2 b2 m0 m1 m2 m3
  cases n2
  · have HR : Hid (R = false) := Lib.hid (by rw [HB.out]; simp)
    go_wp2
    go_ret
    exact ⟨ret_bool HR.out.symm, b3⟩
  have m0 := T3.out.cell 0 rfl
  have m1 := T3.out.cell 1 rfl
  have m2 := T3.out.cell 2 rfl
  have m3 := T3.out.cell 3 rfl
  have HR : Hid (R = n3) := Lib.hid (by rw [HB.out]; simp)
  go_wp2_with fail
  refine (CG.out _ b3).mono ?_
  rintro e w4 ⟨rfl, hb⟩
  have b4 := b3.trans (hb.mono b3.size)
  clear hb
  go_wp2
  go_ret
  exact ⟨ret_bool HR.out.symm, b4⟩
set_option maxRecDepth 100000 in
set_option maxHeartbeats 4000000 in
theorem SpecAllowed_any {S S' : Bs} (v : Value) (d : List RuleT) (who : ByteArray) (dn : RdnL) (dv : Value) (attr : ByteArray) (right : Int) (w : World) (hL : SlAt ruleE S w d v) (hd : SlAt rdnE S' w dn dv) (hz : d.length + szL ruleE d ≤ 1048576) (hzd : dn.length + szL rdnE dn ≤ 1048576) (hw : who.size ≤ 1048576) (ha : attr.size ≤ 1048576) :
    Calls Try.prog 18 #[v, .string who, dv, .string attr, .int .i64 right] w fun e w' => e = .returned (.bool (allowB d who dn attr right)) ∧ Below w.heap.size w w' := by
  have HB : Hid (allowB d who dn attr right = (aclB d && ((nmL who && (dnB dn && !(decide (dn.length = 0))) && ((attr.toList.isEmpty || nmL attr) && rtB right)) && grantB d who dn attr right))) := Lib.hid rfl
  have L1 : Hid (aclB d = true → d.length ≤ 10) := Lib.hid (fun h => by unfold aclB at h; simp only [Bool.and_eq_true, decide_eq_true_eq] at h; exact h.1)
  have L2 : Hid (dnB dn = true → dn.length ≤ 6) := Lib.hid dnB_six
  have L3 : Hid (nmL who = true → who.size ≤ 20) := Lib.hid nm_small
  have L4 : Hid (nmL attr = true → attr.size ≤ 20) := Lib.hid nm_small
  have L5 : Hid (attr.toList.isEmpty = true → attr.size = 0) := Lib.hid (fun h => by rw [Lib.toList_data] at h; rw [← size_len, List.isEmpty_iff.1 h]; rfl)
  have CL : Hid (∀ W : World, Below w.heap.size w W → Calls Try.prog 13 #[v] W fun e w' => e = .returned (.bool (aclB d)) ∧ Below W.heap.size W w') := Lib.hid (fun W b => SpecAclRight_any v d W (hL.frame (Same.of_below' b)) hz)
  have CN : Hid (∀ W : World, Calls Try.prog 48 #[.string who] W fun e w' => e = .returned (.bool (nmL who)) ∧ W = w') := Lib.hid (fun W => SpecNameRight_any who W (by unfold maxLen; omega))
  have CM : Hid (∀ W : World, Calls Try.prog 48 #[.string attr] W fun e w' => e = .returned (.bool (nmL attr)) ∧ W = w') := Lib.hid (fun W => SpecNameRight_any attr W (by unfold maxLen; omega))
  have CI : Hid (∀ W : World, Calls Try.prog 72 #[.int .i64 right, .int .i64 1, .int .i64 4] W fun e w' => e = .returned (.bool (rtB right)) ∧ w' = W) := Lib.hid (fun W => l02Is_any right 1 4 W)
  have CG : Hid (∀ W : World, Below w.heap.size w W → Calls Try.prog 73 #[v, .string who, dv, .string attr, .int .i64 right] W fun e w' => e = .returned (.bool (grantB d who dn attr right)) ∧ Below W.heap.size W w') := Lib.hid (fun W b => l06Allowed_any v d who dn dv attr right W (hL.frame (Same.of_below' b)) (hd.frame (Same.of_below' b)) hz hzd)
  have hl1 : d.length ≤ 1048576 := by omega
  have hl2 : dn.length ≤ 1048576 := by omega
  obtain ⟨o1, k1, rfl⟩ := hL.sl
  have hd0 := hd
  obtain ⟨o2, k2, rfl⟩ := hd.sl
  have CD : Hid (∀ W : World, Below w.heap.size w W → Calls Try.prog 47 #[.slice o2 dn.length k2] W fun e w' => e = .returned (.bool (dnB dn)) ∧ Below W.heap.size W w') := Lib.hid (fun W b => SpecDnRight_any o2 dn k2 W ((dn_of hd0).below b) (fits_dn hzd))
  clear hL hd hd0 hz hzd
  generalize aclB d = n1 at *
  generalize nmL who = n2 at *
  generalize nmL attr = n3 at *
  generalize dnB dn = n4 at *
  generalize rtB right = n5 at *
  generalize grantB d who dn attr right = n6 at *
  generalize hem : attr.toList.isEmpty = em at *
  generalize allowB d who dn attr right = R at *
  by_cases c1 : 400 < d.length
  · have HR : Hid (R = false) := Lib.hid (by cases n1 with | false => (rw [HB.out]; rfl) | true => (have := L1.out rfl; omega))
    have c1' : (400 : Int) < (d.length : Int) := by omega
    go_enter Try.func18, Try.ntmps18
    go_wp2
    go_ret
    exact ⟨ret_bool HR.out.symm, Below.refl _ _⟩
  have c1' : ¬ (400 : Int) < (d.length : Int) := by omega
  by_cases c2 : 400 < dn.length
  · have HR : Hid (R = false) := Lib.hid (by cases n4 with | false => (rw [HB.out]; simp) | true => (have := L2.out rfl; omega))
    have c2' : (400 : Int) < (dn.length : Int) := by omega
    go_enter Try.func18, Try.ntmps18
    go_wp2
    go_ret
    exact ⟨ret_bool HR.out.symm, Below.refl _ _⟩
  have c2' : ¬ (400 : Int) < (dn.length : Int) := by omega
  by_cases c3 : 8000 < who.size
  · have HR : Hid (R = false) := Lib.hid (by cases n2 with | false => (rw [HB.out]; simp) | true => (have := L3.out rfl; omega))
    have c3' : (8000 : Int) < (who.size : Int) := by omega
    go_enter Try.func18, Try.ntmps18
    go_wp2
    go_ret
    exact ⟨ret_bool HR.out.symm, Below.refl _ _⟩
  have c3' : ¬ (8000 : Int) < (who.size : Int) := by omega
  by_cases c4 : 8000 < attr.size
  · have HR : Hid (R = false) := Lib.hid (by
      cases em
      · cases n3
        · rw [HB.out]; simp
        · have := L4.out rfl; omega
      · have := L5.out rfl; omega)
    have c4' : (8000 : Int) < (attr.size : Int) := by omega
    go_enter Try.func18, Try.ntmps18
    go_wp2
    go_ret
    exact ⟨ret_bool HR.out.symm, Below.refl _ _⟩
  have c4' : ¬ (8000 : Int) < (attr.size : Int) := by omega
  clear L1 L2 L3 L4 L5 c1 c2 c3 c4
  go_enter Try.func18, Try.ntmps18
  go_wp2_with fail
  refine (CL.out w (Below.refl _ _)).mono ?_
  rintro e w2 ⟨rfl, b2⟩
  cases n1
  · have HR : Hid (R = false) := Lib.hid (by rw [HB.out]; simp)
    go_wp2
    go_ret
    exact ⟨ret_bool HR.out.symm, b2⟩
  go_wp2_with fail
  refine (CN.out w2).mono ?_
  rintro e w3 ⟨rfl, rfl⟩
  cases n2
  · have HR : Hid (R = false) := Lib.hid (by rw [HB.out]; simp)
    go_wp2
    go_ret
    exact ⟨ret_bool HR.out.symm, b2⟩
  by_cases hn : dn.length = 0
  · have hn' : ((dn.length : Int) == 0) = true := by simp only [beq_iff_eq]; omega
    have HR : Hid (R = false) := Lib.hid (by rw [HB.out]; simp [hn])
    clear hn
    go_wp2
    go_ret
    exact ⟨ret_bool HR.out.symm, b2⟩
  have hn' : ((dn.length : Int) == 0) = false := by simp only [beq_eq_false_iff_ne, ne_eq]; omega
  have HB2 : Hid (R = ((n4 && ((em || n3) && n5)) && n6)) := Lib.hid (by rw [HB.out]; simp [hn])
  clear HB
  have HB := HB2; clear HB2
  go_wp2_with fail
  refine (CD.out w2 b2).mono ?_
  rintro e w3 ⟨rfl, hb⟩
  have b3 := b2.trans (hb.mono b2.size)
  clear hb b2
  cases n4
  · have HR : Hid (R = false) := Lib.hid (by rw [HB.out]; simp)
    go_wp2
    go_ret
    exact ⟨ret_bool HR.out.symm, b3⟩
  have HB2 : Hid (em = false → n3 = false → R = false) := Lib.hid (fun h1 h2 => by rw [HB.out, h1, h2]; simp)
  have HB3 : Hid ((em || n3) = true → R = (n5 && n6)) := Lib.hid (fun h => by rw [HB.out, h]; simp)
  cases em
  · go_wp2_with fail
    refine (CM.out w3).mono ?_
    rintro e w4 ⟨rfl, rfl⟩
    cases n3
    · have HR : Hid (R = false) := Lib.hid (HB2.out (by first | rfl | trivial) (by first | rfl | trivial))
      go_wp2
      go_ret
      exact ⟨ret_bool HR.out.symm, b3⟩
    have HB4 : Hid (R = (n5 && n6)) := Lib.hid (HB3.out (by first | rfl | trivial))
    go_wp2_with fail
    refine (CI.out w3).mono ?_
    rintro e w4 ⟨rfl, rfl⟩
    cases n5
    · have HR : Hid (R = false) := Lib.hid (by rw [HB4.out]; rfl)
      go_wp2
      go_ret
      exact ⟨ret_bool HR.out.symm, b3⟩
    have HR : Hid (R = n6) := Lib.hid (by rw [HB4.out]; rfl)
    go_wp2_with fail
    refine (CG.out _ b3).mono ?_
    rintro e w4 ⟨rfl, hb⟩
    have b4 := b3.trans (hb.mono b3.size)
    clear hb
    go_wp2
    go_ret
    exact ⟨ret_bool HR.out.symm, b4⟩
  · have HB4 : Hid (R = (n5 && n6)) := Lib.hid (HB3.out (by first | rfl | trivial))
    go_wp2_with fail
    refine (CI.out w3).mono ?_
    rintro e w4 ⟨rfl, rfl⟩
    cases n5
    · have HR : Hid (R = false) := Lib.hid (by rw [HB4.out]; rfl)
      go_wp2
      go_ret
      exact ⟨ret_bool HR.out.symm, b3⟩
    have HR : Hid (R = n6) := Lib.hid (by rw [HB4.out]; rfl)
    go_wp2_with fail
    refine (CG.out _ b3).mono ?_
    rintro e w4 ⟨rfl, hb⟩
    have b4 := b3.trans (hb.mono b3.size)
    clear hb
    go_wp2
    go_ret
    exact ⟨ret_bool HR.out.symm, b4⟩
end Go.Proofs.Ytglgkocjdockdaa
/- ViewOf: copies of attributes; those that may be read. -/
namespace Go.Proofs.Ytglgkocjdockdaa
open Go.RowKit
attribute [local go_sem ↓] Go.wp_at_zero Go.wp_at_succ

set_option maxRecDepth 100000 in
set_option maxHeartbeats 4000000 in
theorem copyAttr_any {S : Bs} (a0 : ByteArray) (a1 : List ByteArray) (v1 : Value) (w : World) (h1 : SlAt strE S w a1 v1) (hz : attrE.sz (a0, a1) ≤ 1048576) :
    Calls Try.prog 128 #[.agg #[.string a0, v1]] w fun e w' => ∃ u, e = .returned (.agg #[.string a0, u]) ∧ SlOwn strE (Fresh w w') w' a1 u ∧ Below w.heap.size w w' := by
  have HE : attrE.sz (a0, a1) = a0.size + (a1.length + szL strE a1) := rfl
  rw [HE] at hz
  obtain ⟨o1, k1, rfl⟩ := h1.sl
  have H1 := Lib.hid h1
  have hl : a1.length ≤ 1048576 := by omega
  have hs0 : a0.size ≤ 1048576 := by omega
  have CT : Hid (∀ W : World, Below w.heap.size w W → Calls Try.prog 103 #[.slice o1 a1.length k1] W fun e w' => ∃ u, e = .returned u ∧ SlOwn strE (Fresh W w') w' a1 u ∧ Below W.heap.size W w') := Lib.hid (fun W b => (copyTexts_any o1 a1 k1 W ((strs_of h1).below b) (fits_str (by omega))).mono fun e w' ⟨⟨v, he, ho⟩, hb⟩ => ⟨v, he, own_texts ho, hb⟩)
  clear h1 hz HE
  go_enter Try.func128, Try.ntmps128
  go_wp2
  refine wp_world (fun W => Below w.heap.size w W ∧ Blk W w.heap.size [.string a0, .slice o1 a1.length k1] ∧ Blk W (w.heap.size + 1) [.string ⟨#[]⟩, .slice none 0 0]) ⟨more' (more' (Below.refl _ _) _) _, (Blk.new _ _ _).alloc _, blk_at _ _ _ (by simp)⟩ ?_
  rintro W0 ⟨B, ta, tr⟩
  have TA := Lib.hid ta; have TR := Lib.hid tr
  have hn : w.heap.size + 1 < W0.heap.size := tr.lt
  clear ta tr
  have SK : Hid (∀ Z' : World, Below W0.heap.size W0 Z' → Z'.cell? ⟨w.heap.size, 0, none⟩ = some (.string a0) ∧ Z'.cell? ⟨w.heap.size, 1, none⟩ = some (.slice o1 a1.length k1)) := Lib.hid (fun Z' h => ⟨(TA.out.below h).cell 0 rfl, (TA.out.below h).cell 1 rfl⟩)
  have BD : Below W0.heap.size W0 W0.drew := (Below.refl _ _).drew
  have BA : Below W0.heap.size W0 (W0.drew.alloc (.cells #[.string a0] 9)) := more' BD _
  refine wp_region_held_drew (S := (fun Z' => Z'.cell? ⟨w.heap.size, 0, none⟩ = some (.string a0) ∧ Z'.cell? ⟨w.heap.size, 1, none⟩ = some (.slice o1 a1.length k1))) (by kernel_rfl) ?_ (fun hHeld => ?_)
  · (try dsimp only)
    first | exact SK.out _ (by assumption) | exact SK.out _ BD | exact SK.out _ BA | exact SX.out _ _
  refine wpAnyH_take (i := 0) (oi := { dst := some 3, op := Op.fieldAddr 83 (Operand.tmp 1) 0, type := 0, pos := "l03_entry.go:103", after := #[], guard := none }) (v := ?_) rfl (by kernel_rfl) (by kernel_rfl) (by kernel_rfl) (fun _ _ _ h => h) (Or.inl ⟨by rfl, ?_⟩) (by assumption) ?_
  rotate_left
  · intro w hSw; (try dsimp only at hSw); go_simp; (try with_reducible rfl)
  (try simp only [Act.put, List.setIfInBounds_toArray, List.set_cons_zero, List.set_cons_succ])
  refine wpAnyH_take (i := 1) (oi := { dst := some 4, op := Op.load 9 (Operand.tmp 3), type := 9, pos := "l03_entry.go:103", after := #[{ on := 0, ground := Ground.data }], guard := none }) (v := ?_) rfl (by kernel_rfl) (by kernel_rfl) (by kernel_rfl) (fun _ _ _ h => h) (Or.inl ⟨by rfl, ?_⟩) (by assumption) ?_
  rotate_left
  · intro w hSw; (try dsimp only at hSw); go_simp; (try with_reducible rfl)
  (try simp only [Act.put, List.setIfInBounds_toArray, List.set_cons_zero, List.set_cons_succ])
  refine wpAnyH_take (i := 4) (oi := { dst := some 7, op := Op.fieldAddr 83 (Operand.tmp 1) 1, type := 0, pos := "l03_entry.go:103", after := #[], guard := none }) (v := ?_) rfl (by kernel_rfl) (by kernel_rfl) (by kernel_rfl) (fun _ _ _ h => h) (Or.inl ⟨by rfl, ?_⟩) (by assumption) ?_
  rotate_left
  · intro w hSw; (try dsimp only at hSw); go_simp; (try with_reducible rfl)
  (try simp only [Act.put, List.setIfInBounds_toArray, List.set_cons_zero, List.set_cons_succ])
  refine wpAnyH_take (i := 5) (oi := { dst := some 8, op := Op.load 61 (Operand.tmp 7), type := 61, pos := "l03_entry.go:103", after := #[{ on := 4, ground := Ground.data }], guard := none }) (v := ?_) rfl (by kernel_rfl) (by kernel_rfl) (by kernel_rfl) (fun _ _ _ h => h) (Or.inl ⟨by rfl, ?_⟩) (by assumption) ?_
  rotate_left
  · intro w hSw; (try dsimp only at hSw); go_simp; (try with_reducible rfl)
  (try simp only [Act.put, List.setIfInBounds_toArray, List.set_cons_zero, List.set_cons_succ])
  refine wpAnyH_ready (rs := [2]) (by kernel_rfl) (by simp) ?_
  refine AllReadyH.cons (o := { dst := some 5, op := Op.buildSlice 61 1 #[(0, Operand.tmp 4)], type := 61, pos := "l03_entry.go:103", after := #[{ on := 1, ground := Ground.data }], guard := none }) rfl (fun K hK => ?_) (AllReadyH.nil)
  go_simp
  clear hHeld
  refine hK.out _ _ ?_ (fun hHeld => ?_)
  · (try dsimp only)
    first | exact SK.out _ (by assumption) | exact SK.out _ BD | exact SK.out _ BA | exact SX.out _ _
  clear hK K
  (try simp only [Act.put, List.setIfInBounds_toArray, List.set_cons_zero, List.set_cons_succ])
  refine wpAnyH_ready (rs := [3]) (by kernel_rfl) (by simp) ?_
  refine AllReadyH.cons (o := { dst := some 6, op := Op.call { callee := Callee.value (Operand.func 111), args := #[Operand.tmp 5], argTypes := #[61] }, type := 9, pos := "l03_entry.go:103", after := #[{ on := 2, ground := Ground.data }], guard := none }) rfl (fun K hK => ?_) (AllReadyH.nil)
  go_simp
  refine (concat_copy a0 W0.drew (by omega)).mono ?_
  rintro e w2 ⟨rfl, hb⟩
  have D2 : Below W0.heap.size W0 w2 := BD.trans hb
  have B2 := B.trans (D2.mono B.size)
  clear hb
  clear hHeld
  refine hK.out _ _ ?_ (fun hHeld => ?_)
  · (try dsimp only)
    first | exact SK.out _ (by assumption) | exact SK.out _ BD | exact SK.out _ BA | exact SX.out _ _
  clear hK K
  (try simp only [Act.put, List.setIfInBounds_toArray, List.set_cons_zero, List.set_cons_succ])
  refine wpAnyH_ready (rs := [6]) (by kernel_rfl) (by simp) ?_
  refine AllReadyH.cons (o := { dst := some 9, op := Op.call { callee := Callee.value (Operand.func 103), args := #[Operand.tmp 8], argTypes := #[61] }, type := 61, pos := "l03_entry.go:103", after := #[{ on := 5, ground := Ground.data }, { on := 3, ground := Ground.chain }], guard := none }) rfl (fun K hK => ?_) (AllReadyH.nil)
  go_simp
  refine (CT.out w2 B2).mono ?_
  rintro e w3 ⟨u, rfl, q, hb⟩
  have D3 := D2.trans (hb.mono D2.size)
  have B3 := B2.trans (hb.mono B2.size)
  have Q := Lib.hid q
  obtain ⟨p, c, rfl⟩ := q.at.sl
  have hs3 := hb.size; have hs2 := D2.size
  have TX := Lib.hid (TA.out.below D3); have RX := Lib.hid (TR.out.below D3)
  have c0 := RX.out.cell 0 rfl
  have c1 := RX.out.cell 1 rfl
  have f0 := RX.out.soft 0
  have f1 := RX.out.soft 1
  have SX : Hid (∀ x y : Value, (((w3.setCell ⟨w.heap.size + 1, 0, none⟩ x).setCell ⟨w.heap.size + 1, 1, none⟩ y).cell? ⟨w.heap.size, 0, none⟩ = some (.string a0) ∧ ((w3.setCell ⟨w.heap.size + 1, 0, none⟩ x).setCell ⟨w.heap.size + 1, 1, none⟩ y).cell? ⟨w.heap.size, 1, none⟩ = some (.slice o1 a1.length k1))) := Lib.hid (fun x y => ⟨((TX.out.far (by omega) x).far (by omega) y).cell 0 rfl, ((TX.out.far (by omega) x).far (by omega) y).cell 1 rfl⟩)
  clear hb q
  clear hHeld
  refine hK.out _ _ ?_ (fun hHeld => ?_)
  · (try dsimp only)
    first | exact SK.out _ (by assumption) | exact SK.out _ BD | exact SK.out _ BA | exact SX.out _ _
  clear hK K
  (try simp only [Act.put, List.setIfInBounds_toArray, List.set_cons_zero, List.set_cons_succ])
  refine wpAnyH_take (i := 7) (oi := { dst := some 10, op := Op.build 83 #[(0, Operand.tmp 6), (1, Operand.tmp 9)], type := 83, pos := "l03_entry.go:103", after := #[{ on := 3, ground := Ground.data }, { on := 6, ground := Ground.data }], guard := none }) (v := ?_) rfl (by kernel_rfl) (by kernel_rfl) (by kernel_rfl) (fun _ _ _ h => h) (Or.inl ⟨by rfl, ?_⟩) (by assumption) ?_
  rotate_left
  · intro w hSw; (try dsimp only at hSw); go_simp; (try with_reducible rfl)
  (try simp only [Act.put, List.setIfInBounds_toArray, List.set_cons_zero, List.set_cons_succ])
  refine wpAnyH_ready (rs := [8]) (by kernel_rfl) (by simp) ?_
  refine AllReadyH.cons (o := { dst := none, op := Op.store 83 (Operand.tmp 2) (Operand.tmp 10), type := 0, pos := "l03_entry.go:103", after := #[{ on := 7, ground := Ground.data }, { on := 6, ground := Ground.chain }, { on := 0, ground := Ground.phase }, { on := 1, ground := Ground.phase }, { on := 2, ground := Ground.phase }, { on := 3, ground := Ground.phase }, { on := 4, ground := Ground.phase }, { on := 5, ground := Ground.phase }, { on := 6, ground := Ground.phase }, { on := 7, ground := Ground.phase }], guard := none }) rfl (fun K hK => ?_) (AllReadyH.nil)
  go_simp
  clear hHeld
  refine hK.out _ _ ?_ (fun hHeld => ?_)
  · (try dsimp only)
    first | exact SK.out _ (by assumption) | exact SK.out _ BD | exact SK.out _ BA | exact SX.out _ _
  clear hK K
  (try simp only [Act.put, List.setIfInBounds_toArray, List.set_cons_zero, List.set_cons_succ])
  refine wpAnyH_done (by kernel_rfl) ?_ _
  have TE := (RX.out.set 0 (.string a0)).set 1 (.slice p a1.length c)
  have j0 := TE.cell 0 rfl
  have j1 := TE.cell 1 rfl
  clear TE
  go_wp2
  refine bodyPost_ret (v := .agg #[.string a0, .slice p a1.length c]) (by simp [results, Try.results128, go_sem, j0, j1]) rfl ⟨_, rfl, ?_, ?_⟩
  · have h1 := ((Q.out.frame (Same.set _ (g := w.heap.size + 1) 0 (.string a0) (by intro h; have := h.1; omega))).frame (Same.set _ (g := w.heap.size + 1) 1 (.slice p a1.length c) (by intro h; have := h.1; omega)))
    refine h1.wide (fun k z => ⟨by have := z.1; omega, by have := z.2; show _ < (World.heap _).size; simp only [setCell_size]; omega⟩)
  · exact (B3.setCell (p := ⟨w.heap.size + 1, 0, none⟩) (by show w.heap.size ≤ w.heap.size + 1; omega) _).setCell (p := ⟨w.heap.size + 1, 1, none⟩) (by show w.heap.size ≤ w.heap.size + 1; omega) _
end Go.Proofs.Ytglgkocjdockdaa
/- The helpers of the laws: copies. -/
namespace Go.Proofs.Ytglgkocjdockdaa
open Go.RowKit
attribute [local go_sem ↓] Go.wp_at_zero Go.wp_at_succ

theorem Try.infoTString : (Try.prog.info? 9).map (fun i => (i.zero, i.size, i.bytes)) = some (some (.string ByteArray.empty), 1, 16) := by kernel_rfl
theorem mkString (n : Nat) (hn : n ≤ 1048576) (W : World) : ∃ C : Array Value, C.size = n * 1 ∧
    (Instr.makeSlice 61 (.int .i64 (n : Int)) (.int .i64 (n : Int))).run Try.prog W = .ok (.slice (some ⟨W.heap.size, 0, none⟩) n n) (W.alloc (.cells C 9)) := by
  obtain ⟨i0, hi, hz0, hz1, hz2⟩ := info_parts Try.infoTString
  have := run_make (P := Try.prog) W 61 9 i0 _ Try.underlying61 hi hz0 .i64 .i64 (n : Int) (n : Int) (by omega) (by omega) (by rw [hz2]; omega) (by omega)
  rw [hz1] at this
  refine ⟨madeCells (Value.cells (.string ByteArray.empty)) (n * 1), size_madeCells _ _, ?_⟩
  simpa using this
set_option maxRecDepth 100000 in
set_option maxHeartbeats 4000000 in
theorem toStringS_at {S : Bs} (v : Value) (d : List ByteArray) (w : World) (hd : SlAt strE S w d v) (hz : d.length + szL strE d ≤ 1048576) :
    Calls Try.prog 41 #[v] w fun e w' => ∃ u, e = .returned u ∧ SlOwn strE (Fresh w w') w' d u ∧ Below w.heap.size w w' := by
  obtain ⟨ao, cap, rfl⟩ := hd.sl
  have HD := Lib.hid hd; clear hd
  have HL := Lib.hid hz
  have hl : d.length ≤ 1048576 := by omega
  clear hz
  obtain ⟨C, hC, hmk⟩ := mkString d.length hl w
  have HC := Lib.hid hC; clear hC
  go_enter Try.func41, Try.ntmps41
  go_wp2
  clear hmk
  go_loopw [4] (fun i wr => ∃ k : Nat, k ≤ d.length ∧ i = .int .i64 k ∧ Build strE wr w.heap.size d.length (d.take k) ∧ Below w.heap.size w wr) (fun i _ => d.length - (intOf i).toNat)
  case atStart => exact ⟨0, Nat.zero_le _, rfl, Build.new _ _ _ _ HC.out, (Below.refl _ _).alloc (Nat.le_refl _) _⟩
  case round =>
    obtain ⟨k, hk, rfl, hR, hbel⟩ := hrel
    have HR := Lib.hid hR; clear hR
    have hsz := hbel.size
    by_cases hlt : k < d.length
    · obtain ⟨b, off, A, rfl, _, hb0, hx, hc1⟩ := str_row (HD.out.frame (Same.of_below' hbel)) hlt
      have HT : Hid (d.take (k + 1) = d.take k ++ [A]) := Lib.hid (by rw [List.take_succ_eq_append_getElem hlt, hx])
      have HK : Hid ((d.take k).length = k) := Lib.hid (by rw [List.length_take]; omega)
      clear hx
      obtain ⟨x, c0⟩ := HR.out.cell (k := k) (u := 0) hlt (by decide)
      have c0 : wr.cell? ⟨w.heap.size, k, none⟩ = some x := by have e1 : k * strE.n + 0 = k := by (show k * 1 + 0 = k); omega
                                                               rw [e1] at c0; exact c0
      have f0 := HR.out.soft k
      go_wp2
      go_roundw
      case rel => exact ⟨k + 1, by omega, by go_num, by rw [HT.out]; exact HR.out.row (o := k) (cs := [.string A]) (by rw [HK.out]; exact hlt) (by rw [HK.out]; show k = k * 1; omega) (Below.refl _ _) rfl, hbel.setCell (Nat.le_refl _) _⟩
      case measure => simp [intOf]; omega
    · have e : d.take k = d := List.take_of_length_le (by omega)
      rw [e] at HR
      clear e
      go_wp2
      go_ret
      exact ⟨_, rfl, HR.out.own, hbel⟩
end Go.Proofs.Ytglgkocjdockdaa
/- The helpers of the laws: copies. -/
namespace Go.Proofs.Ytglgkocjdockdaa
open Go.RowKit
attribute [local go_sem ↓] Go.wp_at_zero Go.wp_at_succ

theorem Try.infoTAttr : (Try.prog.info? 83).map (fun i => (i.zero, i.size, i.bytes)) = some (some (.agg #[.string ByteArray.empty, .slice none 0 0]), 2, 40) := by kernel_rfl
theorem mkAttr (n : Nat) (hn : n ≤ 1048576) (W : World) : ∃ C : Array Value, C.size = n * 2 ∧
    (Instr.makeSlice 40 (.int .i64 (n : Int)) (.int .i64 (n : Int))).run Try.prog W = .ok (.slice (some ⟨W.heap.size, 0, none⟩) n n) (W.alloc (.cells C 83)) := by
  obtain ⟨i0, hi, hz0, hz1, hz2⟩ := info_parts Try.infoTAttr
  have := run_make (P := Try.prog) W 40 83 i0 _ Try.underlying40 hi hz0 .i64 .i64 (n : Int) (n : Int) (by omega) (by omega) (by rw [hz2]; omega) (by omega)
  rw [hz1] at this
  refine ⟨madeCells (Value.cells (.agg #[.string ByteArray.empty, .slice none 0 0])) (n * 2), size_madeCells _ _, ?_⟩
  simpa using this
set_option maxRecDepth 100000 in
set_option maxHeartbeats 4000000 in
theorem toAttr_at {S : Bs} (a0 : ByteArray) (a1 : (List ByteArray)) (v1 : Value) (w : World) (h1 : SlAt strE S w a1 v1) (hz : attrE.sz (a0, a1) ≤ 1048576) :
    Calls Try.prog 124 #[.agg #[.string a0, v1]] w fun e w' => ∃ u1, e = .returned (.agg #[.string a0, u1]) ∧ attrE.Own (Fresh w w') w' (a0, a1) [.string a0, u1] ∧ Below w.heap.size w w' := by
  have HE : attrE.sz (a0, a1) = a0.size + ((a1.length + szL strE a1)) := rfl
  rw [HE] at hz
  have C1 : Hid (∀ W : World, Below w.heap.size w W → Calls Try.prog 41 #[v1] W fun e w' => ∃ u, e = .returned u ∧ SlOwn strE (Fresh W w') w' a1 u ∧ Below W.heap.size W w') := Lib.hid (fun W b => toStringS_at v1 a1 W (h1.frame (Same.of_below' b)) (by omega))
  obtain ⟨o1, k1, rfl⟩ := h1.sl
  clear hz HE h1
  go_enter Try.func124, Try.ntmps124
  go_wp2_with fail
  refine calls_by (fun W => Below w.heap.size w W ∧ Blk W w.heap.size [.string a0, .slice o1 a1.length k1] ∧ Blk W (w.heap.size + 1) [.string ⟨#[]⟩, .slice none 0 0] ∧ Blk W (w.heap.size + 1 + 1) [.string a0, .slice none 0 0]) ⟨more' (more' (more' (Below.refl _ _) _) _) _, ((Blk.new _ _ _).alloc _).alloc _, (blk_at _ _ _ (by simp)).alloc _, blk_at _ _ _ (by simp)⟩ ?_
  rintro W0 ⟨b0, t0, r0, s0⟩
  have hn : w.heap.size + 1 + 1 < W0.heap.size := s0.lt
  refine (C1.out W0 b0).mono ?_
  rintro e y1 ⟨u1, rfl, q1, hb⟩
  obtain ⟨p1, j1, rfl⟩ := q1.at.sl
  have T := Lib.hid (t0.below hb); have Rr := Lib.hid (r0.below hb); have U := Lib.hid (s0.below hb); have B := Lib.hid (b0.trans (hb.mono b0.size)); have hs1 := hb.size
  have Q1 := Lib.hid q1
  clear t0 r0 s0 b0 hb q1 C1
  have m0 := T.out.cell 0 rfl
  have c0 := U.out.cell 0 rfl
  have f0 := U.out.soft 0
  have m1 := T.out.cell 1 rfl
  have c1 := U.out.cell 1 rfl
  have f1 := U.out.soft 1
  have TE := (((Rr.out.far (R := w.heap.size + 1 + 1) (j := 1) (by omega) (.slice p1 a1.length j1)).set 0 (.string a0)).set 1 (.slice p1 a1.length j1))
  have d0 := Rr.out.cell 0 rfl
  have g0 := Rr.out.soft 0
  have k100 := TE.cell 0 rfl
  have d1 := Rr.out.cell 1 rfl
  have g1 := Rr.out.soft 1
  have k101 := TE.cell 1 rfl
  clear TE
  go_wp2_with fail
  refine bodyPost_ret (v := .agg #[.string a0, .slice p1 a1.length j1]) (by simp [results, Try.results124, go_sem, k100, k101]) rfl ⟨_, rfl, ?_, ?_⟩
  · exact attr_pack a0 a1 _ (Fresh W0 y1) ⟨(((Q1.out.frame (Same.set _ _ _ (by intro h; have := h.1; omega))).frame (Same.set _ _ _ (by intro h; have := h.1; omega))).frame (Same.set _ _ _ (by intro h; have := h.1; omega))), (fun k z => ⟨by have := z.1; omega, by have := z.2; show _ < (World.heap _).size; simp only [setCell_size]; omega⟩), trivial⟩
  · exact (((B.out.setCell (p := ⟨w.heap.size + 1 + 1, 1, none⟩) (by show w.heap.size ≤ w.heap.size + 1 + 1; omega) _).setCell (p := ⟨w.heap.size + 1, 0, none⟩) (by show w.heap.size ≤ w.heap.size + 1; omega) _).setCell (p := ⟨w.heap.size + 1, 1, none⟩) (by show w.heap.size ≤ w.heap.size + 1; omega) _)
set_option maxRecDepth 100000 in
set_option maxHeartbeats 4000000 in
theorem toAttrS_at {S : Bs} (v : Value) (d : List AttrT) (w : World) (hd : SlAt attrE S w d v) (hz : d.length + szL attrE d ≤ 1048576) :
    Calls Try.prog 82 #[v] w fun e w' => ∃ u, e = .returned u ∧ SlOwn attrE (Fresh w w') w' d u ∧ Below w.heap.size w w' := by
  obtain ⟨ao, cap, rfl⟩ := hd.sl
  have HD := Lib.hid hd; clear hd
  have HL := Lib.hid hz
  have hl : d.length ≤ 1048576 := by omega
  clear hz
  obtain ⟨C, hC, hmk⟩ := mkAttr d.length hl w
  have HC := Lib.hid hC; clear hC
  go_enter Try.func82, Try.ntmps82
  go_wp2
  clear hmk
  go_loopw [4] (fun i wr => ∃ k : Nat, k ≤ d.length ∧ i = .int .i64 k ∧ Build attrE wr w.heap.size d.length (d.take k) ∧ Below w.heap.size w wr) (fun i _ => d.length - (intOf i).toNat)
  case atStart => exact ⟨0, Nat.zero_le _, rfl, Build.new _ _ _ _ HC.out, (Below.refl _ _).alloc (Nat.le_refl _) _⟩
  case round =>
    obtain ⟨k, hk, rfl, hR, hbel⟩ := hrel
    have HR := Lib.hid hR; clear hR
    have hsz := hbel.size
    by_cases hlt : k < d.length
    · obtain ⟨b, off, a0, a1, v1, rfl, _, hb0, hx, ⟨hc0, hc1⟩, s1, _⟩ := attr_row (HD.out.frame (Same.of_below' hbel)) hlt
      have HT : Hid (d.take (k + 1) = d.take k ++ [(a0, a1)]) := Lib.hid (by rw [List.take_succ_eq_append_getElem hlt, hx])
      have HK : Hid ((d.take k).length = k) := Lib.hid (by rw [List.length_take]; omega)
      have HZ : Hid (attrE.sz (a0, a1) ≤ 1048576) := Lib.hid (by have h1 := szL_mem attrE (List.getElem_mem hlt); rw [hx] at h1; have := HL.out; omega)
      clear hx
      have HV1 := Lib.hid s1; clear s1
      obtain ⟨o1, k1, rfl⟩ := HV1.out.sl
      go_wp2_with fail
      refine (toAttr_at a0 a1 _ wr HV1.out HZ.out).mono ?_
      rintro e w2 ⟨u1, rfl, hq, hb2⟩
      have HR2 := Lib.hid (HR.out.below hb2)
      have B2 := Lib.hid (hbel.trans (hb2.mono hsz))
      have HQ := Lib.hid hq
      have HB := Lib.hid hb2
      clear hb2 hq hc0 hc1
      have hsl := attr_sl HQ.out rfl
      obtain ⟨p1, l1, j1, rfl⟩ := hsl
      obtain ⟨x0, c0⟩ := HR2.out.cell (k := k) (u := 0) hlt (by decide)
      have c0 : w2.cell? ⟨w.heap.size, k * 2, none⟩ = some x0 := c0
      have f0 := HR2.out.soft (k * 2)
      obtain ⟨x1, c1⟩ := HR2.out.cell (k := k) (u := 1) hlt (by decide)
      have c1 : w2.cell? ⟨w.heap.size, k * 2 + 1, none⟩ = some x1 := c1
      have f1 := HR2.out.soft (k * 2 + 1)
      go_wp2
      go_roundw
      case rel => exact ⟨k + 1, by omega, by go_num, by rw [HT.out]; exact HR.out.row (o := k * 2) (cs := [.string a0, .slice p1 l1 j1]) (by rw [HK.out]; exact hlt) (by rw [HK.out]; rfl) HB.out HQ.out, ((B2.out.setCell (Nat.le_refl _) _).setCell (Nat.le_refl _) _)⟩
      case measure => simp [intOf]; omega
    · have e : d.take k = d := List.take_of_length_le (by omega)
      rw [e] at HR
      clear e
      go_wp2
      go_ret
      exact ⟨_, rfl, HR.out.own, hbel⟩
end Go.Proofs.Ytglgkocjdockdaa
/- ViewOf: the attributes that may be read: the program. -/
namespace Go.Proofs.Ytglgkocjdockdaa
open Go.RowKit
attribute [local go_sem ↓] Go.wp_at_zero Go.wp_at_succ

noncomputable def readR (l : List RuleT) (who : ByteArray) (dn : RdnL) (at_ : List AttrT) : List AttrT := at_.filter (fun a => grantB l who dn a.1 1)
section
variable {ops : Array Oper} {rest : List Oper} {o : Oper} {a : Act} {Q : Exit → Act → World → Prop} {w3 : World}
theorem append_attr (B : Nat) (hgd : o.guard = none) (s x : Operand)
    (ho : o.op = .call { callee := .builtin .append, args := #[s, x], argTypes := #[40, 40] }) (v : Value) (n : Nat) (xs : List Value) (hs : a.eval s = v) (hown : w3.ownsRow B 83 2 v n xs)
    (A : ByteArray) (p : Option Addr) (m c : Nat) (hx : a.eval x = .slice (some ⟨w3.heap.size, 0, none⟩) 1 1) (hlen : n ≤ 100000000) (hB : B ≤ w3.heap.size)
    (h : ∀ g cap w', w'.ownsRow B 83 2 (.slice (some ⟨g, 0, none⟩) (n + 1) cap) (n + 1) (xs ++ [.string A, .slice p m c]) → (w3.alloc (.cells #[.string A, .slice p m c] 83)).grownBy w' v.ownBlock → (v.ownBlock = some g ∨ g = w3.heap.size + 1) → wpList Try.prog ops Q rest (a.put o.dst (.slice (some ⟨g, 0, none⟩) (n + 1) cap)) w') :
    wpList Try.prog ops Q (o :: rest) a (w3.alloc (.cells #[.string A, .slice p m c] 83)) := by
  obtain ⟨i0, hi, hz0, hz1, hz2⟩ := info_parts Try.infoTAttr
  refine wpList_append_lies _ hgd s x 40 ho B 83 i0 _ 2 40 Try.underlying40 hi hz0 hz1 hz2 rfl (by decide) v n xs hs (hown.alloc _) ⟨w3.heap.size, 0, none⟩ 1 1 [.string A, .slice p m c] hx rfl (World.news_of_block (cs := #[.string A, .slice p m c]) (t := 83) (fr := (0, 0)) (heap_alloc_new _ _)) ?_ (by omega) ?_ ?_ ?_ (w3.heap.size + 1) (by simp) ?_
  · intro u hu; simp at hu; rcases hu with rfl | rfl <;> rfl
  · unfold maxLen; omega
  · omega
  · simp; omega
  · intro g cap w' h1 h2 h3 _
    exact h g cap w' h1 h2 h3
end
set_option maxRecDepth 100000 in
set_option maxHeartbeats 4000000 in
theorem readable_any {S S1 S2 : Bs} (v : Value) (d : List RuleT) (who : ByteArray) (dn : RdnL) (at_ : List AttrT) (dv av : Value) (w : World) (hL : SlAt ruleE S w d v) (hd : SlAt rdnE S1 w dn dv) (ha : SlAt attrE S2 w at_ av)
    (hz : d.length + szL ruleE d ≤ 1048576) (hze : entryE.sz (dn, at_) ≤ 1048576) :
    Calls Try.prog 86 #[v, .string who, .agg #[dv, av]] w fun e w' => ∃ u, e = .returned u ∧ SlOwn attrE (Fresh w w') w' (readR d who dn at_) u ∧ Below w.heap.size w w' := by
  have HE : entryE.sz (dn, at_) = (dn.length + szL rdnE dn) + (at_.length + szL attrE at_) := rfl
  rw [HE] at hze
  have CG : Hid (∀ (W : World) (n : ByteArray), Below w.heap.size w W → Calls Try.prog 76 #[v, .agg #[.string who, dv, .string n, .int .i64 1]] W fun e w' => e = .returned (.bool (grantB d who dn n 1)) ∧ Below W.heap.size W w') := Lib.hid (fun W n b => grants_any v d who dn dv n 1 W (hL.frame (Same.of_below' b)) (hd.frame (Same.of_below' b)) hz (by omega))
  obtain ⟨o1, k1, rfl⟩ := hL.sl
  obtain ⟨o2, k2, rfl⟩ := hd.sl
  obtain ⟨o3, k3, rfl⟩ := ha.sl
  have HA := Lib.hid ha
  have HZ : Hid (∀ x ∈ at_, attrE.sz x ≤ 1048576) := Lib.hid (fun x h => by have h1 := szL_mem attrE h; omega)
  have hl : at_.length ≤ 1048576 := by omega
  clear hL hd ha hz hze HE
  go_enter Try.func86, Try.ntmps86
  go_wp2
  go_loopw [7, 13] (fun v i wr => ∃ k : Nat, k ≤ at_.length ∧ i = .int .i64 k ∧ (∃ xs, Grow attrE 83 (w.heap.size + 1) wr v (readR d who dn (at_.take k)) xs) ∧ Below w.heap.size w wr ∧ Blk wr w.heap.size [.slice o2 dn.length k2, .slice o3 at_.length k3]) (fun _ i _ => at_.length - (intOf i).toNat)
  case atStart => exact ⟨0, Nat.zero_le _, rfl, ⟨[], Grow.nil _ _ _ _⟩, more' (Below.refl _ _) _, Blk.new _ _ _⟩
  case round =>
    obtain ⟨k, hk, rfl, ⟨xs, hg⟩, hbel, hbk⟩ := hrel
    have HG := Lib.hid hg; have HK := Lib.hid hbk; clear hg hbk
    obtain ⟨p7, n7, q7, hv7⟩ := own_slice3' HG.out.row
    subst hv7
    by_cases hlt : k < at_.length
    · obtain ⟨b, off, a0, a1, v1, rfl, _, hb0, hx, ⟨hc0, hc1⟩, s1, _⟩ := attr_row (HA.out.frame (Same.of_below' hbel)) hlt
      have HZ1 : Hid (attrE.sz (a0, a1) ≤ 1048576) := Lib.hid (by have := HZ.out _ (List.getElem_mem hlt); rw [hx] at this; exact this)
      have HT : Hid (readR d who dn (at_.take (k + 1)) = readR d who dn (at_.take k) ++ (if grantB d who dn a0 1 then [(a0, a1)] else [])) := Lib.hid (by
        unfold readR
        rw [List.take_succ_eq_append_getElem hlt, List.filter_append, hx]
        cases h : grantB d who dn a0 1 <;> simp [List.filter_cons, h])
      have HS1 := Lib.hid s1
      obtain ⟨o4, k4, rfl⟩ := s1.sl
      clear s1 hx
      have CG0 : Hid (∀ W : World, Below w.heap.size w W → Calls Try.prog 76 #[.slice o1 d.length k1, .agg #[.string who, .slice o2 dn.length k2, .string a0, .int .i64 1]] W fun e w' => e = .returned (.bool (grantB d who dn a0 1)) ∧ Below W.heap.size W w') := Lib.hid (fun W b => CG.out W a0 b)
      generalize grantB d who dn a0 1 = gr at *
      have hrl : Hid ((readR d who dn (at_.take k)).length ≤ 100000000) := Lib.hid (by
        have h1 := List.length_filter_le (fun a => grantB d who dn a.1 1) (at_.take k)
        have h2 : (at_.take k).length ≤ k := by rw [List.length_take]; omega
        unfold readR
        omega)
      generalize readR d who dn (at_.take k) = pre at *
      have g1 : (0 : Int) ≤ (k : Int) := by omega
      have g2 : (k : Int) < (at_.length : Int) := by omega
      have m0 := (HK.out.alloc (.cells #[.string a0, .slice o4 a1.length k4] 83)).cell 0 rfl
      have m1 := (HK.out.alloc (.cells #[.string a0, .slice o4 a1.length k4] 83)).cell 1 rfl
      go_wp2_with fail
      refine calls_by (fun W => Below w.heap.size w W ∧ Below wr.heap.size wr W ∧ Blk W wr.heap.size [.string a0, .slice o4 a1.length k4]) ⟨more' hbel _, more' (Below.refl _ _) _, Blk.new _ _ _⟩ ?_
      clear m0 m1 hc0 hc1
      rintro W1 ⟨b1, c1, t1⟩
      refine (CG0.out W1 b1).mono ?_
      rintro e w2 ⟨rfl, hb⟩
      have b2 := b1.trans (hb.mono b1.size); have c2 := c1.trans (hb.mono c1.size); have T2 := Lib.hid (t1.below hb)
      have K2 := Lib.hid (HK.out.below c2)
      have G2 := Lib.hid (HG.out.below c2)
      clear hb t1 b1 c1
      cases gr
      · have HT2 : Hid (readR d who dn (at_.take (k + 1)) = pre) := Lib.hid (by rw [HT.out]; simp)
        go_wp2
        go_roundw
        case rel => exact ⟨k + 1, by omega, by go_num, ⟨xs, by rw [HT2.out]; exact G2.out⟩, b2, K2.out⟩
        case measure => simp [intOf]; omega
      have HT2 : Hid (readR d who dn (at_.take (k + 1)) = pre ++ [(a0, a1)]) := Lib.hid (by rw [HT.out]; simp)
      have m0 := T2.out.cell 0 rfl
      have m1 := T2.out.cell 1 rfl
      go_wp2_with fail
      refine (copyAttr_any a0 a1 (.slice o4 a1.length k4) w2 (HS1.out.frame (Same.of_below' c2)) HZ1.out).mono ?_
      clear m0 m1
      rintro e w3 ⟨u, rfl, q, hb⟩
      obtain ⟨p5, c5, rfl⟩ := q.at.sl
      have Q3 := Lib.hid q
      have b3 := b2.trans (hb.mono b2.size); have K3 := Lib.hid (K2.out.below hb); have D3 := Lib.hid hb
      have R3 := Lib.hid (G2.out.below hb).row
      have hs3 := hb.size; have hs2 : w.heap.size + 1 ≤ w2.heap.size := K2.out.lt
      clear hb q
      have hB3 : w.heap.size + 1 ≤ w3.heap.size := K3.out.lt
      go_wp2_with (first
        | (at_builtin; refine append_attr (w.heap.size + 1) rfl _ _ rfl _ _ xs rfl R3.out a0 p5 a1.length c5 rfl hrl.out hB3 ?_; intro g cap w5 h1 h2 h3)
        | (fail "none"))
      have HG5 : Hid (Grow attrE 83 (w.heap.size + 1) w5 (.slice (some ⟨g, 0, none⟩) (pre.length + 1) cap) (pre ++ [(a0, a1)]) (xs ++ [.string a0, .slice p5 a1.length c5])) := Lib.hid (Grow.step G2.out hs2 D3.out (attr_pack a0 a1 _ (Fresh w2 w3) ⟨Q3.out, fun _ h => h, trivial⟩) (more' (Below.refl _ _) _) h1 h2 (fun g' hg' => by
        have e : g = g' := by simpa [Value.ownBlock] using hg'
        subst e
        rcases h3 with h | h
        · exact .inl h
        · exact .inr (by omega)))
      have B5 : Below w.heap.size w w5 := (b3.alloc b3.size _).grown h2 (by simp; omega) (fun r hr => by have := (R3.out.lt r hr).1; omega)
      have K5 : Hid (Blk w5 w.heap.size [.slice o2 dn.length k2, .slice (some ⟨b, off, none⟩) at_.length k3]) := Lib.hid (by
        obtain ⟨T, ht⟩ := K3.out
        have hlt3 := K3.out.lt
        refine ⟨T, (h2.block w.heap.size (by simp; omega) (fun e => ?_)).trans ((Below.heap_alloc _ _ _ hlt3).trans ht)⟩
        have := (R3.out.lt _ e.symm).1
        omega)
      clear h1 h2 h3 R3
      go_wp2
      go_roundw
      case rel => exact ⟨k + 1, by omega, by go_num, ⟨_, by rw [HT2.out]; exact HG5.out⟩, B5, K5.out⟩
      case measure => simp [intOf]; omega
    · have e : at_.take k = at_ := List.take_of_length_le (by omega)
      have HO : Hid (SlOwn attrE (Fresh w wr) wr (readR d who dn at_) (.slice p7 n7 q7)) := Lib.hid (by have := HG.out.own; rw [e] at this; exact this.wide (fun b h => ⟨by have := h.1; omega, h.2⟩))
      clear e
      go_wp2
      go_ret
      exact ⟨_, rfl, HO.out, hbel⟩
end Go.Proofs.Ytglgkocjdockdaa
/- joinRdns: what the program's text returns. -/
namespace Go.Proofs.Ytglgkocjdockdaa
open Go.RowKit
attribute [local go_sem ↓] Go.wp_at_zero Go.wp_at_succ

set_option maxRecDepth 100000 in
set_option maxHeartbeats 2000000 in
theorem joinRdns_any (pb po pc : Nat) (ps : List (Option Addr × Nat × RdnL)) (w : World) (hp : PartsAt w pb po ps) (hm : ps.length ≤ 10) :
    Calls Try.prog 85 #[.slice (some ⟨pb, po, none⟩) ps.length pc] w fun e w' => (∃ v, e = .returned v ∧ w'.ownsRow w.heap.size 104 2 v (flat ps).length (rs (flat ps))) ∧ Below w.heap.size w w' := by
  have HP := Lib.hid hp; clear hp
  go_enter Try.func85, Try.ntmps85
  go_wp2
  go_loopw [3, 9] (fun v i wr => ∃ k : Nat, k ≤ ps.length ∧ i = .int .i64 k ∧ wr.ownsRow w.heap.size 104 2 v (flat (ps.take k)).length (rs (flat (ps.take k))) ∧ Below w.heap.size w wr) (fun _ i _ => ps.length - (intOf i).toNat)
  case atStart => exact ⟨0, Nat.zero_le _, rfl, ⟨rfl, .inl ⟨rfl, rfl⟩⟩, Below.refl _ _⟩
  case round =>
    obtain ⟨k, hk, rfl, hown, hbel⟩ := hrel
    by_cases hlt : k < ps.length
    · obtain ⟨hc0, hd, hf⟩ := HP.out.2 k hlt
      have hc := (hbel.cell (p := ⟨pb, po + k, none⟩) HP.out.1).trans hc0
      have hl := hf.1
      have HF := Lib.hid (flat_succ ps k hlt)
      have hown0 : wr.ownsRow w.heap.size 104 2 u3 (flat (ps.take k) ++ ps[k].2.2.take 0).length (rs (flat (ps.take k) ++ ps[k].2.2.take 0)) := by rw [List.take_zero, List.append_nil]; exact hown
      have HO := Lib.hid hown0; have HD := Lib.hid hd; have HFi := Lib.hid hf; have HC0 := Lib.hid hc0
      clear hown hown0 hd hf hc0
      have hpl := HP.out.len hm k
      generalize flat (ps.take k) = pre at *
      generalize ps[k].1 = ao at *
      generalize ps[k].2.1 = cp at *
      generalize ps[k].2.2 = d at *
      go_wp2_with fail
      go_loopw [3, 17] (fun v i wr => ∃ j : Nat, j ≤ d.length ∧ i = .int .i64 j ∧ wr.ownsRow w.heap.size 104 2 v (pre ++ d.take j).length (rs (pre ++ d.take j)) ∧ Below w.heap.size w wr) (fun _ i _ => d.length - (intOf i).toNat)
      case atStart => exact ⟨0, Nat.zero_le _, rfl, HO.out, hbel⟩
      case round =>
        clear hc HO hbel
        obtain ⟨j, hj, rfl, hown, hbel⟩ := hrel
        have hc := (hbel.cell (p := ⟨pb, po + k, none⟩) HP.out.1).trans HC0.out
        by_cases hjlt : j < d.length
        · obtain ⟨b, off, rfl, hb0, hd1, hd2⟩ := HD.out.at hjlt
          have hc1 := (hbel.cell (p := ⟨b, off + j * 2, none⟩) hb0).trans hd1
          have hc2 := (hbel.cell (p := ⟨b, off + j * 2 + 1, none⟩) hb0).trans hd2
          have hz := HFi.out.small hjlt
          have HN : Hid (d.take (j + 1) = d.take j ++ [d[j]]) := Lib.hid (List.take_succ_eq_append_getElem hjlt)
          clear hd1 hd2
          have HR : Hid (u3.ownBlock ≠ some wr.heap.size) := Lib.hid (fun e => by have := (hown.lt _ e).2; omega)
          have HO := Lib.hid hown
          have hpl2 : Hid ((pre ++ d.take j).length ≤ 1000000000) := Lib.hid (by rw [List.length_append, List.length_take]; omega)
          have HD2 : Hid (d[j] = (d[j].1, d[j].2)) := Lib.hid rfl
          generalize d[j].1 = A at *
          generalize d[j].2 = V at *
          go_wp2_with fail
          refine wp_world (fun W => (W.cell? ⟨wr.heap.size, 0, none⟩ = some (.string A) ∧ W.cell? ⟨wr.heap.size, 1, none⟩ = some (.string V)) ∧ W.ownsRow w.heap.size 104 2 u3 (pre ++ d.take j).length (rs (pre ++ d.take j)) ∧ Below w.heap.size w W)
            ⟨⟨by simp, by simp⟩, HO.out.alloc _, more hbel _⟩ ?_
          rintro W0 ⟨hW1, hW2, hW3⟩
          have HO2 := Lib.hid hW2
          generalize wr.heap.size = R at *
          clear hown HO hW2 hc hc1 hc2 hbel
          have hW4 : Below W0.heap.size W0 W0.drew := (Below.refl _ _).drew
          obtain ⟨hz1, hz2⟩ := hz
          go_region_held3 (fun W => W.cell? ⟨R, 0, none⟩ = some (.string A) ∧ W.cell? ⟨R, 1, none⟩ = some (.string V))
            (first | go_keep | exact keep_far hg5 HR.out (by assumption) | exact keep_two hb2 (by assumption))
            (first
              | (go_at_call 111; refine (concat_at W0 _ A _ hz1 ?_ ?_ ?_).mono ?_; (focus (first | (simp; done) | (simp; omega) | (exact Nat.lt_of_lt_of_le (by first | (simp; done) | (simp; omega)) hb2.size))); (focus (first | (simp; done) | (rw [bc _ _ (by first | (simp; done) | (simp; omega))]; simp; done))); (focus (first | assumption | exact more (by assumption) _ | exact (more (Below.refl _ _) _).drew | exact (more (more (Below.refl _ _) _) _).drew)); rintro e w2 ⟨rfl, hq2, hb2⟩; obtain ⟨bc, bf⟩ := bcell hb2)
              | (go_at_call 111; refine (concat_at W0 _ V _ hz2 ?_ ?_ ?_).mono ?_; (focus (first | (simp; done) | (simp; omega) | (exact Nat.lt_of_lt_of_le (by first | (simp; done) | (simp; omega)) hb2.size))); (focus (first | (simp; done) | (rw [bc _ _ (by first | (simp; done) | (simp; omega))]; simp; done))); (focus (first | assumption | exact more (by assumption) _ | exact (more (Below.refl _ _) _).drew | exact (more (more (Below.refl _ _) _) _).drew)); rintro e w2 ⟨rfl, hq2, hb2⟩; obtain ⟨bc, bf⟩ := bcell hb2)
              | (refine step_rdn2 w.heap.size (by rfl) _ _ (by rfl) _ (pre ++ d.take j) (by rfl) (own_below HO2.out hq2) _ _ (by rfl) hpl2.out (Nat.le_trans hW3.size hq2.size) (hW3.trans (hq2.mono hW3.size)) ?_; intro g cp5 w5 hown5 hbel5 hg5)
              | (fail "none"))
          all_goals
            rw [show (pre ++ d.take j).length + 1 = pre.length + j + 1 by rw [List.length_append, List.length_take]; omega] at hown5
            have HO5 := Lib.hid hown5
            clear hown5 bc bf
            go_wp2
            go_roundw
            case rel => exact ⟨j + 1, by omega, by go_num, by rw [HN.out, HD2.out, ← List.append_assoc]; exact HO5.out, hbel5⟩
            case measure => simp [intOf]; omega
        · have e : d.take j = d := List.take_of_length_le (by omega)
          rw [e] at hown
          have HO := Lib.hid hown
          clear hown e
          go_wp2
          go_roundw
          case rel => exact ⟨k + 1, by omega, by go_num, by rw [HF.out]; exact HO.out, hbel⟩
          case measure => simp [intOf]; omega
    · have e : ps.take k = ps := List.take_of_length_le (by omega)
      rw [e] at hown
      have HO := Lib.hid hown
      clear hown e
      go_wp2
      go_ret
      exact ⟨⟨_, rfl, HO.out⟩, hbel⟩
end Go.Proofs.Ytglgkocjdockdaa
/- EntryRight: what the program returns. -/
namespace Go.Proofs.Ytglgkocjdockdaa
open Go.RowKit
attribute [local go_sem ↓] Go.wp_at_zero Go.wp_at_succ

set_option maxHeartbeats 1000000 in
theorem compareNames_any (w0 : World) (A B u v : Value) (a b : ByteArray) (hA : A = .agg #[.string a, u]) (hB : B = .agg #[.string b, v]) (x y : AttrV) (hx : x.1 = a) (hy : y.1 = b) (w : World) (hu : ∃ o n c, u = .slice o n c) (hv : ∃ o n c, v = .slice o n c) (hBel : Below w0.heap.size w0 w) :
    Calls Try.prog 150 #[A, B] w fun e w' => (∃ c : Int, e = .returned (.int .i64 c) ∧ decide (0 ≤ c) = !(nameLt x y)) ∧ Below w0.heap.size w0 w' := by
  subst hA hB
  obtain ⟨uo, un, uc, rfl⟩ := hu
  obtain ⟨vo, vn, vc, rfl⟩ := hv
  have HC : Hid (decide (0 ≤ Lib.compareBytes a.data.toList b.data.toList) = !(nameLt x y)) := Lib.hid (by rw [compare_less]; unfold nameLt; rw [hx, hy, Lib.toList_data, Lib.toList_data])
  have HB := Lib.hid hBel; clear hBel hx hy
  go_enter Try.func150, Try.ntmps150
  go_wp2_with (first
    | (go_at_call 114; refine (Try.strings_Compare _ _ _).mono ?_; rintro e w3 ⟨rfl, rfl⟩)
    | (fail "none"))
  go_ret
  exact ⟨⟨_, rfl, HC.out⟩, more (more HB.out _) _⟩
set_option maxRecDepth 100000 in
set_option maxHeartbeats 1000000 in
theorem incAttr_any (ao : Option Addr) (l : List AttrV) (cap : Nat) (w : World) (hd : AttrsAt w ao l) (hl : l.length ≤ 1048576) :
    Calls Try.prog 149 #[.slice ao l.length cap, .func (.func 150) #[] #[]] w fun e w' => e = .returned (.bool (incB nameLt l)) ∧ Below w.heap.size w w' := by
  have HD := Lib.hid hd; clear hd
  go_enter Try.func149, Try.ntmps149
  go_wp2
  go_loopw [5] (fun i wr => ∃ m : Nat, m ≤ l.length ∧ i = .int .i64 ((m : Int) + 1) ∧ (∀ j (h : j + 1 < l.length), j < m → nameLt l[j] l[j + 1] = true) ∧ Below w.heap.size w wr) (fun i _ => l.length + 1 - (intOf i).toNat)
  case atStart => exact ⟨0, Nat.zero_le _, rfl, fun j _ h => absurd h (Nat.not_lt_zero _), Below.refl _ _⟩
  case round =>
    obtain ⟨m, hm, rfl, ha, hbel⟩ := hrel
    have Ha := Lib.hid ha; clear ha
    have hsz := hbel.size
    by_cases hlt : m + 1 < l.length
    · have hm0 : m < l.length := by omega
      obtain ⟨b, off, uo, uc, rfl, hw0, hd1, hd2, _⟩ := HD.out.at hm0
      obtain ⟨b', off', vo, vc, e, _, hd3, hd4, _⟩ := HD.out.at hlt
      cases e
      have g1 : (m : Int) + 1 < (l.length : Int) := by omega
      have g2 : (0 : Int) ≤ (m : Int) := by omega
      have g3 : (m : Int) < (l.length : Int) := by omega
      have g4 : (0 : Int) ≤ (m : Int) + 1 := by omega
      have HN : Hid (∀ j (h : j + 1 < l.length), j < m + 1 → nameLt l[m] l[m + 1] = true → nameLt l[j] l[j + 1] = true) := Lib.hid (fun j h hj hn => by
        by_cases e : j = m
        · subst e; exact hn
        · exact Ha.out j h (by omega))
      have HX : Hid (nameLt l[m] l[m + 1] = false → incB nameLt l = false) := Lib.hid (fun h => incB_no hlt h)
      generalize hx : l[m] = X at *
      generalize hy : l[m + 1] = Y at *
      clear hx hy
      obtain ⟨xa, xv⟩ := X
      obtain ⟨ya, yv⟩ := Y
      have SK : Hid (∀ W : World, Below w.heap.size w W → (Below w.heap.size w W ∧ W.cell? ⟨b, off + m * 2, none⟩ = some (.string xa) ∧ W.cell? ⟨b, off + m * 2 + 1, none⟩ = some (.slice uo xv.length uc) ∧ W.cell? ⟨b, off + (m + 1) * 2, none⟩ = some (.string ya) ∧ W.cell? ⟨b, off + (m + 1) * 2 + 1, none⟩ = some (.slice vo yv.length vc))) :=
        Lib.hid (fun W h => ⟨h, (h.cell (p := ⟨b, _, none⟩) hw0).trans hd1, (h.cell (p := ⟨b, _, none⟩) hw0).trans hd2, (h.cell (p := ⟨b, _, none⟩) hw0).trans hd3, (h.cell (p := ⟨b, _, none⟩) hw0).trans hd4⟩)
      have hbd := hbel.drew
      have hwr : IntKind.i64.wrap (m : Int) = (m : Int) := IntWalk.i64_in _ (by omega)
      have hwr2 : IntKind.i64.wrap ((m : Int) + 1 - 1) = (m : Int) := by rw [Int.add_sub_cancel]; exact hwr
      clear hd1 hd2 hd3 hd4
      cases hn : nameLt (xa, xv) (ya, yv)
      · have HX' := Lib.hid (HX.out hn)
        go_wp2_with fail
        go_region_held3 (fun W => Below w.heap.size w W ∧ W.cell? ⟨b, off + m * 2, none⟩ = some (.string xa) ∧ W.cell? ⟨b, off + m * 2 + 1, none⟩ = some (.slice uo xv.length uc) ∧ W.cell? ⟨b, off + (m + 1) * 2, none⟩ = some (.string ya) ∧ W.cell? ⟨b, off + (m + 1) * 2 + 1, none⟩ = some (.slice vo yv.length vc))
          (exact SK.out _ (by assumption))
          (first | (go_at_call 150; refine (compareNames_any w _ _ _ _ xa ya rfl rfl (xa, xv) (ya, yv) rfl rfl _ ⟨_, _, _, rfl⟩ ⟨_, _, _, rfl⟩ (by assumption)).mono ?_; rintro e w1 ⟨⟨c, rfl, hc⟩, hb1⟩; rw [hn] at hc; have hc0 : 0 ≤ c := (by simpa using hc); clear hc) | (fail "none"))
        all_goals
          go_wp2
          go_ret
          exact ⟨ret_bool (by rw [HX'.out]), hb1⟩
      · go_wp2_with fail
        go_region_held3 (fun W => Below w.heap.size w W ∧ W.cell? ⟨b, off + m * 2, none⟩ = some (.string xa) ∧ W.cell? ⟨b, off + m * 2 + 1, none⟩ = some (.slice uo xv.length uc) ∧ W.cell? ⟨b, off + (m + 1) * 2, none⟩ = some (.string ya) ∧ W.cell? ⟨b, off + (m + 1) * 2 + 1, none⟩ = some (.slice vo yv.length vc))
          (exact SK.out _ (by assumption))
          (first | (go_at_call 150; refine (compareNames_any w _ _ _ _ xa ya rfl rfl (xa, xv) (ya, yv) rfl rfl _ ⟨_, _, _, rfl⟩ ⟨_, _, _, rfl⟩ (by assumption)).mono ?_; rintro e w1 ⟨⟨c, rfl, hc⟩, hb1⟩; rw [hn] at hc; have hc0 : ¬ 0 ≤ c := (by simpa using hc); clear hc) | (fail "none"))
        all_goals
          go_wp2
          go_roundw
          case rel => exact ⟨m + 1, by omega, by go_num, fun j h hj => HN.out j h hj hn, hb1⟩
          case measure => simp [intOf]; omega
    · have HT : Hid (incB nameLt l = true) := Lib.hid (incB_yes fun j h => Ha.out j h (by omega))
      have g1 : ¬ (m : Int) + 1 < (l.length : Int) := by omega
      go_wp2
      go_ret
      exact ⟨ret_bool (by rw [HT.out]), hbel⟩
theorem attrsB_long {l : List AttrV} (h : 8 < l.length) : attrsB l = false := by unfold attrsB; simp [show ¬ l.length ≤ 8 by omega]
theorem attrsB_short {l : List AttrV} (h : l.length ≤ 8) : attrsB l = (l.all attrB && incB nameLt l) := by unfold attrsB; simp [h]
theorem FitsA.max {l : List AttrV} (h : FitsA l) {k : Nat} (hk : k < l.length) : l[k].1.size ≤ maxLen := by have := (h.at hk).1; unfold maxLen; omega
set_option maxRecDepth 100000 in
set_option maxHeartbeats 1000000 in
theorem attrsRight_any (ao : Option Addr) (l : List AttrV) (cap : Nat) (w : World) (hd : AttrsAt w ao l) (hf : FitsA l) :
    Calls Try.prog 125 #[.slice ao l.length cap] w fun e w' => e = .returned (.bool (attrsB l)) ∧ Below w.heap.size w w' := by
  have hl := hf.1
  have HD := Lib.hid hd; have HF := Lib.hid hf; clear hd hf
  by_cases h8 : 8 < l.length
  · have HV := Lib.hid (attrsB_long h8)
    have g8 : 8 < (l.length : Int) := by omega
    go_enter Try.func125, Try.ntmps125
    go_wp2
    go_ret
    exact ⟨ret_bool HV.out.symm, Below.refl _ _⟩
  · have HV := Lib.hid (attrsB_short (l := l) (by omega))
    have g8 : ¬ 8 < (l.length : Int) := by omega
    go_enter Try.func125, Try.ntmps125
    go_wp2
    go_loopw [10] (fun i wr => ∃ k : Nat, k ≤ l.length ∧ i = .int .i64 k ∧ (l.take k).all attrB = true ∧ Below w.heap.size w wr) (fun i _ => l.length - (intOf i).toNat)
    case atStart => exact ⟨0, Nat.zero_le _, rfl, rfl, Below.refl _ _⟩
    case round =>
      obtain ⟨k, hk, rfl, ha, hbel⟩ := hrel
      have Ha := Lib.hid ha; clear ha
      have hsz := hbel.size
      by_cases hlt : k < l.length
      · obtain ⟨b, off, vo, vc, rfl, hb0, hc1, hc2, hv⟩ := (HD.out.below hbel).at hlt
        have HVv := Lib.hid hv.1; clear hv
        have hz := HF.out.max hlt
        have HZ := Lib.hid (HF.out.at hlt).2
        generalize hr : attrB l[k] = r at *
        have HR := Lib.hid hr
        have HE : Hid (attrB (l[k].1, l[k].2) = r) := Lib.hid hr
        have HT : Hid (r = true → (l.take (k + 1)).all attrB = true) := Lib.hid (fun h => by rw [all_take attrB l k hlt, Ha.out, hr, h]; rfl)
        have HX : Hid (r = false → l.all attrB = false) := Lib.hid (fun h => all_bad attrB l k hlt (hr.trans h))
        clear hr HR
        generalize l[k].1 = A at *
        generalize l[k].2 = V at *
        cases r
        · have HX' := Lib.hid (HX.out rfl)
          go_wp2_with fail
          have hb1 := more hbel (.cells #[.string A, .slice vo V.length vc] 83)
          refine (attrRight_any A vo V vc _ hz (HVv.out.below (more (Below.refl _ _) _)) HZ.out).mono ?_
          rintro e w2 ⟨rfl, hb2⟩
          have B2 := Lib.hid (hb1.trans (hb2.mono hb1.size))
          rw [HE.out]
          clear hb1 hb2
          go_wp2
          go_ret
          exact ⟨ret_bool (by rw [HV.out, HX'.out]; rfl), B2.out⟩
        · have HT' := Lib.hid (HT.out rfl)
          go_wp2_with fail
          have hb1 := more hbel (.cells #[.string A, .slice vo V.length vc] 83)
          refine (attrRight_any A vo V vc _ hz (HVv.out.below (more (Below.refl _ _) _)) HZ.out).mono ?_
          rintro e w2 ⟨rfl, hb2⟩
          have B2 := Lib.hid (hb1.trans (hb2.mono hb1.size))
          rw [HE.out]
          clear hb1 hb2
          go_wp2
          go_roundw
          case rel => exact ⟨k + 1, by omega, by go_num, HT'.out, B2.out⟩
          case measure => simp [intOf]; omega
      · have e : l.take k = l := List.take_of_length_le (by omega)
        have HT : Hid (l.all attrB = true) := Lib.hid (by rw [← e]; exact Ha.out)
        clear e
        go_wp2_with fail
        refine (incAttr_any ao l cap wr (HD.out.below hbel) hl).mono ?_
        rintro e w2 ⟨rfl, hb2⟩
        have B2 := Lib.hid (hbel.trans (hb2.mono hsz))
        clear hb2
        go_wp2
        go_ret
        exact ⟨ret_bool (by rw [HV.out, HT.out]; simp), B2.out⟩
theorem rightB_eq (d : RdnL) (l : List AttrV) : rightB d l = (dnB d && decide (0 < d.length) && attrsB l) := rfl
set_option maxRecDepth 100000 in
set_option maxHeartbeats 1000000 in
theorem EntryRight_any (ao bo : Option Addr) (d : RdnL) (l : List AttrV) (ca cb : Nat) (w : World) (hd : DnAt w ao d) (hl : AttrsAt w bo l) (hfd : Fits d) (hfl : FitsA l) :
    Calls Try.prog 83 #[.agg #[.slice ao d.length ca, .slice bo l.length cb]] w fun e w' => e = .returned (.bool (rightB d l)) ∧ Below w.heap.size w w' := by
  have hdl := hfd.1
  have HD := Lib.hid hd; have HL := Lib.hid hl; have FD := Lib.hid hfd; have FL := Lib.hid hfl; clear hd hl hfd hfl
  have HB0 : Hid (Below w.heap.size w (w.alloc (.cells #[.slice ao d.length ca, .slice bo l.length cb] 42))) := Lib.hid (more (Below.refl _ _) _)
  have HE := Lib.hid (rightB_eq d l)
  go_enter Try.func83, Try.ntmps83
  go_wp2_with fail
  refine (DnRight_any ao d ca _ (HD.out.below HB0.out) FD.out).mono ?_
  rintro e w1 ⟨rfl, hb1⟩
  have B1 := Lib.hid (HB0.out.trans (hb1.mono HB0.out.size))
  have c0 : w1.cell? ⟨w.heap.size, 0, none⟩ = some (.slice ao d.length ca) := (hb1.cell (p := ⟨w.heap.size, 0, none⟩) (by simp)).trans (by unfold World.cell?; rw [heap_alloc_new]; rfl)
  have c1 : w1.cell? ⟨w.heap.size, 1, none⟩ = some (.slice bo l.length cb) := (hb1.cell (p := ⟨w.heap.size, 1, none⟩) (by simp)).trans (by unfold World.cell?; rw [heap_alloc_new]; rfl)
  clear hb1
  cases hr : dnB d
  · rw [hr] at HE
    go_wp2
    go_ret
    exact ⟨ret_bool (by rw [HE.out]; rfl), B1.out⟩
  · rw [hr] at HE
    by_cases h0 : 0 < d.length
    · have g0 : (0 : Int) < (d.length : Int) := by omega
      go_wp2_with fail
      refine (attrsRight_any bo l cb w1 (HL.out.below B1.out) FL.out).mono ?_
      rintro e w2 ⟨rfl, hb2⟩
      have B2 := Lib.hid (B1.out.trans (hb2.mono B1.out.size))
      clear hb2
      go_wp2
      go_ret
      exact ⟨ret_bool (by rw [HE.out]; simp [h0]), B2.out⟩
    · have g0 : ¬ (0 : Int) < (d.length : Int) := by omega
      go_wp2
      go_ret
      exact ⟨ret_bool (by rw [HE.out]; simp [h0]), B1.out⟩
end Go.Proofs.Ytglgkocjdockdaa
/- ViewOf: what the program returns. -/
namespace Go.Proofs.Ytglgkocjdockdaa
open Go.RowKit
attribute [local go_sem ↓] Go.wp_at_zero Go.wp_at_succ

theorem own_rdns {T : TypeId} {B : Nat} {w : World} {v : Value} {l : RdnL} (h : w.ownsRow B T 2 v l.length (rs l)) : SlOwn rdnE (fun b => B ≤ b ∧ b < w.heap.size) w l v :=
  Grow.own (e := rdnE) (T := T) (xs := rs l) ⟨h, fun _ => Nil, fun i _ => ⟨fun b x => x.elim, fun _ _ x => x⟩, fun _ _ _ _ _ _ x => x.elim, fun i hi => ⟨[.string l[i].1, .string l[i].2], fun j hj => by
    obtain ⟨g0, g1⟩ := rs_get l i hi
    match j, hj with
    | 0, _ => exact g0
    | 1, _ => exact g1, rdn_pack (S := Nil) (w := w) l[i].1 l[i].2 trivial⟩⟩
theorem own_nilS {α : Type} (e : Enc α) (S : Bs) (w : World) : SlOwn e S w [] (.slice none 0 0) := ⟨none, 0, rfl, Nat.le_refl _, fun _ => rfl, .inl rfl⟩
noncomputable def viewR (l : List RuleT) (who : ByteArray) (dn : RdnL) (at_ : List AttrT) : (RdnL × List AttrT) × Int :=
  if 400 < l.length ∨ 8000 < who.size then (([], []), 2) else if (aclB l && (rightB dn at_ && nmL who)) = false then (([], []), 1) else if grantB l who dn ⟨#[]⟩ 1 = false then (([], []), 11) else ((dn, readR l who dn at_), 0)
/-- a view is returned -/
def GivesView (w : World) (R : (RdnL × List AttrT) × Int) (e : Ending) (w' : World) : Prop := ∃ u0 u1, e = .returned (.agg #[u0, u1, .int .i64 R.2]) ∧ entryOutE.Own (Fresh w w') w' R [u0, u1, .int .i64 R.2] ∧ Below w.heap.size w w'
theorem gives_ill (w w' : World) (c : Int) (hb : Below w.heap.size w w') : GivesView w (([], []), c) (.returned (.agg #[.slice none 0 0, .slice none 0 0, .int .i64 c])) w' :=
  ⟨_, _, rfl, entryOut_pack [] [] c _ _ Nil Nil ⟨own_nilS _ _ _, fun _ h => h.elim, own_nilS _ _ _, fun _ h => h.elim, fun _ h => h.elim, trivial⟩, hb⟩
set_option maxRecDepth 100000 in
set_option maxHeartbeats 4000000 in
theorem ViewOf_any {S S1 S2 : Bs} (v : Value) (d : List RuleT) (who : ByteArray) (dn : RdnL) (at_ : List AttrT) (dv av : Value) (w : World) (hL : SlAt ruleE S w d v) (hd : SlAt rdnE S1 w dn dv) (ha : SlAt attrE S2 w at_ av)
    (hz : d.length + szL ruleE d ≤ 1048576) (hze : entryE.sz (dn, at_) ≤ 1048576) (hw : who.size ≤ 1048576) :
    Calls Try.prog 25 #[v, .string who, .agg #[dv, av]] w (GivesView w (viewR d who dn at_)) := by
  have HE : entryE.sz (dn, at_) = (dn.length + szL rdnE dn) + (at_.length + szL attrE at_) := rfl
  have hze0 := hze
  rw [HE] at hze
  have CL : Hid (∀ W : World, Below w.heap.size w W → Calls Try.prog 15 #[v] W fun e w' => e = .returned (.bool (aclB d)) ∧ Below W.heap.size W w') := Lib.hid (fun W b => AclRight_any v d W (hL.frame (Same.of_below' b)) hz)
  have CN : Hid (∀ W : World, Calls Try.prog 84 #[.string who] W fun e w' => e = .returned (.bool (nmL who)) ∧ W = w') := Lib.hid (fun W => NameRight_any who W (by unfold maxLen; omega))
  have CG : Hid (∀ (W : World), Below w.heap.size w W → Calls Try.prog 76 #[v, .agg #[.string who, dv, .string ⟨#[]⟩, .int .i64 1]] W fun e w' => e = .returned (.bool (grantB d who dn ⟨#[]⟩ 1)) ∧ Below W.heap.size W w') := Lib.hid (fun W b => grants_any v d who dn dv ⟨#[]⟩ 1 W (hL.frame (Same.of_below' b)) (hd.frame (Same.of_below' b)) hz (by omega))
  have CR : Hid (∀ W : World, Below w.heap.size w W → Calls Try.prog 86 #[v, .string who, .agg #[dv, av]] W fun e w' => ∃ u, e = .returned u ∧ SlOwn attrE (Fresh W w') w' (readR d who dn at_) u ∧ Below W.heap.size W w') := Lib.hid (fun W b => readable_any v d who dn at_ dv av W (hL.frame (Same.of_below' b)) (hd.frame (Same.of_below' b)) (ha.frame (Same.of_below' b)) hz hze0)
  obtain ⟨o1, k1, rfl⟩ := hL.sl
  have hd0 := hd; have ha0 := ha
  obtain ⟨o2, k2, rfl⟩ := hd.sl
  obtain ⟨o3, k3, rfl⟩ := ha.sl
  have CE : Hid (∀ W : World, Below w.heap.size w W → Calls Try.prog 83 #[.agg #[.slice o2 dn.length k2, .slice o3 at_.length k3]] W fun e w' => e = .returned (.bool (rightB dn at_)) ∧ Below W.heap.size W w') := Lib.hid (fun W b => EntryRight_any o2 o3 dn at_ k2 k3 W ((dn_of hd0).below b) ((attrs_of ha0).below b) (fits_dn (by omega)) (fits_attrs (by omega)))
  have CJ : Hid (∀ (W : World) (T : TypeId), Below w.heap.size w W → Calls Try.prog 85 #[.slice (some ⟨W.heap.size, 0, none⟩) 1 1] (W.alloc (.cells #[.slice o2 dn.length k2] T)) fun e w' => ∃ u, e = .returned u ∧ SlOwn rdnE (Fresh W w') w' dn u ∧ Below W.heap.size W w') := Lib.hid (fun W T b => by
    have FD := fits_dn (l := dn) (by omega)
    have := joinRdns_any W.heap.size 0 1 [(o2, k2, dn)] (W.alloc (.cells #[.slice o2 dn.length k2] T)) ⟨by simp, fun i hi => by
      match i, hi with
      | 0, _ => exact ⟨by simp, ((dn_of hd0).below b).below (more' (Below.refl _ _) _), FD⟩⟩ (by simp)
    have e : flat [(o2, k2, dn)] = dn := by simp [flat]
    rw [e] at this
    exact this.mono fun e w' ⟨⟨v, he, ho⟩, hb⟩ => ⟨v, he, (own_rdns ho).wide (fun k h => ⟨by have h1 : (W.alloc (.cells #[.slice o2 dn.length k2] T)).heap.size ≤ k := h.1; have h2 : (W.alloc (.cells #[.slice o2 dn.length k2] T)).heap.size = W.heap.size + 1 := World.size_alloc W _; omega, h.2⟩), (more' (Below.refl _ _) _).trans (hb.mono (by simp))⟩)
  have hdl : d.length ≤ 1048576 := by omega
  have HV1 : Hid ((400 < d.length ∨ 8000 < who.size) → viewR d who dn at_ = (([], []), 2)) := Lib.hid (fun h => by unfold viewR; rw [if_pos h])
  have HV2 : Hid (¬ (400 < d.length ∨ 8000 < who.size) → (aclB d && (rightB dn at_ && nmL who)) = false → viewR d who dn at_ = (([], []), 1)) := Lib.hid (fun h h2 => by unfold viewR; rw [if_neg h, if_pos h2])
  have HV3 : Hid (¬ (400 < d.length ∨ 8000 < who.size) → (aclB d && (rightB dn at_ && nmL who)) = true → grantB d who dn ⟨#[]⟩ 1 = false → viewR d who dn at_ = (([], []), 11)) := Lib.hid (fun h h2 h3 => by unfold viewR; rw [if_neg h, if_neg (by rw [h2]; simp), if_pos h3])
  have HV4 : Hid (¬ (400 < d.length ∨ 8000 < who.size) → (aclB d && (rightB dn at_ && nmL who)) = true → grantB d who dn ⟨#[]⟩ 1 = true → viewR d who dn at_ = ((dn, readR d who dn at_), 0)) := Lib.hid (fun h h2 h3 => by unfold viewR; rw [if_neg h, if_neg (by rw [h2]; simp), if_neg (by rw [h3]; simp)])
  clear hL hd hd0 ha ha0 hz hze hze0 HE
  generalize viewR d who dn at_ = R at *
  generalize aclB d = n1 at *
  generalize rightB dn at_ = n2 at *
  generalize nmL who = n3 at *
  generalize grantB d who dn ⟨#[]⟩ 1 = n4 at *
  generalize readR d who dn at_ = rd at *
  by_cases c1 : 400 < d.length
  · have HR := Lib.hid (HV1.out (.inl c1))
    have c1' : (400 : Int) < (d.length : Int) := by omega
    go_enter Try.func25, Try.ntmps25
    go_wp2
    refine bodyPost_ret (v := .agg #[.slice none 0 0, .slice none 0 0, .int .i64 2]) (by simp [results, Try.results25, go_sem]) rfl ?_
    rw [HR.out]
    exact gives_ill w _ 2 (more' (more' (Below.refl _ _) _) _)
  have c1' : ¬ (400 : Int) < (d.length : Int) := by omega
  by_cases c2 : 8000 < who.size
  · have HR := Lib.hid (HV1.out (.inr c2))
    have c2' : (8000 : Int) < (who.size : Int) := by omega
    go_enter Try.func25, Try.ntmps25
    go_wp2
    refine bodyPost_ret (v := .agg #[.slice none 0 0, .slice none 0 0, .int .i64 2]) (by simp [results, Try.results25, go_sem]) rfl ?_
    rw [HR.out]
    exact gives_ill w _ 2 (more' (more' (Below.refl _ _) _) _)
  have c2' : ¬ (8000 : Int) < (who.size : Int) := by omega
  have hsz : ¬ (400 < d.length ∨ 8000 < who.size) := by omega
  have HV2' := Lib.hid (HV2.out hsz); have HV3' := Lib.hid (HV3.out hsz); have HV4' := Lib.hid (HV4.out hsz)
  clear HV1 HV2 HV3 HV4 hsz c1 c2
  go_enter Try.func25, Try.ntmps25
  go_wp2_with fail
  refine calls_by (fun W => Below w.heap.size w W ∧ Blk W w.heap.size [.slice o2 dn.length k2, .slice o3 at_.length k3] ∧ Blk W (w.heap.size + 1) [.slice none 0 0, .slice none 0 0, .int .i64 0]) ⟨more' (more' (Below.refl _ _) _) _, (Blk.new _ _ _).alloc _, blk_at _ _ _ (by simp)⟩ ?_
  rintro W1 ⟨b1, t1, r1⟩
  refine (CL.out W1 b1).mono ?_
  rintro e w2 ⟨rfl, hb⟩
  have b2 := b1.trans (hb.mono b1.size); have T2 := Lib.hid (t1.below hb); have R2 := Lib.hid (r1.below hb)
  clear hb t1 r1 b1
  cases n1
  · have HR := Lib.hid (HV2'.out (by rfl))
    have TE := ((R2.out.set 0 (.slice none 0 0)).set 1 (.slice none 0 0)).set 2 (.int .i64 1)
    have j0 := TE.cell 0 rfl
    have j1 := TE.cell 1 rfl
    have j2 := TE.cell 2 rfl
    have x0 := R2.out.cell 0 rfl
    have x1 := R2.out.cell 1 rfl
    have x2 := R2.out.cell 2 rfl
    have f0 := R2.out.soft 0
    have f1 := R2.out.soft 1
    have f2 := R2.out.soft 2
    clear TE
    go_wp2
    refine bodyPost_ret (v := .agg #[.slice none 0 0, .slice none 0 0, .int .i64 1]) (by simp [results, Try.results25, go_sem, j0, j1, j2]) rfl ?_
    rw [HR.out]
    exact gives_ill w _ 1 (((b2.setCell (p := ⟨w.heap.size + 1, 0, none⟩) (by show w.heap.size ≤ w.heap.size + 1; omega) _).setCell (p := ⟨w.heap.size + 1, 1, none⟩) (by show w.heap.size ≤ w.heap.size + 1; omega) _).setCell (p := ⟨w.heap.size + 1, 2, none⟩) (by show w.heap.size ≤ w.heap.size + 1; omega) _)
  have m0 := T2.out.cell 0 rfl
  have m1 := T2.out.cell 1 rfl
  go_wp2_with fail
  refine (CE.out w2 b2).mono ?_
  rintro e w3 ⟨rfl, hb⟩
  have b3 := b2.trans (hb.mono b2.size); have T3 := Lib.hid (T2.out.below hb); have R3 := Lib.hid (R2.out.below hb)
  clear hb T2 R2 b2 m0 m1
  cases n2
  · have HR := Lib.hid (HV2'.out (by rfl))
    have TE := ((R3.out.set 0 (.slice none 0 0)).set 1 (.slice none 0 0)).set 2 (.int .i64 1)
    have j0 := TE.cell 0 rfl
    have j1 := TE.cell 1 rfl
    have j2 := TE.cell 2 rfl
    have x0 := R3.out.cell 0 rfl
    have x1 := R3.out.cell 1 rfl
    have x2 := R3.out.cell 2 rfl
    have f0 := R3.out.soft 0
    have f1 := R3.out.soft 1
    have f2 := R3.out.soft 2
    clear TE
    go_wp2
    refine bodyPost_ret (v := .agg #[.slice none 0 0, .slice none 0 0, .int .i64 1]) (by simp [results, Try.results25, go_sem, j0, j1, j2]) rfl ?_
    rw [HR.out]
    exact gives_ill w _ 1 (((b3.setCell (p := ⟨w.heap.size + 1, 0, none⟩) (by show w.heap.size ≤ w.heap.size + 1; omega) _).setCell (p := ⟨w.heap.size + 1, 1, none⟩) (by show w.heap.size ≤ w.heap.size + 1; omega) _).setCell (p := ⟨w.heap.size + 1, 2, none⟩) (by show w.heap.size ≤ w.heap.size + 1; omega) _)
  go_wp2_with fail
  refine (CN.out w3).mono ?_
  rintro e w4 ⟨rfl, rfl⟩
  cases n3
  · have HR := Lib.hid (HV2'.out (by rfl))
    have TE := ((R3.out.set 0 (.slice none 0 0)).set 1 (.slice none 0 0)).set 2 (.int .i64 1)
    have j0 := TE.cell 0 rfl
    have j1 := TE.cell 1 rfl
    have j2 := TE.cell 2 rfl
    have x0 := R3.out.cell 0 rfl
    have x1 := R3.out.cell 1 rfl
    have x2 := R3.out.cell 2 rfl
    have f0 := R3.out.soft 0
    have f1 := R3.out.soft 1
    have f2 := R3.out.soft 2
    clear TE
    go_wp2
    refine bodyPost_ret (v := .agg #[.slice none 0 0, .slice none 0 0, .int .i64 1]) (by simp [results, Try.results25, go_sem, j0, j1, j2]) rfl ?_
    rw [HR.out]
    exact gives_ill w _ 1 (((b3.setCell (p := ⟨w.heap.size + 1, 0, none⟩) (by show w.heap.size ≤ w.heap.size + 1; omega) _).setCell (p := ⟨w.heap.size + 1, 1, none⟩) (by show w.heap.size ≤ w.heap.size + 1; omega) _).setCell (p := ⟨w.heap.size + 1, 2, none⟩) (by show w.heap.size ≤ w.heap.size + 1; omega) _)
  have m0 := T3.out.cell 0 rfl
  have m1 := T3.out.cell 1 rfl
  go_wp2_with fail
  refine (CG.out w3 b3).mono ?_
  rintro e w4 ⟨rfl, hb⟩
  have b4 := b3.trans (hb.mono b3.size); have T4 := Lib.hid (T3.out.below hb); have R4 := Lib.hid (R3.out.below hb)
  clear hb T3 R3 b3 m0 m1
  cases n4
  · have HR := Lib.hid (HV3'.out (by rfl) (by rfl))
    have TE := ((R4.out.set 0 (.slice none 0 0)).set 1 (.slice none 0 0)).set 2 (.int .i64 11)
    have j0 := TE.cell 0 rfl
    have j1 := TE.cell 1 rfl
    have j2 := TE.cell 2 rfl
    have x0 := R4.out.cell 0 rfl
    have x1 := R4.out.cell 1 rfl
    have x2 := R4.out.cell 2 rfl
    have f0 := R4.out.soft 0
    have f1 := R4.out.soft 1
    have f2 := R4.out.soft 2
    clear TE
    go_wp2
    refine bodyPost_ret (v := .agg #[.slice none 0 0, .slice none 0 0, .int .i64 11]) (by simp [results, Try.results25, go_sem, j0, j1, j2]) rfl ?_
    rw [HR.out]
    exact gives_ill w _ 11 (((b4.setCell (p := ⟨w.heap.size + 1, 0, none⟩) (by show w.heap.size ≤ w.heap.size + 1; omega) _).setCell (p := ⟨w.heap.size + 1, 1, none⟩) (by show w.heap.size ≤ w.heap.size + 1; omega) _).setCell (p := ⟨w.heap.size + 1, 2, none⟩) (by show w.heap.size ≤ w.heap.size + 1; omega) _)
  have HR := Lib.hid (HV4'.out (by rfl) (by rfl))
  clear HV2' HV3' HV4'
  go_wp2
  have SK : Hid (∀ Z' : World, Below w4.heap.size w4 Z' → Z'.cell? ⟨w.heap.size, 0, none⟩ = some (.slice o2 dn.length k2) ∧ Z'.cell? ⟨w.heap.size, 1, none⟩ = some (.slice o3 at_.length k3)) := Lib.hid (fun Z' h => ⟨(T4.out.below h).cell 0 rfl, (T4.out.below h).cell 1 rfl⟩)
  have BD : Below w4.heap.size w4 w4.drew := (Below.refl _ _).drew
  have BA : Below w4.heap.size w4 (w4.drew.alloc (.cells #[.slice o2 dn.length k2] 32)) := more' BD _
  have hn4 : w.heap.size + 1 < w4.heap.size := R4.out.lt
  refine wp_region_held_drew (S := (fun Z' => Z'.cell? ⟨w.heap.size, 0, none⟩ = some (.slice o2 dn.length k2) ∧ Z'.cell? ⟨w.heap.size, 1, none⟩ = some (.slice o3 at_.length k3))) (by kernel_rfl) ?_ (fun hHeld => ?_)
  · (try dsimp only)
    first | exact SK.out _ (by assumption) | exact SK.out _ BD | exact SK.out _ BA | exact SX.out _ _ _
  refine wpAnyH_take (i := 0) (oi := { dst := some 38, op := Op.fieldAddr 42 (Operand.tmp 5) 0, type := 0, pos := "l06_acl.go:133", after := #[], guard := none }) (v := ?_) rfl (by kernel_rfl) (by kernel_rfl) (by kernel_rfl) (fun _ _ _ h => h) (Or.inl ⟨by rfl, ?_⟩) (by assumption) ?_
  rotate_left
  · intro w hSw; (try dsimp only at hSw); go_simp; (try with_reducible rfl)
  (try simp only [Act.put, List.setIfInBounds_toArray, List.set_cons_zero, List.set_cons_succ])
  refine wpAnyH_take (i := 1) (oi := { dst := some 39, op := Op.load 32 (Operand.tmp 38), type := 32, pos := "l06_acl.go:133", after := #[{ on := 0, ground := Ground.data }], guard := none }) (v := ?_) rfl (by kernel_rfl) (by kernel_rfl) (by kernel_rfl) (fun _ _ _ h => h) (Or.inl ⟨by rfl, ?_⟩) (by assumption) ?_
  rotate_left
  · intro w hSw; (try dsimp only at hSw); go_simp; (try with_reducible rfl)
  (try simp only [Act.put, List.setIfInBounds_toArray, List.set_cons_zero, List.set_cons_succ])
  refine wpAnyH_take (i := 4) (oi := { dst := some 42, op := Op.move (Operand.tmp 0), type := 25, pos := "l06_acl.go:133", after := #[], guard := none }) (v := ?_) rfl (by kernel_rfl) (by kernel_rfl) (by kernel_rfl) (fun _ _ _ h => h) (Or.inl ⟨by rfl, ?_⟩) (by assumption) ?_
  rotate_left
  · intro w hSw; (try dsimp only at hSw); go_simp; (try with_reducible rfl)
  (try simp only [Act.put, List.setIfInBounds_toArray, List.set_cons_zero, List.set_cons_succ])
  refine wpAnyH_take (i := 5) (oi := { dst := some 43, op := Op.move (Operand.tmp 1), type := 9, pos := "l06_acl.go:133", after := #[], guard := none }) (v := ?_) rfl (by kernel_rfl) (by kernel_rfl) (by kernel_rfl) (fun _ _ _ h => h) (Or.inl ⟨by rfl, ?_⟩) (by assumption) ?_
  rotate_left
  · intro w hSw; (try dsimp only at hSw); go_simp; (try with_reducible rfl)
  (try simp only [Act.put, List.setIfInBounds_toArray, List.set_cons_zero, List.set_cons_succ])
  refine wpAnyH_take (i := 6) (oi := { dst := some 44, op := Op.load 42 (Operand.tmp 5), type := 42, pos := "l06_acl.go:133", after := #[], guard := none }) (v := ?_) rfl (by kernel_rfl) (by kernel_rfl) (by kernel_rfl) (fun _ _ _ h => h) (Or.inl ⟨by rfl, ?_⟩) (by assumption) ?_
  rotate_left
  · intro w hSw; (try dsimp only at hSw); go_simp; (try with_reducible rfl)
  (try simp only [Act.put, List.setIfInBounds_toArray, List.set_cons_zero, List.set_cons_succ])
  refine wpAnyH_ready (rs := [2]) (by kernel_rfl) (by simp) ?_
  refine AllReadyH.cons (o := { dst := some 40, op := Op.buildSlice 158 1 #[(0, Operand.tmp 39)], type := 158, pos := "l06_acl.go:133", after := #[{ on := 1, ground := Ground.data }], guard := none }) rfl (fun K hK => ?_) (AllReadyH.nil)
  go_simp
  clear hHeld
  refine hK.out _ _ ?_ (fun hHeld => ?_)
  · (try dsimp only)
    first | exact SK.out _ (by assumption) | exact SK.out _ BD | exact SK.out _ BA | exact SX.out _ _ _
  clear hK K
  (try simp only [Act.put, List.setIfInBounds_toArray, List.set_cons_zero, List.set_cons_succ])
  refine wpAnyH_ready (rs := [3]) (by kernel_rfl) (by simp) ?_
  refine AllReadyH.cons (o := { dst := some 41, op := Op.call { callee := Callee.value (Operand.func 85), args := #[Operand.tmp 40], argTypes := #[158] }, type := 32, pos := "l06_acl.go:133", after := #[{ on := 2, ground := Ground.data }], guard := none }) rfl (fun K hK => ?_) (AllReadyH.nil)
  go_simp
  refine (CJ.out w4.drew _ (b4.trans (BD.mono b4.size))).mono ?_
  rintro e w5 ⟨u0, rfl, q0, hb⟩
  have D5 : Below w4.heap.size w4 w5 := BD.trans hb
  have b5 := b4.trans (D5.mono b4.size)
  have Q0 := Lib.hid q0
  obtain ⟨p0, e0, rfl⟩ := q0.at.sl
  clear hb q0
  clear hHeld
  refine hK.out _ _ ?_ (fun hHeld => ?_)
  · (try dsimp only)
    first | exact SK.out _ (by assumption) | exact SK.out _ BD | exact SK.out _ BA | exact SX.out _ _ _
  clear hK K
  (try simp only [Act.put, List.setIfInBounds_toArray, List.set_cons_zero, List.set_cons_succ])
  refine wpAnyH_ready (rs := [7]) (by kernel_rfl) (by simp) ?_
  refine AllReadyH.cons (o := { dst := some 45, op := Op.call { callee := Callee.value (Operand.func 86), args := #[Operand.tmp 42, Operand.tmp 43, Operand.tmp 44], argTypes := #[25, 9, 42] }, type := 40, pos := "l06_acl.go:133", after := #[{ on := 4, ground := Ground.data }, { on := 5, ground := Ground.data }, { on := 6, ground := Ground.data }, { on := 3, ground := Ground.chain }], guard := none }) rfl (fun K hK => ?_) (AllReadyH.nil)
  go_simp
  refine (CR.out w5 b5).mono ?_
  rintro e w6 ⟨u1, rfl, q1, hb⟩
  have D6 := D5.trans (hb.mono D5.size)
  have b6 := b5.trans (hb.mono b5.size)
  have Q0' := Lib.hid (Q0.out.frame (Same.of_below' hb)); have Q1 := Lib.hid q1
  obtain ⟨p1, e1, rfl⟩ := q1.at.sl
  have hs5 := D5.size; have hs6 := hb.size; have hs4 : w4.drew.heap.size = w4.heap.size := rfl
  have TX := Lib.hid (T4.out.below D6); have RX := Lib.hid (R4.out.below D6)
  have x0 := RX.out.cell 0 rfl
  have x1 := RX.out.cell 1 rfl
  have x2 := RX.out.cell 2 rfl
  have f0 := RX.out.soft 0
  have f1 := RX.out.soft 1
  have f2 := RX.out.soft 2
  have SX : Hid (∀ x y z : Value, ((((w6.setCell ⟨w.heap.size + 1, 0, none⟩ x).setCell ⟨w.heap.size + 1, 1, none⟩ y).setCell ⟨w.heap.size + 1, 2, none⟩ z).cell? ⟨w.heap.size, 0, none⟩ = some (.slice o2 dn.length k2) ∧ (((w6.setCell ⟨w.heap.size + 1, 0, none⟩ x).setCell ⟨w.heap.size + 1, 1, none⟩ y).setCell ⟨w.heap.size + 1, 2, none⟩ z).cell? ⟨w.heap.size, 1, none⟩ = some (.slice o3 at_.length k3))) := Lib.hid (fun x y z => ⟨(((TX.out.far (by omega) x).far (by omega) y).far (by omega) z).cell 0 rfl, (((TX.out.far (by omega) x).far (by omega) y).far (by omega) z).cell 1 rfl⟩)
  clear hb q1
  clear hHeld
  refine hK.out _ _ ?_ (fun hHeld => ?_)
  · (try dsimp only)
    first | exact SK.out _ (by assumption) | exact SK.out _ BD | exact SK.out _ BA | exact SX.out _ _ _
  clear hK K
  (try simp only [Act.put, List.setIfInBounds_toArray, List.set_cons_zero, List.set_cons_succ])
  refine wpAnyH_take (i := 8) (oi := { dst := some 46, op := Op.build 42 #[(0, Operand.tmp 41), (1, Operand.tmp 45)], type := 42, pos := "l06_acl.go:133", after := #[{ on := 3, ground := Ground.data }, { on := 7, ground := Ground.data }], guard := none }) (v := ?_) rfl (by kernel_rfl) (by kernel_rfl) (by kernel_rfl) (fun _ _ _ h => h) (Or.inl ⟨by rfl, ?_⟩) (by assumption) ?_
  rotate_left
  · intro w hSw; (try dsimp only at hSw); go_simp; (try with_reducible rfl)
  (try simp only [Act.put, List.setIfInBounds_toArray, List.set_cons_zero, List.set_cons_succ])
  refine wpAnyH_take (i := 9) (oi := { dst := some 47, op := Op.build 44 #[(0, Operand.tmp 46)], type := 44, pos := "l06_acl.go:133", after := #[{ on := 8, ground := Ground.data }], guard := none }) (v := ?_) rfl (by kernel_rfl) (by kernel_rfl) (by kernel_rfl) (fun _ _ _ h => h) (Or.inl ⟨by rfl, ?_⟩) (by assumption) ?_
  rotate_left
  · intro w hSw; (try dsimp only at hSw); go_simp; (try with_reducible rfl)
  (try simp only [Act.put, List.setIfInBounds_toArray, List.set_cons_zero, List.set_cons_succ])
  refine wpAnyH_ready (rs := [10]) (by kernel_rfl) (by simp) ?_
  refine AllReadyH.cons (o := { dst := none, op := Op.store 44 (Operand.tmp 6) (Operand.tmp 47), type := 0, pos := "l06_acl.go:133", after := #[{ on := 9, ground := Ground.data }, { on := 7, ground := Ground.chain }, { on := 0, ground := Ground.phase }, { on := 1, ground := Ground.phase }, { on := 2, ground := Ground.phase }, { on := 3, ground := Ground.phase }, { on := 4, ground := Ground.phase }, { on := 5, ground := Ground.phase }, { on := 6, ground := Ground.phase }, { on := 7, ground := Ground.phase }, { on := 8, ground := Ground.phase }, { on := 9, ground := Ground.phase }], guard := none }) rfl (fun K hK => ?_) (AllReadyH.nil)
  go_simp
  clear hHeld
  refine hK.out _ _ ?_ (fun hHeld => ?_)
  · (try dsimp only)
    first | exact SK.out _ (by assumption) | exact SK.out _ BD | exact SK.out _ BA | exact SX.out _ _ _
  clear hK K
  (try simp only [Act.put, List.setIfInBounds_toArray, List.set_cons_zero, List.set_cons_succ])
  refine wpAnyH_done (by kernel_rfl) ?_ _
  have TE := ((RX.out.set 0 (.slice p0 dn.length e0)).set 1 (.slice p1 rd.length e1)).set 2 (.int .i64 0)
  have j0 := TE.cell 0 rfl
  have j1 := TE.cell 1 rfl
  have j2 := TE.cell 2 rfl
  clear TE
  go_wp2
  refine bodyPost_ret (v := .agg #[.slice p0 dn.length e0, .slice p1 rd.length e1, .int .i64 0]) (by simp [results, Try.results25, go_sem, j0, j1, j2]) rfl ?_
  rw [HR.out]
  refine ⟨_, _, rfl, entryOut_pack dn rd 0 _ _ (Fresh w4.drew w5) (Fresh w5 w6) ⟨?_, ?_, ?_, ?_, fun k h1 h2 => by have := h1.2; have := h2.1; omega, trivial⟩, ?_⟩
  · exact ((Q0'.out.frame (Same.set _ (g := w.heap.size + 1) 0 _ (by intro h; have := h.1; omega))).frame (Same.set _ (g := w.heap.size + 1) 1 _ (by intro h; have := h.1; omega))).frame (Same.set _ (g := w.heap.size + 1) 2 _ (by intro h; have := h.1; omega))
  · exact fun k z => ⟨by have := z.1; omega, by have := z.2; show _ < (World.heap _).size; simp only [setCell_size]; omega⟩
  · exact ((Q1.out.frame (Same.set _ (g := w.heap.size + 1) 0 _ (by intro h; have := h.1; omega))).frame (Same.set _ (g := w.heap.size + 1) 1 _ (by intro h; have := h.1; omega))).frame (Same.set _ (g := w.heap.size + 1) 2 _ (by intro h; have := h.1; omega))
  · exact fun k z => ⟨by have := z.1; omega, by have := z.2; show _ < (World.heap _).size; simp only [setCell_size]; omega⟩
  · exact ((b6.setCell (p := ⟨w.heap.size + 1, 0, none⟩) (by show w.heap.size ≤ w.heap.size + 1; omega) _).setCell (p := ⟨w.heap.size + 1, 1, none⟩) (by show w.heap.size ≤ w.heap.size + 1; omega) _).setCell (p := ⟨w.heap.size + 1, 2, none⟩) (by show w.heap.size ≤ w.heap.size + 1; omega) _
end Go.Proofs.Ytglgkocjdockdaa
