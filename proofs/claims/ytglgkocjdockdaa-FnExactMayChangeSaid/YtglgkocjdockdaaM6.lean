/- Merged texts: Alw, EntR2, EntR3. -/
import Derived.Test.YtglgkocjdockdaaM4
import Derived.Test.YtglgkocjdockdaaM5
import Derived.Test.YtglgkocjdockdaaM3
/- Allowed: what the texts of the program and of the specification return. -/
namespace Go.Proofs.Ytglgkocjdockdaa
open Go.RowKit
attribute [local go_sem ↓] Go.wp_at_zero Go.wp_at_succ

/-- what is asked of an access control list -/
noncomputable def accB (who : ByteArray) (dn : RdnL) (attr : ByteArray) (right : Int) : Bool := nmL who && (dnB dn && !(decide (dn.length = 0))) && ((attr.toList.isEmpty || nmL attr) && rtB right)
noncomputable def allowB (l : List RuleT) (who : ByteArray) (dn : RdnL) (attr : ByteArray) (right : Int) : Bool := aclB l && (accB who dn attr right && grantB l who dn attr right)
theorem nm_small {s : ByteArray} (h : nmL s = true) : s.size ≤ 20 := by unfold nmL at h; simp only [Bool.and_eq_true, decide_eq_true_eq] at h; exact h.1.1.2
set_option maxRecDepth 100000 in
set_option maxHeartbeats 4000000 in
theorem accessRight_any {S : Bs} (who : ByteArray) (dn : RdnL) (dv : Value) (attr : ByteArray) (right : Int) (w : World) (hd : SlAt rdnE S w dn dv) (hzd : dn.length + szL rdnE dn ≤ 1048576) (hw : who.size ≤ 1048576) (ha : attr.size ≤ 1048576) :
    Calls Try.prog 75 #[.agg #[.string who, dv, .string attr, .int .i64 right]] w fun e w' => e = .returned (.bool (accB who dn attr right)) ∧ Below w.heap.size w w' := by
  obtain ⟨o1, k1, rfl⟩ := hd.sl
  have HB : Hid (accB who dn attr right = (nmL who && (dnB dn && !(decide (dn.length = 0))) && ((attr.toList.isEmpty || nmL attr) && rtB right))) := Lib.hid rfl
  have CN : Hid (∀ W : World, Calls Try.prog 84 #[.string who] W fun e w' => e = .returned (.bool (nmL who)) ∧ W = w') := Lib.hid (fun W => NameRight_any who W (by unfold maxLen; omega))
  have CM : Hid (∀ W : World, Calls Try.prog 84 #[.string attr] W fun e w' => e = .returned (.bool (nmL attr)) ∧ W = w') := Lib.hid (fun W => NameRight_any attr W (by unfold maxLen; omega))
  have CD : Hid (∀ W : World, Below w.heap.size w W → Calls Try.prog 117 #[.slice o1 dn.length k1] W fun e w' => e = .returned (.bool (dnB dn)) ∧ Below W.heap.size W w') := Lib.hid (fun W b => DnRight_any o1 dn k1 W ((dn_of hd).below b) (fits_dn hzd))
  have hl : dn.length ≤ 1048576 := by omega
  clear hd hzd
  generalize nmL who = n1 at *
  generalize nmL attr = n2 at *
  generalize dnB dn = db at *
  generalize accB who dn attr right = R at *
  go_enter Try.func75, Try.ntmps75
  go_wp2_with fail
  refine (CN.out _).mono ?_
  rintro e w1 ⟨rfl, rfl⟩
  cases n1
  · have HR : Hid (R = false) := Lib.hid (by rw [HB.out]; rfl)
    go_wp2
    go_ret
    exact ⟨ret_bool HR.out.symm, more' (Below.refl _ _) _⟩
  go_wp2_with fail
  refine calls_by (fun W => Below w.heap.size w W ∧ Blk W w.heap.size [.string who, .slice o1 dn.length k1, .string attr, .int .i64 right]) ⟨more' (Below.refl _ _) _, Blk.new _ _ _⟩ ?_
  rintro W1 ⟨b1, t1⟩
  refine (CD.out W1 b1).mono ?_
  rintro e w2 ⟨rfl, hb⟩
  have b2 := b1.trans (hb.mono b1.size); have T2 := Lib.hid (t1.below hb)
  clear hb t1 b1
  cases db
  · have HR : Hid (R = false) := Lib.hid (by rw [HB.out]; rfl)
    go_wp2
    go_ret
    exact ⟨ret_bool HR.out.symm, b2⟩
  have m0 := T2.out.cell 0 rfl
  have m1 := T2.out.cell 1 rfl
  have m2 := T2.out.cell 2 rfl
  have m3 := T2.out.cell 3 rfl
  by_cases hn : dn.length = 0
  · have hn' : ((dn.length : Int) == 0) = true := by simp only [beq_iff_eq]; omega
    have HR : Hid (R = false) := Lib.hid (by rw [HB.out]; simp [hn])
    clear hn
    go_wp2
    go_ret
    exact ⟨ret_bool HR.out.symm, b2⟩
  have hn' : ((dn.length : Int) == 0) = false := by simp only [beq_eq_false_iff_ne, ne_eq]; omega
  have HB2 : Hid (R = ((attr.toList.isEmpty || n2) && rtB right)) := Lib.hid (by rw [HB.out]; simp [hn])
  cases he : attr.toList.isEmpty
  · cases n2
    · have HR : Hid (R = false) := Lib.hid (by rw [HB2.out, he]; rfl)
      go_wp2_with fail
      refine (CM.out _).mono ?_
      rintro e w3 ⟨rfl, rfl⟩
      go_wp2
      go_ret
      exact ⟨ret_bool HR.out.symm, b2⟩
    · have HR : Hid (R = rtB right) := Lib.hid (by rw [HB2.out, he]; rfl)
      go_wp2_with fail
      refine (CM.out _).mono ?_
      rintro e w3 ⟨rfl, rfl⟩
      go_wp2_with fail
      refine (isRight_any right w2).mono ?_
      rintro e w4 ⟨rfl, rfl⟩
      generalize rtB right = q at *
      go_wp2
      go_ret
      exact ⟨ret_bool HR.out.symm, b2⟩
  · have HR : Hid (R = rtB right) := Lib.hid (by rw [HB2.out, he]; rfl)
    go_wp2_with fail
    refine (isRight_any right w2).mono ?_
    rintro e w4 ⟨rfl, rfl⟩
    generalize rtB right = q at *
    go_wp2
    go_ret
    exact ⟨ret_bool HR.out.symm, b2⟩
set_option maxRecDepth 100000 in
set_option maxHeartbeats 4000000 in
theorem Allowed_any {S S' : Bs} (v : Value) (d : List RuleT) (who : ByteArray) (dn : RdnL) (dv : Value) (attr : ByteArray) (right : Int) (w : World) (hL : SlAt ruleE S w d v) (hd : SlAt rdnE S' w dn dv) (hz : d.length + szL ruleE d ≤ 1048576) (hzd : dn.length + szL rdnE dn ≤ 1048576) (hw : who.size ≤ 1048576) (ha : attr.size ≤ 1048576) :
    Calls Try.prog 20 #[v, .string who, dv, .string attr, .int .i64 right] w fun e w' => e = .returned (.bool (allowB d who dn attr right)) ∧ Below w.heap.size w w' := by
  have HB : Hid (allowB d who dn attr right = (aclB d && (accB who dn attr right && grantB d who dn attr right))) := Lib.hid rfl
  have CL : Hid (∀ W : World, Below w.heap.size w W → Calls Try.prog 15 #[v] W fun e w' => e = .returned (.bool (aclB d)) ∧ Below W.heap.size W w') := Lib.hid (fun W b => AclRight_any v d W (hL.frame (Same.of_below' b)) hz)
  have CA : Hid (∀ W : World, Below w.heap.size w W → Calls Try.prog 75 #[.agg #[.string who, dv, .string attr, .int .i64 right]] W fun e w' => e = .returned (.bool (accB who dn attr right)) ∧ Below W.heap.size W w') := Lib.hid (fun W b => accessRight_any who dn dv attr right W (hd.frame (Same.of_below' b)) hzd hw ha)
  have CG : Hid (∀ W : World, Below w.heap.size w W → Calls Try.prog 76 #[v, .agg #[.string who, dv, .string attr, .int .i64 right]] W fun e w' => e = .returned (.bool (grantB d who dn attr right)) ∧ Below W.heap.size W w') := Lib.hid (fun W b => grants_any v d who dn dv attr right W (hL.frame (Same.of_below' b)) (hd.frame (Same.of_below' b)) hz hzd)
  obtain ⟨o1, k1, rfl⟩ := hL.sl
  obtain ⟨o2, k2, rfl⟩ := hd.sl
  clear hL hd hz hzd
  generalize aclB d = n1 at *
  generalize accB who dn attr right = n2 at *
  generalize grantB d who dn attr right = n3 at *
  generalize allowB d who dn attr right = R at *
  go_enter Try.func20, Try.ntmps20
  go_wp2_with fail
  refine calls_by (fun W => Below w.heap.size w W ∧ Blk W w.heap.size [.string who, .slice o2 dn.length k2, .string attr, .int .i64 right]) ⟨more' (Below.refl _ _) _, Blk.new _ _ _⟩ ?_
  rintro W1 ⟨b1, t1⟩
  refine (CL.out W1 b1).mono ?_
  rintro e w2 ⟨rfl, hb⟩
  have b2 := b1.trans (hb.mono b1.size); have T2 := Lib.hid (t1.below hb)
  clear hb t1 b1
  cases n1
  · have HR : Hid (R = false) := Lib.hid (by rw [HB.out]; simp)
    go_wp2
    go_ret
    exact ⟨ret_bool HR.out.symm, b2⟩
  have m0 := T2.out.cell 0 rfl
  have m1 := T2.out.cell 1 rfl
  have m2 := T2.out.cell 2 rfl
  have m3 := T2.out.cell 3 rfl
  go_wp2_with fail
  refine (CA.out w2 b2).mono ?_
  rintro e w3 ⟨rfl, hb⟩
  have b3 := b2.trans (hb.mono b2.size); have T3 := Lib.hid (T2.out.below hb)
  clear hb T2 b2 m0 m1 m2 m3
  cases n2
  · have HR : Hid (R = false) := Lib.hid (by rw [HB.out]; simp)
    go_wp2
    go_ret
    exact ⟨ret_bool HR.out.symm, b3⟩
  have m0 := T3.out.cell 0 rfl
  have m1 := T3.out.cell 1 rfl
  have m2 := T3.out.cell 2 rfl
  have m3 := T3.out.cell 3 rfl
  have HR : Hid (R = n3) := Lib.hid (by rw [HB.out]; simp)
  go_wp2_with fail
  refine (CG.out _ b3).mono ?_
  rintro e w4 ⟨rfl, hb⟩
  have b4 := b3.trans (hb.mono b3.size)
  clear hb
  go_wp2
  go_ret
  exact ⟨ret_bool HR.out.symm, b4⟩
set_option maxRecDepth 100000 in
set_option maxHeartbeats 4000000 in
theorem SpecAllowed_any {S S' : Bs} (v : Value) (d : List RuleT) (who : ByteArray) (dn : RdnL) (dv : Value) (attr : ByteArray) (right : Int) (w : World) (hL : SlAt ruleE S w d v) (hd : SlAt rdnE S' w dn dv) (hz : d.length + szL ruleE d ≤ 1048576) (hzd : dn.length + szL rdnE dn ≤ 1048576) (hw : who.size ≤ 1048576) (ha : attr.size ≤ 1048576) :
    Calls Try.prog 18 #[v, .string who, dv, .string attr, .int .i64 right] w fun e w' => e = .returned (.bool (allowB d who dn attr right)) ∧ Below w.heap.size w w' := by
  have HB : Hid (allowB d who dn attr right = (aclB d && ((nmL who && (dnB dn && !(decide (dn.length = 0))) && ((attr.toList.isEmpty || nmL attr) && rtB right)) && grantB d who dn attr right))) := Lib.hid rfl
  have L1 : Hid (aclB d = true → d.length ≤ 10) := Lib.hid (fun h => by unfold aclB at h; simp only [Bool.and_eq_true, decide_eq_true_eq] at h; exact h.1)
  have L2 : Hid (dnB dn = true → dn.length ≤ 6) := Lib.hid dnB_six
  have L3 : Hid (nmL who = true → who.size ≤ 20) := Lib.hid nm_small
  have L4 : Hid (nmL attr = true → attr.size ≤ 20) := Lib.hid nm_small
  have L5 : Hid (attr.toList.isEmpty = true → attr.size = 0) := Lib.hid (fun h => by rw [Lib.toList_data] at h; rw [← size_len, List.isEmpty_iff.1 h]; rfl)
  have CL : Hid (∀ W : World, Below w.heap.size w W → Calls Try.prog 13 #[v] W fun e w' => e = .returned (.bool (aclB d)) ∧ Below W.heap.size W w') := Lib.hid (fun W b => SpecAclRight_any v d W (hL.frame (Same.of_below' b)) hz)
  have CN : Hid (∀ W : World, Calls Try.prog 48 #[.string who] W fun e w' => e = .returned (.bool (nmL who)) ∧ W = w') := Lib.hid (fun W => SpecNameRight_any who W (by unfold maxLen; omega))
  have CM : Hid (∀ W : World, Calls Try.prog 48 #[.string attr] W fun e w' => e = .returned (.bool (nmL attr)) ∧ W = w') := Lib.hid (fun W => SpecNameRight_any attr W (by unfold maxLen; omega))
  have CI : Hid (∀ W : World, Calls Try.prog 72 #[.int .i64 right, .int .i64 1, .int .i64 4] W fun e w' => e = .returned (.bool (rtB right)) ∧ w' = W) := Lib.hid (fun W => l02Is_any right 1 4 W)
  have CG : Hid (∀ W : World, Below w.heap.size w W → Calls Try.prog 73 #[v, .string who, dv, .string attr, .int .i64 right] W fun e w' => e = .returned (.bool (grantB d who dn attr right)) ∧ Below W.heap.size W w') := Lib.hid (fun W b => l06Allowed_any v d who dn dv attr right W (hL.frame (Same.of_below' b)) (hd.frame (Same.of_below' b)) hz hzd)
  have hl1 : d.length ≤ 1048576 := by omega
  have hl2 : dn.length ≤ 1048576 := by omega
  obtain ⟨o1, k1, rfl⟩ := hL.sl
  have hd0 := hd
  obtain ⟨o2, k2, rfl⟩ := hd.sl
  have CD : Hid (∀ W : World, Below w.heap.size w W → Calls Try.prog 47 #[.slice o2 dn.length k2] W fun e w' => e = .returned (.bool (dnB dn)) ∧ Below W.heap.size W w') := Lib.hid (fun W b => SpecDnRight_any o2 dn k2 W ((dn_of hd0).below b) (fits_dn hzd))
  clear hL hd hd0 hz hzd
  generalize aclB d = n1 at *
  generalize nmL who = n2 at *
  generalize nmL attr = n3 at *
  generalize dnB dn = n4 at *
  generalize rtB right = n5 at *
  generalize grantB d who dn attr right = n6 at *
  generalize hem : attr.toList.isEmpty = em at *
  generalize allowB d who dn attr right = R at *
  by_cases c1 : 400 < d.length
  · have HR : Hid (R = false) := Lib.hid (by cases n1 with | false => (rw [HB.out]; rfl) | true => (have := L1.out rfl; omega))
    have c1' : (400 : Int) < (d.length : Int) := by omega
    go_enter Try.func18, Try.ntmps18
    go_wp2
    go_ret
    exact ⟨ret_bool HR.out.symm, Below.refl _ _⟩
  have c1' : ¬ (400 : Int) < (d.length : Int) := by omega
  by_cases c2 : 400 < dn.length
  · have HR : Hid (R = false) := Lib.hid (by cases n4 with | false => (rw [HB.out]; simp) | true => (have := L2.out rfl; omega))
    have c2' : (400 : Int) < (dn.length : Int) := by omega
    go_enter Try.func18, Try.ntmps18
    go_wp2
    go_ret
    exact ⟨ret_bool HR.out.symm, Below.refl _ _⟩
  have c2' : ¬ (400 : Int) < (dn.length : Int) := by omega
  by_cases c3 : 8000 < who.size
  · have HR : Hid (R = false) := Lib.hid (by cases n2 with | false => (rw [HB.out]; simp) | true => (have := L3.out rfl; omega))
    have c3' : (8000 : Int) < (who.size : Int) := by omega
    go_enter Try.func18, Try.ntmps18
    go_wp2
    go_ret
    exact ⟨ret_bool HR.out.symm, Below.refl _ _⟩
  have c3' : ¬ (8000 : Int) < (who.size : Int) := by omega
  by_cases c4 : 8000 < attr.size
  · have HR : Hid (R = false) := Lib.hid (by
      cases em
      · cases n3
        · rw [HB.out]; simp
        · have := L4.out rfl; omega
      · have := L5.out rfl; omega)
    have c4' : (8000 : Int) < (attr.size : Int) := by omega
    go_enter Try.func18, Try.ntmps18
    go_wp2
    go_ret
    exact ⟨ret_bool HR.out.symm, Below.refl _ _⟩
  have c4' : ¬ (8000 : Int) < (attr.size : Int) := by omega
  clear L1 L2 L3 L4 L5 c1 c2 c3 c4
  go_enter Try.func18, Try.ntmps18
  go_wp2_with fail
  refine (CL.out w (Below.refl _ _)).mono ?_
  rintro e w2 ⟨rfl, b2⟩
  cases n1
  · have HR : Hid (R = false) := Lib.hid (by rw [HB.out]; simp)
    go_wp2
    go_ret
    exact ⟨ret_bool HR.out.symm, b2⟩
  go_wp2_with fail
  refine (CN.out w2).mono ?_
  rintro e w3 ⟨rfl, rfl⟩
  cases n2
  · have HR : Hid (R = false) := Lib.hid (by rw [HB.out]; simp)
    go_wp2
    go_ret
    exact ⟨ret_bool HR.out.symm, b2⟩
  by_cases hn : dn.length = 0
  · have hn' : ((dn.length : Int) == 0) = true := by simp only [beq_iff_eq]; omega
    have HR : Hid (R = false) := Lib.hid (by rw [HB.out]; simp [hn])
    clear hn
    go_wp2
    go_ret
    exact ⟨ret_bool HR.out.symm, b2⟩
  have hn' : ((dn.length : Int) == 0) = false := by simp only [beq_eq_false_iff_ne, ne_eq]; omega
  have HB2 : Hid (R = ((n4 && ((em || n3) && n5)) && n6)) := Lib.hid (by rw [HB.out]; simp [hn])
  clear HB
  have HB := HB2; clear HB2
  go_wp2_with fail
  refine (CD.out w2 b2).mono ?_
  rintro e w3 ⟨rfl, hb⟩
  have b3 := b2.trans (hb.mono b2.size)
  clear hb b2
  cases n4
  · have HR : Hid (R = false) := Lib.hid (by rw [HB.out]; simp)
    go_wp2
    go_ret
    exact ⟨ret_bool HR.out.symm, b3⟩
  have HB2 : Hid (em = false → n3 = false → R = false) := Lib.hid (fun h1 h2 => by rw [HB.out, h1, h2]; simp)
  have HB3 : Hid ((em || n3) = true → R = (n5 && n6)) := Lib.hid (fun h => by rw [HB.out, h]; simp)
  cases em
  · go_wp2_with fail
    refine (CM.out w3).mono ?_
    rintro e w4 ⟨rfl, rfl⟩
    cases n3
    · have HR : Hid (R = false) := Lib.hid (HB2.out (by first | rfl | trivial) (by first | rfl | trivial))
      go_wp2
      go_ret
      exact ⟨ret_bool HR.out.symm, b3⟩
    have HB4 : Hid (R = (n5 && n6)) := Lib.hid (HB3.out (by first | rfl | trivial))
    go_wp2_with fail
    refine (CI.out w3).mono ?_
    rintro e w4 ⟨rfl, rfl⟩
    cases n5
    · have HR : Hid (R = false) := Lib.hid (by rw [HB4.out]; rfl)
      go_wp2
      go_ret
      exact ⟨ret_bool HR.out.symm, b3⟩
    have HR : Hid (R = n6) := Lib.hid (by rw [HB4.out]; rfl)
    go_wp2_with fail
    refine (CG.out _ b3).mono ?_
    rintro e w4 ⟨rfl, hb⟩
    have b4 := b3.trans (hb.mono b3.size)
    clear hb
    go_wp2
    go_ret
    exact ⟨ret_bool HR.out.symm, b4⟩
  · have HB4 : Hid (R = (n5 && n6)) := Lib.hid (HB3.out (by first | rfl | trivial))
    go_wp2_with fail
    refine (CI.out w3).mono ?_
    rintro e w4 ⟨rfl, rfl⟩
    cases n5
    · have HR : Hid (R = false) := Lib.hid (by rw [HB4.out]; rfl)
      go_wp2
      go_ret
      exact ⟨ret_bool HR.out.symm, b3⟩
    have HR : Hid (R = n6) := Lib.hid (by rw [HB4.out]; rfl)
    go_wp2_with fail
    refine (CG.out _ b3).mono ?_
    rintro e w4 ⟨rfl, hb⟩
    have b4 := b3.trans (hb.mono b3.size)
    clear hb
    go_wp2
    go_ret
    exact ⟨ret_bool HR.out.symm, b4⟩
end Go.Proofs.Ytglgkocjdockdaa
/- EntryRight: what the program returns. -/
namespace Go.Proofs.Ytglgkocjdockdaa
open Go.RowKit
attribute [local go_sem ↓] Go.wp_at_zero Go.wp_at_succ

set_option maxHeartbeats 1000000 in
theorem compareNames_any (w0 : World) (A B u v : Value) (a b : ByteArray) (hA : A = .agg #[.string a, u]) (hB : B = .agg #[.string b, v]) (x y : AttrV) (hx : x.1 = a) (hy : y.1 = b) (w : World) (hu : ∃ o n c, u = .slice o n c) (hv : ∃ o n c, v = .slice o n c) (hBel : Below w0.heap.size w0 w) :
    Calls Try.prog 150 #[A, B] w fun e w' => (∃ c : Int, e = .returned (.int .i64 c) ∧ decide (0 ≤ c) = !(nameLt x y)) ∧ Below w0.heap.size w0 w' := by
  subst hA hB
  obtain ⟨uo, un, uc, rfl⟩ := hu
  obtain ⟨vo, vn, vc, rfl⟩ := hv
  have HC : Hid (decide (0 ≤ Lib.compareBytes a.data.toList b.data.toList) = !(nameLt x y)) := Lib.hid (by rw [compare_less]; unfold nameLt; rw [hx, hy, Lib.toList_data, Lib.toList_data])
  have HB := Lib.hid hBel; clear hBel hx hy
  go_enter Try.func150, Try.ntmps150
  go_wp2_with (first
    | (go_at_call 114; refine (Try.strings_Compare _ _ _).mono ?_; rintro e w3 ⟨rfl, rfl⟩)
    | (fail "none"))
  go_ret
  exact ⟨⟨_, rfl, HC.out⟩, more (more HB.out _) _⟩
set_option maxRecDepth 100000 in
set_option maxHeartbeats 1000000 in
theorem incAttr_any (ao : Option Addr) (l : List AttrV) (cap : Nat) (w : World) (hd : AttrsAt w ao l) (hl : l.length ≤ 1048576) :
    Calls Try.prog 149 #[.slice ao l.length cap, .func (.func 150) #[] #[]] w fun e w' => e = .returned (.bool (incB nameLt l)) ∧ Below w.heap.size w w' := by
  have HD := Lib.hid hd; clear hd
  go_enter Try.func149, Try.ntmps149
  go_wp2
  go_loopw [5] (fun i wr => ∃ m : Nat, m ≤ l.length ∧ i = .int .i64 ((m : Int) + 1) ∧ (∀ j (h : j + 1 < l.length), j < m → nameLt l[j] l[j + 1] = true) ∧ Below w.heap.size w wr) (fun i _ => l.length + 1 - (intOf i).toNat)
  case atStart => exact ⟨0, Nat.zero_le _, rfl, fun j _ h => absurd h (Nat.not_lt_zero _), Below.refl _ _⟩
  case round =>
    obtain ⟨m, hm, rfl, ha, hbel⟩ := hrel
    have Ha := Lib.hid ha; clear ha
    have hsz := hbel.size
    by_cases hlt : m + 1 < l.length
    · have hm0 : m < l.length := by omega
      obtain ⟨b, off, uo, uc, rfl, hw0, hd1, hd2, _⟩ := HD.out.at hm0
      obtain ⟨b', off', vo, vc, e, _, hd3, hd4, _⟩ := HD.out.at hlt
      cases e
      have g1 : (m : Int) + 1 < (l.length : Int) := by omega
      have g2 : (0 : Int) ≤ (m : Int) := by omega
      have g3 : (m : Int) < (l.length : Int) := by omega
      have g4 : (0 : Int) ≤ (m : Int) + 1 := by omega
      have HN : Hid (∀ j (h : j + 1 < l.length), j < m + 1 → nameLt l[m] l[m + 1] = true → nameLt l[j] l[j + 1] = true) := Lib.hid (fun j h hj hn => by
        by_cases e : j = m
        · subst e; exact hn
        · exact Ha.out j h (by omega))
      have HX : Hid (nameLt l[m] l[m + 1] = false → incB nameLt l = false) := Lib.hid (fun h => incB_no hlt h)
      generalize hx : l[m] = X at *
      generalize hy : l[m + 1] = Y at *
      clear hx hy
      obtain ⟨xa, xv⟩ := X
      obtain ⟨ya, yv⟩ := Y
      have SK : Hid (∀ W : World, Below w.heap.size w W → (Below w.heap.size w W ∧ W.cell? ⟨b, off + m * 2, none⟩ = some (.string xa) ∧ W.cell? ⟨b, off + m * 2 + 1, none⟩ = some (.slice uo xv.length uc) ∧ W.cell? ⟨b, off + (m + 1) * 2, none⟩ = some (.string ya) ∧ W.cell? ⟨b, off + (m + 1) * 2 + 1, none⟩ = some (.slice vo yv.length vc))) :=
        Lib.hid (fun W h => ⟨h, (h.cell (p := ⟨b, _, none⟩) hw0).trans hd1, (h.cell (p := ⟨b, _, none⟩) hw0).trans hd2, (h.cell (p := ⟨b, _, none⟩) hw0).trans hd3, (h.cell (p := ⟨b, _, none⟩) hw0).trans hd4⟩)
      have hbd := hbel.drew
      have hwr : IntKind.i64.wrap (m : Int) = (m : Int) := IntWalk.i64_in _ (by omega)
      have hwr2 : IntKind.i64.wrap ((m : Int) + 1 - 1) = (m : Int) := by rw [Int.add_sub_cancel]; exact hwr
      clear hd1 hd2 hd3 hd4
      cases hn : nameLt (xa, xv) (ya, yv)
      · have HX' := Lib.hid (HX.out hn)
        go_wp2_with fail
        go_region_held3 (fun W => Below w.heap.size w W ∧ W.cell? ⟨b, off + m * 2, none⟩ = some (.string xa) ∧ W.cell? ⟨b, off + m * 2 + 1, none⟩ = some (.slice uo xv.length uc) ∧ W.cell? ⟨b, off + (m + 1) * 2, none⟩ = some (.string ya) ∧ W.cell? ⟨b, off + (m + 1) * 2 + 1, none⟩ = some (.slice vo yv.length vc))
          (exact SK.out _ (by assumption))
          (first | (go_at_call 150; refine (compareNames_any w _ _ _ _ xa ya rfl rfl (xa, xv) (ya, yv) rfl rfl _ ⟨_, _, _, rfl⟩ ⟨_, _, _, rfl⟩ (by assumption)).mono ?_; rintro e w1 ⟨⟨c, rfl, hc⟩, hb1⟩; rw [hn] at hc; have hc0 : 0 ≤ c := (by simpa using hc); clear hc) | (fail "none"))
        all_goals
          go_wp2
          go_ret
          exact ⟨ret_bool (by rw [HX'.out]), hb1⟩
      · go_wp2_with fail
        go_region_held3 (fun W => Below w.heap.size w W ∧ W.cell? ⟨b, off + m * 2, none⟩ = some (.string xa) ∧ W.cell? ⟨b, off + m * 2 + 1, none⟩ = some (.slice uo xv.length uc) ∧ W.cell? ⟨b, off + (m + 1) * 2, none⟩ = some (.string ya) ∧ W.cell? ⟨b, off + (m + 1) * 2 + 1, none⟩ = some (.slice vo yv.length vc))
          (exact SK.out _ (by assumption))
          (first | (go_at_call 150; refine (compareNames_any w _ _ _ _ xa ya rfl rfl (xa, xv) (ya, yv) rfl rfl _ ⟨_, _, _, rfl⟩ ⟨_, _, _, rfl⟩ (by assumption)).mono ?_; rintro e w1 ⟨⟨c, rfl, hc⟩, hb1⟩; rw [hn] at hc; have hc0 : ¬ 0 ≤ c := (by simpa using hc); clear hc) | (fail "none"))
        all_goals
          go_wp2
          go_roundw
          case rel => exact ⟨m + 1, by omega, by go_num, fun j h hj => HN.out j h hj hn, hb1⟩
          case measure => simp [intOf]; omega
    · have HT : Hid (incB nameLt l = true) := Lib.hid (incB_yes fun j h => Ha.out j h (by omega))
      have g1 : ¬ (m : Int) + 1 < (l.length : Int) := by omega
      go_wp2
      go_ret
      exact ⟨ret_bool (by rw [HT.out]), hbel⟩
theorem attrsB_long {l : List AttrV} (h : 8 < l.length) : attrsB l = false := by unfold attrsB; simp [show ¬ l.length ≤ 8 by omega]
theorem attrsB_short {l : List AttrV} (h : l.length ≤ 8) : attrsB l = (l.all attrB && incB nameLt l) := by unfold attrsB; simp [h]
theorem FitsA.max {l : List AttrV} (h : FitsA l) {k : Nat} (hk : k < l.length) : l[k].1.size ≤ maxLen := by have := (h.at hk).1; unfold maxLen; omega
set_option maxRecDepth 100000 in
set_option maxHeartbeats 1000000 in
theorem attrsRight_any (ao : Option Addr) (l : List AttrV) (cap : Nat) (w : World) (hd : AttrsAt w ao l) (hf : FitsA l) :
    Calls Try.prog 125 #[.slice ao l.length cap] w fun e w' => e = .returned (.bool (attrsB l)) ∧ Below w.heap.size w w' := by
  have hl := hf.1
  have HD := Lib.hid hd; have HF := Lib.hid hf; clear hd hf
  by_cases h8 : 8 < l.length
  · have HV := Lib.hid (attrsB_long h8)
    have g8 : 8 < (l.length : Int) := by omega
    go_enter Try.func125, Try.ntmps125
    go_wp2
    go_ret
    exact ⟨ret_bool HV.out.symm, Below.refl _ _⟩
  · have HV := Lib.hid (attrsB_short (l := l) (by omega))
    have g8 : ¬ 8 < (l.length : Int) := by omega
    go_enter Try.func125, Try.ntmps125
    go_wp2
    go_loopw [10] (fun i wr => ∃ k : Nat, k ≤ l.length ∧ i = .int .i64 k ∧ (l.take k).all attrB = true ∧ Below w.heap.size w wr) (fun i _ => l.length - (intOf i).toNat)
    case atStart => exact ⟨0, Nat.zero_le _, rfl, rfl, Below.refl _ _⟩
    case round =>
      obtain ⟨k, hk, rfl, ha, hbel⟩ := hrel
      have Ha := Lib.hid ha; clear ha
      have hsz := hbel.size
      by_cases hlt : k < l.length
      · obtain ⟨b, off, vo, vc, rfl, hb0, hc1, hc2, hv⟩ := (HD.out.below hbel).at hlt
        have HVv := Lib.hid hv.1; clear hv
        have hz := HF.out.max hlt
        have HZ := Lib.hid (HF.out.at hlt).2
        generalize hr : attrB l[k] = r at *
        have HR := Lib.hid hr
        have HE : Hid (attrB (l[k].1, l[k].2) = r) := Lib.hid hr
        have HT : Hid (r = true → (l.take (k + 1)).all attrB = true) := Lib.hid (fun h => by rw [all_take attrB l k hlt, Ha.out, hr, h]; rfl)
        have HX : Hid (r = false → l.all attrB = false) := Lib.hid (fun h => all_bad attrB l k hlt (hr.trans h))
        clear hr HR
        generalize l[k].1 = A at *
        generalize l[k].2 = V at *
        cases r
        · have HX' := Lib.hid (HX.out rfl)
          go_wp2_with fail
          have hb1 := more hbel (.cells #[.string A, .slice vo V.length vc] 83)
          refine (attrRight_any A vo V vc _ hz (HVv.out.below (more (Below.refl _ _) _)) HZ.out).mono ?_
          rintro e w2 ⟨rfl, hb2⟩
          have B2 := Lib.hid (hb1.trans (hb2.mono hb1.size))
          rw [HE.out]
          clear hb1 hb2
          go_wp2
          go_ret
          exact ⟨ret_bool (by rw [HV.out, HX'.out]; rfl), B2.out⟩
        · have HT' := Lib.hid (HT.out rfl)
          go_wp2_with fail
          have hb1 := more hbel (.cells #[.string A, .slice vo V.length vc] 83)
          refine (attrRight_any A vo V vc _ hz (HVv.out.below (more (Below.refl _ _) _)) HZ.out).mono ?_
          rintro e w2 ⟨rfl, hb2⟩
          have B2 := Lib.hid (hb1.trans (hb2.mono hb1.size))
          rw [HE.out]
          clear hb1 hb2
          go_wp2
          go_roundw
          case rel => exact ⟨k + 1, by omega, by go_num, HT'.out, B2.out⟩
          case measure => simp [intOf]; omega
      · have e : l.take k = l := List.take_of_length_le (by omega)
        have HT : Hid (l.all attrB = true) := Lib.hid (by rw [← e]; exact Ha.out)
        clear e
        go_wp2_with fail
        refine (incAttr_any ao l cap wr (HD.out.below hbel) hl).mono ?_
        rintro e w2 ⟨rfl, hb2⟩
        have B2 := Lib.hid (hbel.trans (hb2.mono hsz))
        clear hb2
        go_wp2
        go_ret
        exact ⟨ret_bool (by rw [HV.out, HT.out]; simp), B2.out⟩
theorem rightB_eq (d : RdnL) (l : List AttrV) : rightB d l = (dnB d && decide (0 < d.length) && attrsB l) := rfl
set_option maxRecDepth 100000 in
set_option maxHeartbeats 1000000 in
theorem EntryRight_any (ao bo : Option Addr) (d : RdnL) (l : List AttrV) (ca cb : Nat) (w : World) (hd : DnAt w ao d) (hl : AttrsAt w bo l) (hfd : Fits d) (hfl : FitsA l) :
    Calls Try.prog 83 #[.agg #[.slice ao d.length ca, .slice bo l.length cb]] w fun e w' => e = .returned (.bool (rightB d l)) ∧ Below w.heap.size w w' := by
  have hdl := hfd.1
  have HD := Lib.hid hd; have HL := Lib.hid hl; have FD := Lib.hid hfd; have FL := Lib.hid hfl; clear hd hl hfd hfl
  have HB0 : Hid (Below w.heap.size w (w.alloc (.cells #[.slice ao d.length ca, .slice bo l.length cb] 42))) := Lib.hid (more (Below.refl _ _) _)
  have HE := Lib.hid (rightB_eq d l)
  go_enter Try.func83, Try.ntmps83
  go_wp2_with fail
  refine (DnRight_any ao d ca _ (HD.out.below HB0.out) FD.out).mono ?_
  rintro e w1 ⟨rfl, hb1⟩
  have B1 := Lib.hid (HB0.out.trans (hb1.mono HB0.out.size))
  have c0 : w1.cell? ⟨w.heap.size, 0, none⟩ = some (.slice ao d.length ca) := (hb1.cell (p := ⟨w.heap.size, 0, none⟩) (by simp)).trans (by unfold World.cell?; rw [heap_alloc_new]; rfl)
  have c1 : w1.cell? ⟨w.heap.size, 1, none⟩ = some (.slice bo l.length cb) := (hb1.cell (p := ⟨w.heap.size, 1, none⟩) (by simp)).trans (by unfold World.cell?; rw [heap_alloc_new]; rfl)
  clear hb1
  cases hr : dnB d
  · rw [hr] at HE
    go_wp2
    go_ret
    exact ⟨ret_bool (by rw [HE.out]; rfl), B1.out⟩
  · rw [hr] at HE
    by_cases h0 : 0 < d.length
    · have g0 : (0 : Int) < (d.length : Int) := by omega
      go_wp2_with fail
      refine (attrsRight_any bo l cb w1 (HL.out.below B1.out) FL.out).mono ?_
      rintro e w2 ⟨rfl, hb2⟩
      have B2 := Lib.hid (B1.out.trans (hb2.mono B1.out.size))
      clear hb2
      go_wp2
      go_ret
      exact ⟨ret_bool (by rw [HE.out]; simp [h0]), B2.out⟩
    · have g0 : ¬ (0 : Int) < (d.length : Int) := by omega
      go_wp2
      go_ret
      exact ⟨ret_bool (by rw [HE.out]; simp [h0]), B1.out⟩
end Go.Proofs.Ytglgkocjdockdaa
/- EntryRight: what the specification returns. -/
namespace Go.Proofs.Ytglgkocjdockdaa
open Go.RowKit
attribute [local go_sem ↓] Go.wp_at_zero Go.wp_at_succ

theorem valsB_bad {l : List ByteArray} {k : Nat} (h : k < l.length) (hb : valB l[k] = false) : valsB l = false := by unfold valsB; rw [all_bad valB l k h hb]; simp
theorem valsB_inc {l : List ByteArray} {m : Nat} (h : m + 1 < l.length) (hb : normLt l[m] l[m + 1] = false) : valsB l = false := by unfold valsB; rw [incB_no h hb]; simp
theorem valsB_all {l : List ByteArray} (h : l.all valB = true) (hi : ∀ j (h : j + 1 < l.length), normLt l[j] l[j + 1] = true) : valsB l = (decide (1 ≤ l.length) && decide (l.length ≤ 4)) := by
  unfold valsB; rw [h, incB_yes hi]; simp
set_option maxRecDepth 100000 in
set_option maxHeartbeats 2000000 in
theorem l03Values_any (ao : Option Addr) (l : List ByteArray) (cap : Nat) (w : World) (hd : StrsAt w ao l) (hf : FitsV l) :
    Calls Try.prog 147 #[.slice ao l.length cap] w fun e w' => e = .returned (.bool (valsB l)) ∧ Below w.heap.size w w' := by
  have hl := hf.1
  have HD := Lib.hid hd; have HF := Lib.hid hf; clear hd hf
  go_enter Try.func147, Try.ntmps147
  go_wp2
  go_loopw [3] (fun i wr => ∃ k : Nat, k ≤ l.length ∧ i = .int .i64 k ∧ (l.take k).all valB = true ∧ (∀ j (h : j + 1 < l.length), j + 1 < k → normLt l[j] l[j + 1] = true) ∧ Below w.heap.size w wr) (fun i _ => l.length - (intOf i).toNat)
  case atStart => exact ⟨0, Nat.zero_le _, rfl, rfl, fun j _ h => absurd h (Nat.not_lt_zero _), Below.refl _ _⟩
  case round =>
    obtain ⟨k, hk, rfl, ha, hj, hbel⟩ := hrel
    have Ha := Lib.hid ha; have Hj := Lib.hid hj; clear ha hj
    have hsz := hbel.size
    by_cases hlt : k < l.length
    · have hz := HF.out.max hlt
      have hbd := hbel.drew
      have g1 : (0 : Int) ≤ (k : Int) := by omega
      have g2 : (k : Int) < (l.length : Int) := by omega
      have HBad : Hid (valB l[k] = false → valsB l = false) := Lib.hid (fun h => valsB_bad hlt h)
      have HT : Hid (valB l[k] = true → (l.take (k + 1)).all valB = true) := Lib.hid (fun h => by rw [all_take valB l k hlt, Ha.out, h]; rfl)
      obtain ⟨b, off, rfl, hw0, hd1⟩ := HD.out.at hlt
      rcases k with _ | m
      · generalize hx : l[0] = X at *
        clear hx
        have H51 : Hid (∀ W, Below w.heap.size w W → Calls Try.prog 101 #[.string X] W fun e w' => e = .returned (.bool (valB X)) ∧ Below w.heap.size w w') :=
          Lib.hid (fun W h => (l02Value_any X W hz).mono fun _ _ g => ⟨g.1, h.trans (g.2.mono h.size)⟩)
        have SK : Hid (∀ W : World, Below w.heap.size w W → (Below w.heap.size w W ∧ W.cell? ⟨b, off, none⟩ = some (.string X))) :=
          Lib.hid (fun W h => ⟨h, (h.cell (p := ⟨b, _, none⟩) hw0).trans hd1⟩)
        clear hd1
        cases hv : valB X
        · have HB' := Lib.hid (HBad.out hv)
          rw [hv] at H51
          go_wp2_with fail
          refine wp_region_held_drew (S := (fun W => Below w.heap.size w W ∧ W.cell? ⟨b, off, none⟩ = some (.string X))) (by kernel_rfl) ?_ (fun hHeld => ?_)
          · (try dsimp only)
            exact SK.out _ (by assumption)
          refine wpAnyH_take (i := 0) (oi := { dst := some 10, op := Op.move (Operand.tmp 0), type := 61, pos := "l03_entry.go:8", after := #[], guard := none }) (v := ?_) rfl (by kernel_rfl) (by kernel_rfl) (by kernel_rfl) (fun _ _ _ h => h) (Or.inl ⟨by rfl, ?_⟩) (by assumption) ?_
          rotate_left
          · intro w hSw; (try dsimp only at hSw); go_simp; (try with_reducible rfl)
          (try simp only [Act.put, List.setIfInBounds_toArray, List.set_cons_zero, List.set_cons_succ])
          refine wpAnyH_take (i := 1) (oi := { dst := some 11, op := Op.move (Operand.tmp 3), type := 3, pos := "l03_entry.go:8", after := #[], guard := none }) (v := ?_) rfl (by kernel_rfl) (by kernel_rfl) (by kernel_rfl) (fun _ _ _ h => h) (Or.inl ⟨by rfl, ?_⟩) (by assumption) ?_
          rotate_left
          · intro w hSw; (try dsimp only at hSw); go_simp; (try with_reducible rfl)
          (try simp only [Act.put, List.setIfInBounds_toArray, List.set_cons_zero, List.set_cons_succ])
          refine wpAnyH_take (i := 2) (oi := { dst := some 12, op := Op.indexAddr 61 (Operand.tmp 10) (Operand.tmp 11), type := 0, pos := "l03_entry.go:8", after := #[{ on := 0, ground := Ground.data }, { on := 1, ground := Ground.data }], guard := none }) (v := ?_) rfl (by kernel_rfl) (by kernel_rfl) (by kernel_rfl) (fun _ _ _ h => h) (Or.inl ⟨by rfl, ?_⟩) (by assumption) ?_
          rotate_left
          · intro w hSw; (try dsimp only at hSw); go_simp; (try with_reducible rfl)
          (try simp only [Act.put, List.setIfInBounds_toArray, List.set_cons_zero, List.set_cons_succ])
          refine wpAnyH_take (i := 3) (oi := { dst := some 13, op := Op.load 9 (Operand.tmp 12), type := 9, pos := "l03_entry.go:8", after := #[{ on := 2, ground := Ground.data }], guard := none }) (v := ?_) rfl (by kernel_rfl) (by kernel_rfl) (by kernel_rfl) (fun _ _ _ h => h) (Or.inl ⟨by rfl, ?_⟩) (by assumption) ?_
          rotate_left
          · intro w hSw; (try dsimp only at hSw); go_simp; (try with_reducible rfl)
          (try simp only [Act.put, List.setIfInBounds_toArray, List.set_cons_zero, List.set_cons_succ])
          refine wpAnyH_ready (rs := [4]) (by kernel_rfl) (by simp) ?_
          refine AllReadyH.cons (o := { dst := some 14, op := Op.call { callee := Callee.value (Operand.func 101), args := #[Operand.tmp 13], argTypes := #[9] }, type := 4, pos := "l03_entry.go:8", after := #[{ on := 3, ground := Ground.data }], guard := none }) rfl (fun K hK => ?_) AllReadyH.nil
          go_simp
          (refine (H51.out _ (by assumption)).mono ?_; rintro e w1 ⟨rfl, hb1⟩; go_wp2_with fail)
          clear hHeld
          refine hK.out _ _ ?_ (fun hHeld => ?_)
          · (try dsimp only)
            exact SK.out _ (by assumption)
          clear hK K
          (try simp only [Act.put, List.setIfInBounds_toArray, List.set_cons_zero, List.set_cons_succ])
          refine wpAnyH_take (i := 5) (oi := { dst := some 15, op := Op.unOp UnOp.not 4 (Operand.tmp 14), type := 4, pos := "l03_entry.go:8", after := #[{ on := 4, ground := Ground.data }], guard := none }) (v := ?_) rfl (by kernel_rfl) (by kernel_rfl) (by kernel_rfl) (fun _ _ _ h => h) (Or.inl ⟨by rfl, ?_⟩) (by assumption) ?_
          rotate_left
          · intro w hSw; (try dsimp only at hSw); go_simp; (try with_reducible rfl)
          (try simp only [Act.put, List.setIfInBounds_toArray, List.set_cons_zero, List.set_cons_succ])
          refine wpAnyH_take (i := 6) (oi := { dst := some 16, op := Op.move (Operand.tmp 15), type := 4, pos := "l03_entry.go:8", after := #[{ on := 5, ground := Ground.data }, { on := 4, ground := Ground.chain }], guard := none }) (v := ?_) rfl (by kernel_rfl) (by kernel_rfl) (by kernel_rfl) (fun _ _ _ h => h) (Or.inl ⟨by rfl, ?_⟩) (by assumption) ?_
          rotate_left
          · intro w hSw; (try dsimp only at hSw); go_simp; (try with_reducible rfl)
          (try simp only [Act.put, List.setIfInBounds_toArray, List.set_cons_zero, List.set_cons_succ])
          refine wpAnyH_take (i := 7) (oi := { dst := some 17, op := Op.move (Operand.tmp 3), type := 3, pos := "l03_entry.go:8", after := #[{ on := 6, ground := Ground.guard }], guard := some (6, false) }) (v := undef) rfl (by kernel_rfl) (by kernel_rfl) (by kernel_rfl) (fun _ _ _ h => h) (Or.inr ⟨by rfl, rfl⟩) (by assumption) ?_
          (try simp only [Act.put, List.setIfInBounds_toArray, List.set_cons_zero, List.set_cons_succ])
          refine wpAnyH_take (i := 8) (oi := { dst := some 18, op := Op.binOp BinOp.gtr 3 (Operand.tmp 17) (Operand.const (Value.int IntKind.i64 0)) 3, type := 4, pos := "l03_entry.go:8", after := #[{ on := 7, ground := Ground.data }, { on := 6, ground := Ground.guard }], guard := some (6, false) }) (v := undef) rfl (by kernel_rfl) (by kernel_rfl) (by kernel_rfl) (fun _ _ _ h => h) (Or.inr ⟨by rfl, rfl⟩) (by assumption) ?_
          (try simp only [Act.put, List.setIfInBounds_toArray, List.set_cons_zero, List.set_cons_succ])
          refine wpAnyH_take (i := 9) (oi := { dst := some 19, op := Op.move (Operand.tmp 18), type := 4, pos := "l03_entry.go:8", after := #[{ on := 8, ground := Ground.data }, { on := 6, ground := Ground.chain }, { on := 6, ground := Ground.guard }], guard := some (6, false) }) (v := undef) rfl (by kernel_rfl) (by kernel_rfl) (by kernel_rfl) (fun _ _ _ h => h) (Or.inr ⟨by rfl, rfl⟩) (by assumption) ?_
          (try simp only [Act.put, List.setIfInBounds_toArray, List.set_cons_zero, List.set_cons_succ])
          refine wpAnyH_take (i := 10) (oi := { dst := some 20, op := Op.move (Operand.tmp 0), type := 61, pos := "l03_entry.go:8", after := #[{ on := 9, ground := Ground.guard }], guard := some (9, true) }) (v := undef) rfl (by kernel_rfl) (by kernel_rfl) (by kernel_rfl) (fun _ _ _ h => h) (Or.inr ⟨by rfl, rfl⟩) (by assumption) ?_
          (try simp only [Act.put, List.setIfInBounds_toArray, List.set_cons_zero, List.set_cons_succ])
          refine wpAnyH_take (i := 11) (oi := { dst := some 21, op := Op.move (Operand.tmp 3), type := 3, pos := "l03_entry.go:8", after := #[{ on := 9, ground := Ground.guard }], guard := some (9, true) }) (v := undef) rfl (by kernel_rfl) (by kernel_rfl) (by kernel_rfl) (fun _ _ _ h => h) (Or.inr ⟨by rfl, rfl⟩) (by assumption) ?_
          (try simp only [Act.put, List.setIfInBounds_toArray, List.set_cons_zero, List.set_cons_succ])
          refine wpAnyH_take (i := 12) (oi := { dst := some 22, op := Op.binOp BinOp.sub 3 (Operand.tmp 21) (Operand.const (Value.int IntKind.i64 1)) 3, type := 3, pos := "l03_entry.go:8", after := #[{ on := 11, ground := Ground.data }, { on := 9, ground := Ground.guard }], guard := some (9, true) }) (v := undef) rfl (by kernel_rfl) (by kernel_rfl) (by kernel_rfl) (fun _ _ _ h => h) (Or.inr ⟨by rfl, rfl⟩) (by assumption) ?_
          (try simp only [Act.put, List.setIfInBounds_toArray, List.set_cons_zero, List.set_cons_succ])
          refine wpAnyH_take (i := 13) (oi := { dst := some 23, op := Op.indexAddr 61 (Operand.tmp 20) (Operand.tmp 22), type := 0, pos := "l03_entry.go:8", after := #[{ on := 10, ground := Ground.data }, { on := 12, ground := Ground.data }, { on := 9, ground := Ground.guard }], guard := some (9, true) }) (v := undef) rfl (by kernel_rfl) (by kernel_rfl) (by kernel_rfl) (fun _ _ _ h => h) (Or.inr ⟨by rfl, rfl⟩) (by assumption) ?_
          (try simp only [Act.put, List.setIfInBounds_toArray, List.set_cons_zero, List.set_cons_succ])
          refine wpAnyH_take (i := 14) (oi := { dst := some 24, op := Op.load 9 (Operand.tmp 23), type := 9, pos := "l03_entry.go:8", after := #[{ on := 13, ground := Ground.data }, { on := 9, ground := Ground.guard }], guard := some (9, true) }) (v := undef) rfl (by kernel_rfl) (by kernel_rfl) (by kernel_rfl) (fun _ _ _ h => h) (Or.inr ⟨by rfl, rfl⟩) (by assumption) ?_
          (try simp only [Act.put, List.setIfInBounds_toArray, List.set_cons_zero, List.set_cons_succ])
          refine wpAnyH_take (i := 15) (oi := { dst := some 25, op := Op.call { callee := Callee.value (Operand.func 134), args := #[Operand.tmp 24], argTypes := #[9] }, type := 9, pos := "l03_entry.go:8", after := #[{ on := 14, ground := Ground.data }, { on := 9, ground := Ground.chain }, { on := 9, ground := Ground.guard }], guard := some (9, true) }) (v := undef) rfl (by kernel_rfl) (by kernel_rfl) (by kernel_rfl) (fun _ _ _ h => h) (Or.inr ⟨by rfl, rfl⟩) (by assumption) ?_
          (try simp only [Act.put, List.setIfInBounds_toArray, List.set_cons_zero, List.set_cons_succ])
          refine wpAnyH_take (i := 16) (oi := { dst := some 26, op := Op.move (Operand.tmp 0), type := 61, pos := "l03_entry.go:8", after := #[{ on := 9, ground := Ground.guard }], guard := some (9, true) }) (v := undef) rfl (by kernel_rfl) (by kernel_rfl) (by kernel_rfl) (fun _ _ _ h => h) (Or.inr ⟨by rfl, rfl⟩) (by assumption) ?_
          (try simp only [Act.put, List.setIfInBounds_toArray, List.set_cons_zero, List.set_cons_succ])
          refine wpAnyH_take (i := 17) (oi := { dst := some 27, op := Op.move (Operand.tmp 3), type := 3, pos := "l03_entry.go:8", after := #[{ on := 9, ground := Ground.guard }], guard := some (9, true) }) (v := undef) rfl (by kernel_rfl) (by kernel_rfl) (by kernel_rfl) (fun _ _ _ h => h) (Or.inr ⟨by rfl, rfl⟩) (by assumption) ?_
          (try simp only [Act.put, List.setIfInBounds_toArray, List.set_cons_zero, List.set_cons_succ])
          refine wpAnyH_take (i := 18) (oi := { dst := some 28, op := Op.indexAddr 61 (Operand.tmp 26) (Operand.tmp 27), type := 0, pos := "l03_entry.go:8", after := #[{ on := 16, ground := Ground.data }, { on := 17, ground := Ground.data }, { on := 9, ground := Ground.guard }], guard := some (9, true) }) (v := undef) rfl (by kernel_rfl) (by kernel_rfl) (by kernel_rfl) (fun _ _ _ h => h) (Or.inr ⟨by rfl, rfl⟩) (by assumption) ?_
          (try simp only [Act.put, List.setIfInBounds_toArray, List.set_cons_zero, List.set_cons_succ])
          refine wpAnyH_take (i := 19) (oi := { dst := some 29, op := Op.load 9 (Operand.tmp 28), type := 9, pos := "l03_entry.go:8", after := #[{ on := 18, ground := Ground.data }, { on := 9, ground := Ground.guard }], guard := some (9, true) }) (v := undef) rfl (by kernel_rfl) (by kernel_rfl) (by kernel_rfl) (fun _ _ _ h => h) (Or.inr ⟨by rfl, rfl⟩) (by assumption) ?_
          (try simp only [Act.put, List.setIfInBounds_toArray, List.set_cons_zero, List.set_cons_succ])
          refine wpAnyH_take (i := 20) (oi := { dst := some 30, op := Op.call { callee := Callee.value (Operand.func 134), args := #[Operand.tmp 29], argTypes := #[9] }, type := 9, pos := "l03_entry.go:8", after := #[{ on := 19, ground := Ground.data }, { on := 15, ground := Ground.chain }, { on := 9, ground := Ground.guard }], guard := some (9, true) }) (v := undef) rfl (by kernel_rfl) (by kernel_rfl) (by kernel_rfl) (fun _ _ _ h => h) (Or.inr ⟨by rfl, rfl⟩) (by assumption) ?_
          (try simp only [Act.put, List.setIfInBounds_toArray, List.set_cons_zero, List.set_cons_succ])
          refine wpAnyH_take (i := 21) (oi := { dst := some 31, op := Op.binOp BinOp.geq 9 (Operand.tmp 25) (Operand.tmp 30) 9, type := 4, pos := "l03_entry.go:8", after := #[{ on := 15, ground := Ground.data }, { on := 20, ground := Ground.data }, { on := 9, ground := Ground.guard }], guard := some (9, true) }) (v := undef) rfl (by kernel_rfl) (by kernel_rfl) (by kernel_rfl) (fun _ _ _ h => h) (Or.inr ⟨by rfl, rfl⟩) (by assumption) ?_
          (try simp only [Act.put, List.setIfInBounds_toArray, List.set_cons_zero, List.set_cons_succ])
          refine wpAnyH_take (i := 22) (oi := { dst := some 32, op := Op.pick (Operand.tmp 19) (Operand.tmp 31) (Operand.const (Value.bool false)), type := 4, pos := "l03_entry.go:8", after := #[{ on := 9, ground := Ground.data }, { on := 21, ground := Ground.data }, { on := 6, ground := Ground.guard }], guard := some (6, false) }) (v := undef) rfl (by kernel_rfl) (by kernel_rfl) (by kernel_rfl) (fun _ _ _ h => h) (Or.inr ⟨by rfl, rfl⟩) (by assumption) ?_
          (try simp only [Act.put, List.setIfInBounds_toArray, List.set_cons_zero, List.set_cons_succ])
          refine wpAnyH_take (i := 23) (oi := { dst := some 33, op := Op.pick (Operand.tmp 16) (Operand.const (Value.bool true)) (Operand.tmp 32), type := 4, pos := "l03_entry.go:8", after := #[{ on := 6, ground := Ground.data }, { on := 22, ground := Ground.data }], guard := none }) (v := ?_) rfl (by kernel_rfl) (by kernel_rfl) (by kernel_rfl) (fun _ _ _ h => h) (Or.inl ⟨by rfl, ?_⟩) (by assumption) ?_
          rotate_left
          · intro w hSw; (try dsimp only at hSw); go_simp; (try with_reducible rfl)
          (try simp only [Act.put, List.setIfInBounds_toArray, List.set_cons_zero, List.set_cons_succ])
          refine wpAnyH_done (by kernel_rfl) ?_ _
          go_wp2
          go_ret
          exact ⟨ret_bool HB'.out.symm, by assumption⟩
        · have HT' := Lib.hid (HT.out hv)
          rw [hv] at H51
          go_wp2_with fail
          refine wp_region_held_drew (S := (fun W => Below w.heap.size w W ∧ W.cell? ⟨b, off, none⟩ = some (.string X))) (by kernel_rfl) ?_ (fun hHeld => ?_)
          · (try dsimp only)
            exact SK.out _ (by assumption)
          refine wpAnyH_take (i := 0) (oi := { dst := some 10, op := Op.move (Operand.tmp 0), type := 61, pos := "l03_entry.go:8", after := #[], guard := none }) (v := ?_) rfl (by kernel_rfl) (by kernel_rfl) (by kernel_rfl) (fun _ _ _ h => h) (Or.inl ⟨by rfl, ?_⟩) (by assumption) ?_
          rotate_left
          · intro w hSw; (try dsimp only at hSw); go_simp; (try with_reducible rfl)
          (try simp only [Act.put, List.setIfInBounds_toArray, List.set_cons_zero, List.set_cons_succ])
          refine wpAnyH_take (i := 1) (oi := { dst := some 11, op := Op.move (Operand.tmp 3), type := 3, pos := "l03_entry.go:8", after := #[], guard := none }) (v := ?_) rfl (by kernel_rfl) (by kernel_rfl) (by kernel_rfl) (fun _ _ _ h => h) (Or.inl ⟨by rfl, ?_⟩) (by assumption) ?_
          rotate_left
          · intro w hSw; (try dsimp only at hSw); go_simp; (try with_reducible rfl)
          (try simp only [Act.put, List.setIfInBounds_toArray, List.set_cons_zero, List.set_cons_succ])
          refine wpAnyH_take (i := 2) (oi := { dst := some 12, op := Op.indexAddr 61 (Operand.tmp 10) (Operand.tmp 11), type := 0, pos := "l03_entry.go:8", after := #[{ on := 0, ground := Ground.data }, { on := 1, ground := Ground.data }], guard := none }) (v := ?_) rfl (by kernel_rfl) (by kernel_rfl) (by kernel_rfl) (fun _ _ _ h => h) (Or.inl ⟨by rfl, ?_⟩) (by assumption) ?_
          rotate_left
          · intro w hSw; (try dsimp only at hSw); go_simp; (try with_reducible rfl)
          (try simp only [Act.put, List.setIfInBounds_toArray, List.set_cons_zero, List.set_cons_succ])
          refine wpAnyH_take (i := 3) (oi := { dst := some 13, op := Op.load 9 (Operand.tmp 12), type := 9, pos := "l03_entry.go:8", after := #[{ on := 2, ground := Ground.data }], guard := none }) (v := ?_) rfl (by kernel_rfl) (by kernel_rfl) (by kernel_rfl) (fun _ _ _ h => h) (Or.inl ⟨by rfl, ?_⟩) (by assumption) ?_
          rotate_left
          · intro w hSw; (try dsimp only at hSw); go_simp; (try with_reducible rfl)
          (try simp only [Act.put, List.setIfInBounds_toArray, List.set_cons_zero, List.set_cons_succ])
          refine wpAnyH_ready (rs := [4]) (by kernel_rfl) (by simp) ?_
          refine AllReadyH.cons (o := { dst := some 14, op := Op.call { callee := Callee.value (Operand.func 101), args := #[Operand.tmp 13], argTypes := #[9] }, type := 4, pos := "l03_entry.go:8", after := #[{ on := 3, ground := Ground.data }], guard := none }) rfl (fun K hK => ?_) AllReadyH.nil
          go_simp
          (refine (H51.out _ (by assumption)).mono ?_; rintro e w1 ⟨rfl, hb1⟩; go_wp2_with fail)
          clear hHeld
          refine hK.out _ _ ?_ (fun hHeld => ?_)
          · (try dsimp only)
            exact SK.out _ (by assumption)
          clear hK K
          (try simp only [Act.put, List.setIfInBounds_toArray, List.set_cons_zero, List.set_cons_succ])
          refine wpAnyH_take (i := 5) (oi := { dst := some 15, op := Op.unOp UnOp.not 4 (Operand.tmp 14), type := 4, pos := "l03_entry.go:8", after := #[{ on := 4, ground := Ground.data }], guard := none }) (v := ?_) rfl (by kernel_rfl) (by kernel_rfl) (by kernel_rfl) (fun _ _ _ h => h) (Or.inl ⟨by rfl, ?_⟩) (by assumption) ?_
          rotate_left
          · intro w hSw; (try dsimp only at hSw); go_simp; (try with_reducible rfl)
          (try simp only [Act.put, List.setIfInBounds_toArray, List.set_cons_zero, List.set_cons_succ])
          refine wpAnyH_take (i := 6) (oi := { dst := some 16, op := Op.move (Operand.tmp 15), type := 4, pos := "l03_entry.go:8", after := #[{ on := 5, ground := Ground.data }, { on := 4, ground := Ground.chain }], guard := none }) (v := ?_) rfl (by kernel_rfl) (by kernel_rfl) (by kernel_rfl) (fun _ _ _ h => h) (Or.inl ⟨by rfl, ?_⟩) (by assumption) ?_
          rotate_left
          · intro w hSw; (try dsimp only at hSw); go_simp; (try with_reducible rfl)
          (try simp only [Act.put, List.setIfInBounds_toArray, List.set_cons_zero, List.set_cons_succ])
          refine wpAnyH_take (i := 7) (oi := { dst := some 17, op := Op.move (Operand.tmp 3), type := 3, pos := "l03_entry.go:8", after := #[{ on := 6, ground := Ground.guard }], guard := some (6, false) }) (v := ?_) rfl (by kernel_rfl) (by kernel_rfl) (by kernel_rfl) (fun _ _ _ h => h) (Or.inl ⟨by rfl, ?_⟩) (by assumption) ?_
          rotate_left
          · intro w hSw; (try dsimp only at hSw); go_simp; (try with_reducible rfl)
          (try simp only [Act.put, List.setIfInBounds_toArray, List.set_cons_zero, List.set_cons_succ])
          refine wpAnyH_take (i := 8) (oi := { dst := some 18, op := Op.binOp BinOp.gtr 3 (Operand.tmp 17) (Operand.const (Value.int IntKind.i64 0)) 3, type := 4, pos := "l03_entry.go:8", after := #[{ on := 7, ground := Ground.data }, { on := 6, ground := Ground.guard }], guard := some (6, false) }) (v := ?_) rfl (by kernel_rfl) (by kernel_rfl) (by kernel_rfl) (fun _ _ _ h => h) (Or.inl ⟨by rfl, ?_⟩) (by assumption) ?_
          rotate_left
          · intro w hSw; (try dsimp only at hSw); go_simp; (try with_reducible rfl)
          (try simp only [Act.put, List.setIfInBounds_toArray, List.set_cons_zero, List.set_cons_succ])
          refine wpAnyH_take (i := 9) (oi := { dst := some 19, op := Op.move (Operand.tmp 18), type := 4, pos := "l03_entry.go:8", after := #[{ on := 8, ground := Ground.data }, { on := 6, ground := Ground.chain }, { on := 6, ground := Ground.guard }], guard := some (6, false) }) (v := ?_) rfl (by kernel_rfl) (by kernel_rfl) (by kernel_rfl) (fun _ _ _ h => h) (Or.inl ⟨by rfl, ?_⟩) (by assumption) ?_
          rotate_left
          · intro w hSw; (try dsimp only at hSw); go_simp; (try with_reducible rfl)
          (try simp only [Act.put, List.setIfInBounds_toArray, List.set_cons_zero, List.set_cons_succ])
          refine wpAnyH_take (i := 10) (oi := { dst := some 20, op := Op.move (Operand.tmp 0), type := 61, pos := "l03_entry.go:8", after := #[{ on := 9, ground := Ground.guard }], guard := some (9, true) }) (v := undef) rfl (by kernel_rfl) (by kernel_rfl) (by kernel_rfl) (fun _ _ _ h => h) (Or.inr ⟨by rfl, rfl⟩) (by assumption) ?_
          (try simp only [Act.put, List.setIfInBounds_toArray, List.set_cons_zero, List.set_cons_succ])
          refine wpAnyH_take (i := 11) (oi := { dst := some 21, op := Op.move (Operand.tmp 3), type := 3, pos := "l03_entry.go:8", after := #[{ on := 9, ground := Ground.guard }], guard := some (9, true) }) (v := undef) rfl (by kernel_rfl) (by kernel_rfl) (by kernel_rfl) (fun _ _ _ h => h) (Or.inr ⟨by rfl, rfl⟩) (by assumption) ?_
          (try simp only [Act.put, List.setIfInBounds_toArray, List.set_cons_zero, List.set_cons_succ])
          refine wpAnyH_take (i := 12) (oi := { dst := some 22, op := Op.binOp BinOp.sub 3 (Operand.tmp 21) (Operand.const (Value.int IntKind.i64 1)) 3, type := 3, pos := "l03_entry.go:8", after := #[{ on := 11, ground := Ground.data }, { on := 9, ground := Ground.guard }], guard := some (9, true) }) (v := undef) rfl (by kernel_rfl) (by kernel_rfl) (by kernel_rfl) (fun _ _ _ h => h) (Or.inr ⟨by rfl, rfl⟩) (by assumption) ?_
          (try simp only [Act.put, List.setIfInBounds_toArray, List.set_cons_zero, List.set_cons_succ])
          refine wpAnyH_take (i := 13) (oi := { dst := some 23, op := Op.indexAddr 61 (Operand.tmp 20) (Operand.tmp 22), type := 0, pos := "l03_entry.go:8", after := #[{ on := 10, ground := Ground.data }, { on := 12, ground := Ground.data }, { on := 9, ground := Ground.guard }], guard := some (9, true) }) (v := undef) rfl (by kernel_rfl) (by kernel_rfl) (by kernel_rfl) (fun _ _ _ h => h) (Or.inr ⟨by rfl, rfl⟩) (by assumption) ?_
          (try simp only [Act.put, List.setIfInBounds_toArray, List.set_cons_zero, List.set_cons_succ])
          refine wpAnyH_take (i := 14) (oi := { dst := some 24, op := Op.load 9 (Operand.tmp 23), type := 9, pos := "l03_entry.go:8", after := #[{ on := 13, ground := Ground.data }, { on := 9, ground := Ground.guard }], guard := some (9, true) }) (v := undef) rfl (by kernel_rfl) (by kernel_rfl) (by kernel_rfl) (fun _ _ _ h => h) (Or.inr ⟨by rfl, rfl⟩) (by assumption) ?_
          (try simp only [Act.put, List.setIfInBounds_toArray, List.set_cons_zero, List.set_cons_succ])
          refine wpAnyH_take (i := 15) (oi := { dst := some 25, op := Op.call { callee := Callee.value (Operand.func 134), args := #[Operand.tmp 24], argTypes := #[9] }, type := 9, pos := "l03_entry.go:8", after := #[{ on := 14, ground := Ground.data }, { on := 9, ground := Ground.chain }, { on := 9, ground := Ground.guard }], guard := some (9, true) }) (v := undef) rfl (by kernel_rfl) (by kernel_rfl) (by kernel_rfl) (fun _ _ _ h => h) (Or.inr ⟨by rfl, rfl⟩) (by assumption) ?_
          (try simp only [Act.put, List.setIfInBounds_toArray, List.set_cons_zero, List.set_cons_succ])
          refine wpAnyH_take (i := 16) (oi := { dst := some 26, op := Op.move (Operand.tmp 0), type := 61, pos := "l03_entry.go:8", after := #[{ on := 9, ground := Ground.guard }], guard := some (9, true) }) (v := undef) rfl (by kernel_rfl) (by kernel_rfl) (by kernel_rfl) (fun _ _ _ h => h) (Or.inr ⟨by rfl, rfl⟩) (by assumption) ?_
          (try simp only [Act.put, List.setIfInBounds_toArray, List.set_cons_zero, List.set_cons_succ])
          refine wpAnyH_take (i := 17) (oi := { dst := some 27, op := Op.move (Operand.tmp 3), type := 3, pos := "l03_entry.go:8", after := #[{ on := 9, ground := Ground.guard }], guard := some (9, true) }) (v := undef) rfl (by kernel_rfl) (by kernel_rfl) (by kernel_rfl) (fun _ _ _ h => h) (Or.inr ⟨by rfl, rfl⟩) (by assumption) ?_
          (try simp only [Act.put, List.setIfInBounds_toArray, List.set_cons_zero, List.set_cons_succ])
          refine wpAnyH_take (i := 18) (oi := { dst := some 28, op := Op.indexAddr 61 (Operand.tmp 26) (Operand.tmp 27), type := 0, pos := "l03_entry.go:8", after := #[{ on := 16, ground := Ground.data }, { on := 17, ground := Ground.data }, { on := 9, ground := Ground.guard }], guard := some (9, true) }) (v := undef) rfl (by kernel_rfl) (by kernel_rfl) (by kernel_rfl) (fun _ _ _ h => h) (Or.inr ⟨by rfl, rfl⟩) (by assumption) ?_
          (try simp only [Act.put, List.setIfInBounds_toArray, List.set_cons_zero, List.set_cons_succ])
          refine wpAnyH_take (i := 19) (oi := { dst := some 29, op := Op.load 9 (Operand.tmp 28), type := 9, pos := "l03_entry.go:8", after := #[{ on := 18, ground := Ground.data }, { on := 9, ground := Ground.guard }], guard := some (9, true) }) (v := undef) rfl (by kernel_rfl) (by kernel_rfl) (by kernel_rfl) (fun _ _ _ h => h) (Or.inr ⟨by rfl, rfl⟩) (by assumption) ?_
          (try simp only [Act.put, List.setIfInBounds_toArray, List.set_cons_zero, List.set_cons_succ])
          refine wpAnyH_take (i := 20) (oi := { dst := some 30, op := Op.call { callee := Callee.value (Operand.func 134), args := #[Operand.tmp 29], argTypes := #[9] }, type := 9, pos := "l03_entry.go:8", after := #[{ on := 19, ground := Ground.data }, { on := 15, ground := Ground.chain }, { on := 9, ground := Ground.guard }], guard := some (9, true) }) (v := undef) rfl (by kernel_rfl) (by kernel_rfl) (by kernel_rfl) (fun _ _ _ h => h) (Or.inr ⟨by rfl, rfl⟩) (by assumption) ?_
          (try simp only [Act.put, List.setIfInBounds_toArray, List.set_cons_zero, List.set_cons_succ])
          refine wpAnyH_take (i := 21) (oi := { dst := some 31, op := Op.binOp BinOp.geq 9 (Operand.tmp 25) (Operand.tmp 30) 9, type := 4, pos := "l03_entry.go:8", after := #[{ on := 15, ground := Ground.data }, { on := 20, ground := Ground.data }, { on := 9, ground := Ground.guard }], guard := some (9, true) }) (v := undef) rfl (by kernel_rfl) (by kernel_rfl) (by kernel_rfl) (fun _ _ _ h => h) (Or.inr ⟨by rfl, rfl⟩) (by assumption) ?_
          (try simp only [Act.put, List.setIfInBounds_toArray, List.set_cons_zero, List.set_cons_succ])
          refine wpAnyH_take (i := 22) (oi := { dst := some 32, op := Op.pick (Operand.tmp 19) (Operand.tmp 31) (Operand.const (Value.bool false)), type := 4, pos := "l03_entry.go:8", after := #[{ on := 9, ground := Ground.data }, { on := 21, ground := Ground.data }, { on := 6, ground := Ground.guard }], guard := some (6, false) }) (v := ?_) rfl (by kernel_rfl) (by kernel_rfl) (by kernel_rfl) (fun _ _ _ h => h) (Or.inl ⟨by rfl, ?_⟩) (by assumption) ?_
          rotate_left
          · intro w hSw; (try dsimp only at hSw); go_simp; (try with_reducible rfl)
          (try simp only [Act.put, List.setIfInBounds_toArray, List.set_cons_zero, List.set_cons_succ])
          refine wpAnyH_take (i := 23) (oi := { dst := some 33, op := Op.pick (Operand.tmp 16) (Operand.const (Value.bool true)) (Operand.tmp 32), type := 4, pos := "l03_entry.go:8", after := #[{ on := 6, ground := Ground.data }, { on := 22, ground := Ground.data }], guard := none }) (v := ?_) rfl (by kernel_rfl) (by kernel_rfl) (by kernel_rfl) (fun _ _ _ h => h) (Or.inl ⟨by rfl, ?_⟩) (by assumption) ?_
          rotate_left
          · intro w hSw; (try dsimp only at hSw); go_simp; (try with_reducible rfl)
          (try simp only [Act.put, List.setIfInBounds_toArray, List.set_cons_zero, List.set_cons_succ])
          refine wpAnyH_done (by kernel_rfl) ?_ _
          go_wp2
          go_roundw
          case rel => exact ⟨1, by omega, by go_num, HT'.out, fun j _ h => by omega, by assumption⟩
          case measure => simp [intOf]; omega
      · have hm0 : m < l.length := by omega
        obtain ⟨b', off', e, _, hd2⟩ := HD.out.at hm0
        have g3 : (0 : Int) < (m : Int) + 1 := by omega
        have g4 : (0 : Int) ≤ (m : Int) := by omega
        have g5 : (m : Int) < (l.length : Int) := by omega
        have g6 : (m : Int) + 1 < (l.length : Int) := by omega
        have g7 : (0 : Int) ≤ (m : Int) + 1 := by omega
        cases e
        have hz2 := HF.out.max hm0
        have HInc : Hid (normLt l[m] l[m + 1] = false → valsB l = false) := Lib.hid (fun h => valsB_inc hlt h)
        have HN : Hid (normLt l[m] l[m + 1] = true → ∀ j (h : j + 1 < l.length), j + 1 < m + 1 + 1 → normLt l[j] l[j + 1] = true) := Lib.hid (fun hn j h hj => by
          by_cases e : j = m
          · subst e; exact hn
          · exact Hj.out j h (by omega))
        have HLt : Hid (∀ x y, normLt x y = Op.bytesLess (normS x).toList (normS y).toList) := Lib.hid (fun _ _ => rfl)
        generalize hx : l[m + 1] = X at *
        generalize hy : l[m] = Y at *
        clear hx hy
        have H51 : Hid (∀ W, Below w.heap.size w W → Calls Try.prog 101 #[.string X] W fun e w' => e = .returned (.bool (valB X)) ∧ Below w.heap.size w w') :=
          Lib.hid (fun W h => (l02Value_any X W hz).mono fun _ _ g => ⟨g.1, h.trans (g.2.mono h.size)⟩)
        cases hv : valB X
        · have HB' := Lib.hid (HBad.out hv)
          rw [hv] at H51
          have SK : Hid (∀ W : World, Below w.heap.size w W → (Below w.heap.size w W ∧ W.cell? ⟨b, off + (m + 1), none⟩ = some (.string X))) :=
            Lib.hid (fun W h => ⟨h, (h.cell (p := ⟨b, _, none⟩) hw0).trans hd1⟩)
          clear hd1 hd2
          go_wp2_with fail
          refine wp_region_held_drew (S := (fun W => Below w.heap.size w W ∧ W.cell? ⟨b, off + (m + 1), none⟩ = some (.string X))) (by kernel_rfl) ?_ (fun hHeld => ?_)
          · (try dsimp only)
            exact SK.out _ (by assumption)
          refine wpAnyH_take (i := 0) (oi := { dst := some 10, op := Op.move (Operand.tmp 0), type := 61, pos := "l03_entry.go:8", after := #[], guard := none }) (v := ?_) rfl (by kernel_rfl) (by kernel_rfl) (by kernel_rfl) (fun _ _ _ h => h) (Or.inl ⟨by rfl, ?_⟩) (by assumption) ?_
          rotate_left
          · intro w hSw; (try dsimp only at hSw); go_simp; (try with_reducible rfl)
          (try simp only [Act.put, List.setIfInBounds_toArray, List.set_cons_zero, List.set_cons_succ])
          refine wpAnyH_take (i := 1) (oi := { dst := some 11, op := Op.move (Operand.tmp 3), type := 3, pos := "l03_entry.go:8", after := #[], guard := none }) (v := ?_) rfl (by kernel_rfl) (by kernel_rfl) (by kernel_rfl) (fun _ _ _ h => h) (Or.inl ⟨by rfl, ?_⟩) (by assumption) ?_
          rotate_left
          · intro w hSw; (try dsimp only at hSw); go_simp; (try with_reducible rfl)
          (try simp only [Act.put, List.setIfInBounds_toArray, List.set_cons_zero, List.set_cons_succ])
          refine wpAnyH_take (i := 2) (oi := { dst := some 12, op := Op.indexAddr 61 (Operand.tmp 10) (Operand.tmp 11), type := 0, pos := "l03_entry.go:8", after := #[{ on := 0, ground := Ground.data }, { on := 1, ground := Ground.data }], guard := none }) (v := ?_) rfl (by kernel_rfl) (by kernel_rfl) (by kernel_rfl) (fun _ _ _ h => h) (Or.inl ⟨by rfl, ?_⟩) (by assumption) ?_
          rotate_left
          · intro w hSw; (try dsimp only at hSw); go_simp; (try with_reducible rfl)
          (try simp only [Act.put, List.setIfInBounds_toArray, List.set_cons_zero, List.set_cons_succ])
          refine wpAnyH_take (i := 3) (oi := { dst := some 13, op := Op.load 9 (Operand.tmp 12), type := 9, pos := "l03_entry.go:8", after := #[{ on := 2, ground := Ground.data }], guard := none }) (v := ?_) rfl (by kernel_rfl) (by kernel_rfl) (by kernel_rfl) (fun _ _ _ h => h) (Or.inl ⟨by rfl, ?_⟩) (by assumption) ?_
          rotate_left
          · intro w hSw; (try dsimp only at hSw); go_simp; (try with_reducible rfl)
          (try simp only [Act.put, List.setIfInBounds_toArray, List.set_cons_zero, List.set_cons_succ])
          refine wpAnyH_ready (rs := [4]) (by kernel_rfl) (by simp) ?_
          refine AllReadyH.cons (o := { dst := some 14, op := Op.call { callee := Callee.value (Operand.func 101), args := #[Operand.tmp 13], argTypes := #[9] }, type := 4, pos := "l03_entry.go:8", after := #[{ on := 3, ground := Ground.data }], guard := none }) rfl (fun K hK => ?_) AllReadyH.nil
          go_simp
          (refine (H51.out _ (by assumption)).mono ?_; rintro e w1 ⟨rfl, hb1⟩; go_wp2_with fail)
          clear hHeld
          refine hK.out _ _ ?_ (fun hHeld => ?_)
          · (try dsimp only)
            exact SK.out _ (by assumption)
          clear hK K
          (try simp only [Act.put, List.setIfInBounds_toArray, List.set_cons_zero, List.set_cons_succ])
          refine wpAnyH_take (i := 5) (oi := { dst := some 15, op := Op.unOp UnOp.not 4 (Operand.tmp 14), type := 4, pos := "l03_entry.go:8", after := #[{ on := 4, ground := Ground.data }], guard := none }) (v := ?_) rfl (by kernel_rfl) (by kernel_rfl) (by kernel_rfl) (fun _ _ _ h => h) (Or.inl ⟨by rfl, ?_⟩) (by assumption) ?_
          rotate_left
          · intro w hSw; (try dsimp only at hSw); go_simp; (try with_reducible rfl)
          (try simp only [Act.put, List.setIfInBounds_toArray, List.set_cons_zero, List.set_cons_succ])
          refine wpAnyH_take (i := 6) (oi := { dst := some 16, op := Op.move (Operand.tmp 15), type := 4, pos := "l03_entry.go:8", after := #[{ on := 5, ground := Ground.data }, { on := 4, ground := Ground.chain }], guard := none }) (v := ?_) rfl (by kernel_rfl) (by kernel_rfl) (by kernel_rfl) (fun _ _ _ h => h) (Or.inl ⟨by rfl, ?_⟩) (by assumption) ?_
          rotate_left
          · intro w hSw; (try dsimp only at hSw); go_simp; (try with_reducible rfl)
          (try simp only [Act.put, List.setIfInBounds_toArray, List.set_cons_zero, List.set_cons_succ])
          refine wpAnyH_take (i := 7) (oi := { dst := some 17, op := Op.move (Operand.tmp 3), type := 3, pos := "l03_entry.go:8", after := #[{ on := 6, ground := Ground.guard }], guard := some (6, false) }) (v := undef) rfl (by kernel_rfl) (by kernel_rfl) (by kernel_rfl) (fun _ _ _ h => h) (Or.inr ⟨by rfl, rfl⟩) (by assumption) ?_
          (try simp only [Act.put, List.setIfInBounds_toArray, List.set_cons_zero, List.set_cons_succ])
          refine wpAnyH_take (i := 8) (oi := { dst := some 18, op := Op.binOp BinOp.gtr 3 (Operand.tmp 17) (Operand.const (Value.int IntKind.i64 0)) 3, type := 4, pos := "l03_entry.go:8", after := #[{ on := 7, ground := Ground.data }, { on := 6, ground := Ground.guard }], guard := some (6, false) }) (v := undef) rfl (by kernel_rfl) (by kernel_rfl) (by kernel_rfl) (fun _ _ _ h => h) (Or.inr ⟨by rfl, rfl⟩) (by assumption) ?_
          (try simp only [Act.put, List.setIfInBounds_toArray, List.set_cons_zero, List.set_cons_succ])
          refine wpAnyH_take (i := 9) (oi := { dst := some 19, op := Op.move (Operand.tmp 18), type := 4, pos := "l03_entry.go:8", after := #[{ on := 8, ground := Ground.data }, { on := 6, ground := Ground.chain }, { on := 6, ground := Ground.guard }], guard := some (6, false) }) (v := undef) rfl (by kernel_rfl) (by kernel_rfl) (by kernel_rfl) (fun _ _ _ h => h) (Or.inr ⟨by rfl, rfl⟩) (by assumption) ?_
          (try simp only [Act.put, List.setIfInBounds_toArray, List.set_cons_zero, List.set_cons_succ])
          refine wpAnyH_take (i := 10) (oi := { dst := some 20, op := Op.move (Operand.tmp 0), type := 61, pos := "l03_entry.go:8", after := #[{ on := 9, ground := Ground.guard }], guard := some (9, true) }) (v := undef) rfl (by kernel_rfl) (by kernel_rfl) (by kernel_rfl) (fun _ _ _ h => h) (Or.inr ⟨by rfl, rfl⟩) (by assumption) ?_
          (try simp only [Act.put, List.setIfInBounds_toArray, List.set_cons_zero, List.set_cons_succ])
          refine wpAnyH_take (i := 11) (oi := { dst := some 21, op := Op.move (Operand.tmp 3), type := 3, pos := "l03_entry.go:8", after := #[{ on := 9, ground := Ground.guard }], guard := some (9, true) }) (v := undef) rfl (by kernel_rfl) (by kernel_rfl) (by kernel_rfl) (fun _ _ _ h => h) (Or.inr ⟨by rfl, rfl⟩) (by assumption) ?_
          (try simp only [Act.put, List.setIfInBounds_toArray, List.set_cons_zero, List.set_cons_succ])
          refine wpAnyH_take (i := 12) (oi := { dst := some 22, op := Op.binOp BinOp.sub 3 (Operand.tmp 21) (Operand.const (Value.int IntKind.i64 1)) 3, type := 3, pos := "l03_entry.go:8", after := #[{ on := 11, ground := Ground.data }, { on := 9, ground := Ground.guard }], guard := some (9, true) }) (v := undef) rfl (by kernel_rfl) (by kernel_rfl) (by kernel_rfl) (fun _ _ _ h => h) (Or.inr ⟨by rfl, rfl⟩) (by assumption) ?_
          (try simp only [Act.put, List.setIfInBounds_toArray, List.set_cons_zero, List.set_cons_succ])
          refine wpAnyH_take (i := 13) (oi := { dst := some 23, op := Op.indexAddr 61 (Operand.tmp 20) (Operand.tmp 22), type := 0, pos := "l03_entry.go:8", after := #[{ on := 10, ground := Ground.data }, { on := 12, ground := Ground.data }, { on := 9, ground := Ground.guard }], guard := some (9, true) }) (v := undef) rfl (by kernel_rfl) (by kernel_rfl) (by kernel_rfl) (fun _ _ _ h => h) (Or.inr ⟨by rfl, rfl⟩) (by assumption) ?_
          (try simp only [Act.put, List.setIfInBounds_toArray, List.set_cons_zero, List.set_cons_succ])
          refine wpAnyH_take (i := 14) (oi := { dst := some 24, op := Op.load 9 (Operand.tmp 23), type := 9, pos := "l03_entry.go:8", after := #[{ on := 13, ground := Ground.data }, { on := 9, ground := Ground.guard }], guard := some (9, true) }) (v := undef) rfl (by kernel_rfl) (by kernel_rfl) (by kernel_rfl) (fun _ _ _ h => h) (Or.inr ⟨by rfl, rfl⟩) (by assumption) ?_
          (try simp only [Act.put, List.setIfInBounds_toArray, List.set_cons_zero, List.set_cons_succ])
          refine wpAnyH_take (i := 15) (oi := { dst := some 25, op := Op.call { callee := Callee.value (Operand.func 134), args := #[Operand.tmp 24], argTypes := #[9] }, type := 9, pos := "l03_entry.go:8", after := #[{ on := 14, ground := Ground.data }, { on := 9, ground := Ground.chain }, { on := 9, ground := Ground.guard }], guard := some (9, true) }) (v := undef) rfl (by kernel_rfl) (by kernel_rfl) (by kernel_rfl) (fun _ _ _ h => h) (Or.inr ⟨by rfl, rfl⟩) (by assumption) ?_
          (try simp only [Act.put, List.setIfInBounds_toArray, List.set_cons_zero, List.set_cons_succ])
          refine wpAnyH_take (i := 16) (oi := { dst := some 26, op := Op.move (Operand.tmp 0), type := 61, pos := "l03_entry.go:8", after := #[{ on := 9, ground := Ground.guard }], guard := some (9, true) }) (v := undef) rfl (by kernel_rfl) (by kernel_rfl) (by kernel_rfl) (fun _ _ _ h => h) (Or.inr ⟨by rfl, rfl⟩) (by assumption) ?_
          (try simp only [Act.put, List.setIfInBounds_toArray, List.set_cons_zero, List.set_cons_succ])
          refine wpAnyH_take (i := 17) (oi := { dst := some 27, op := Op.move (Operand.tmp 3), type := 3, pos := "l03_entry.go:8", after := #[{ on := 9, ground := Ground.guard }], guard := some (9, true) }) (v := undef) rfl (by kernel_rfl) (by kernel_rfl) (by kernel_rfl) (fun _ _ _ h => h) (Or.inr ⟨by rfl, rfl⟩) (by assumption) ?_
          (try simp only [Act.put, List.setIfInBounds_toArray, List.set_cons_zero, List.set_cons_succ])
          refine wpAnyH_take (i := 18) (oi := { dst := some 28, op := Op.indexAddr 61 (Operand.tmp 26) (Operand.tmp 27), type := 0, pos := "l03_entry.go:8", after := #[{ on := 16, ground := Ground.data }, { on := 17, ground := Ground.data }, { on := 9, ground := Ground.guard }], guard := some (9, true) }) (v := undef) rfl (by kernel_rfl) (by kernel_rfl) (by kernel_rfl) (fun _ _ _ h => h) (Or.inr ⟨by rfl, rfl⟩) (by assumption) ?_
          (try simp only [Act.put, List.setIfInBounds_toArray, List.set_cons_zero, List.set_cons_succ])
          refine wpAnyH_take (i := 19) (oi := { dst := some 29, op := Op.load 9 (Operand.tmp 28), type := 9, pos := "l03_entry.go:8", after := #[{ on := 18, ground := Ground.data }, { on := 9, ground := Ground.guard }], guard := some (9, true) }) (v := undef) rfl (by kernel_rfl) (by kernel_rfl) (by kernel_rfl) (fun _ _ _ h => h) (Or.inr ⟨by rfl, rfl⟩) (by assumption) ?_
          (try simp only [Act.put, List.setIfInBounds_toArray, List.set_cons_zero, List.set_cons_succ])
          refine wpAnyH_take (i := 20) (oi := { dst := some 30, op := Op.call { callee := Callee.value (Operand.func 134), args := #[Operand.tmp 29], argTypes := #[9] }, type := 9, pos := "l03_entry.go:8", after := #[{ on := 19, ground := Ground.data }, { on := 15, ground := Ground.chain }, { on := 9, ground := Ground.guard }], guard := some (9, true) }) (v := undef) rfl (by kernel_rfl) (by kernel_rfl) (by kernel_rfl) (fun _ _ _ h => h) (Or.inr ⟨by rfl, rfl⟩) (by assumption) ?_
          (try simp only [Act.put, List.setIfInBounds_toArray, List.set_cons_zero, List.set_cons_succ])
          refine wpAnyH_take (i := 21) (oi := { dst := some 31, op := Op.binOp BinOp.geq 9 (Operand.tmp 25) (Operand.tmp 30) 9, type := 4, pos := "l03_entry.go:8", after := #[{ on := 15, ground := Ground.data }, { on := 20, ground := Ground.data }, { on := 9, ground := Ground.guard }], guard := some (9, true) }) (v := undef) rfl (by kernel_rfl) (by kernel_rfl) (by kernel_rfl) (fun _ _ _ h => h) (Or.inr ⟨by rfl, rfl⟩) (by assumption) ?_
          (try simp only [Act.put, List.setIfInBounds_toArray, List.set_cons_zero, List.set_cons_succ])
          refine wpAnyH_take (i := 22) (oi := { dst := some 32, op := Op.pick (Operand.tmp 19) (Operand.tmp 31) (Operand.const (Value.bool false)), type := 4, pos := "l03_entry.go:8", after := #[{ on := 9, ground := Ground.data }, { on := 21, ground := Ground.data }, { on := 6, ground := Ground.guard }], guard := some (6, false) }) (v := undef) rfl (by kernel_rfl) (by kernel_rfl) (by kernel_rfl) (fun _ _ _ h => h) (Or.inr ⟨by rfl, rfl⟩) (by assumption) ?_
          (try simp only [Act.put, List.setIfInBounds_toArray, List.set_cons_zero, List.set_cons_succ])
          refine wpAnyH_take (i := 23) (oi := { dst := some 33, op := Op.pick (Operand.tmp 16) (Operand.const (Value.bool true)) (Operand.tmp 32), type := 4, pos := "l03_entry.go:8", after := #[{ on := 6, ground := Ground.data }, { on := 22, ground := Ground.data }], guard := none }) (v := ?_) rfl (by kernel_rfl) (by kernel_rfl) (by kernel_rfl) (fun _ _ _ h => h) (Or.inl ⟨by rfl, ?_⟩) (by assumption) ?_
          rotate_left
          · intro w hSw; (try dsimp only at hSw); go_simp; (try with_reducible rfl)
          (try simp only [Act.put, List.setIfInBounds_toArray, List.set_cons_zero, List.set_cons_succ])
          refine wpAnyH_done (by kernel_rfl) ?_ _
          go_wp2
          go_ret
          exact ⟨ret_bool HB'.out.symm, by assumption⟩
        · have HT' := Lib.hid (HT.out hv)
          rw [hv] at H51
          have H93 : Hid (∀ (t : ByteArray) W, t.size ≤ maxLen → Below w.heap.size w W → Calls Try.prog 134 #[.string t] W fun e w' => e = .returned (.string (normS t)) ∧ Below w.heap.size w w') :=
            Lib.hid (fun t W ht h => (SpecNorm_any t W ht).mono fun _ _ g => ⟨g.1, h.trans (g.2.mono h.size)⟩)
          have SK : Hid (∀ W : World, Below w.heap.size w W → (Below w.heap.size w W ∧ W.cell? ⟨b, off + m, none⟩ = some (.string Y) ∧ W.cell? ⟨b, off + (m + 1), none⟩ = some (.string X))) :=
            Lib.hid (fun W h => ⟨h, (h.cell (p := ⟨b, _, none⟩) hw0).trans hd2, (h.cell (p := ⟨b, _, none⟩) hw0).trans hd1⟩)
          clear hd1 hd2
          have hwr : IntKind.i64.wrap (m : Int) = (m : Int) := IntWalk.i64_in _ (by omega)
          have hwr2 : IntKind.i64.wrap ((m : Int) + 1 - 1) = (m : Int) := by rw [Int.add_sub_cancel]; exact hwr
          cases hn : normLt Y X
          · have HI' := Lib.hid (HInc.out hn)
            have hless : Op.bytesLess (normS Y).toList (normS X).toList = false := (HLt.out Y X).symm.trans hn
            go_wp2_with fail
            go_region_held3 (fun W => Below w.heap.size w W ∧ W.cell? ⟨b, off + m, none⟩ = some (.string Y) ∧ W.cell? ⟨b, off + (m + 1), none⟩ = some (.string X))
              (exact SK.out _ (by assumption))
              (first
                | (go_at_call 101; refine (H51.out _ (by assumption)).mono ?_; rintro e w1 ⟨rfl, hb1⟩)
                | (go_at_call 134; refine (H93.out _ _ (by first | exact hz2 | exact hz) (by assumption)).mono ?_; rintro e w2 ⟨rfl, hb2⟩)
                | (fail "none"))
            all_goals
              go_wp2
              go_ret
              exact ⟨ret_bool HI'.out.symm, by assumption⟩
          · have HN' := Lib.hid (HN.out hn)
            have hless : Op.bytesLess (normS Y).toList (normS X).toList = true := (HLt.out Y X).symm.trans hn
            go_wp2_with fail
            go_region_held3 (fun W => Below w.heap.size w W ∧ W.cell? ⟨b, off + m, none⟩ = some (.string Y) ∧ W.cell? ⟨b, off + (m + 1), none⟩ = some (.string X))
              (exact SK.out _ (by assumption))
              (first
                | (go_at_call 101; refine (H51.out _ (by assumption)).mono ?_; rintro e w1 ⟨rfl, hb1⟩)
                | (go_at_call 134; refine (H93.out _ _ (by first | exact hz2 | exact hz) (by assumption)).mono ?_; rintro e w2 ⟨rfl, hb2⟩)
                | (fail "none"))
            all_goals
              go_wp2
              go_roundw
              case rel => exact ⟨m + 1 + 1, by omega, by go_num, HT'.out, HN'.out, by assumption⟩
              case measure => simp [intOf]; omega
    · have e : l.take k = l := List.take_of_length_le (by omega)
      have HT := Lib.hid (valsB_all (l := l) (by rw [← e]; exact Ha.out) (fun j h => Hj.out j h (by omega)))
      clear e
      by_cases h1 : 1 ≤ l.length
      · have g1 : (1 : Int) ≤ (l.length : Int) := by omega
        by_cases h4 : l.length ≤ 4
        · have g4 : (l.length : Int) ≤ 4 := by omega
          go_wp2
          go_ret
          exact ⟨ret_bool (by rw [HT.out]; simp [h1, h4]), hbel⟩
        · have g4 : ¬ (l.length : Int) ≤ 4 := by omega
          go_wp2
          go_ret
          exact ⟨ret_bool (by rw [HT.out]; simp [h4]), hbel⟩
      · have g1 : ¬ (1 : Int) ≤ (l.length : Int) := by omega
        go_wp2
        go_ret
        exact ⟨ret_bool (by rw [HT.out]; simp [h1]), hbel⟩
end Go.Proofs.Ytglgkocjdockdaa
