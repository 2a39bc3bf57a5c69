/- Merged texts: VisibleW, Opn. -/
import Derived.Test.YtglgkocjdockdaaM1
import Derived.Test.YtglgkocjdockdaaM7
import Derived.Test.YtglgkocjdockdaaM10
import Derived.Test.YtglgkocjdockdaaM11
import Derived.Test.YtglgkocjdockdaaM3
import Derived.Test.YtglgkocjdockdaaRows
/- The law FnExactVisible: its walk. -/
namespace Go.Proofs.Ytglgkocjdockdaa
open Go.RowKit
attribute [local go_sem ↓] Go.wp_at_zero Go.wp_at_succ

set_option maxRecDepth 100000 in
set_option maxHeartbeats 4000000 in
theorem Visible_walk (v0 : Value) (d0 : List RuleT) (s1 : ByteArray) (v2 : Value) (d2 : List EntryT) (w : World) (h0 : SlAt ruleE (All w) w d0 v0) (f0 : (slE ruleE).long d0) (f1 : s1.size ≤ maxLen) (h2 : SlAt entryE (All w) w d2 v2) (f2 : (slE entryE).long d2) :
    Calls Try.prog 6 #[v0, .string s1, v2] w fun e w' => e = .returned (.bool true) ∧ Below w.heap.size w w' := by
  have HQ0 : Hid (d0.length + szL ruleE d0 ≤ 1048576 → ∀ (Y : World) (S S' : Bs) (x u : Value), SlAt ruleE S Y d0 x → SlAt ruleE S' Y d0 u → Calls Try.prog 16 #[x, u] Y fun e w' => e = .returned (.bool true) ∧ Below Y.heap.size Y w') := Lib.hid (fun z Y S S' x u h1 h2 => eqRuleS_at x u d0 Y h1 h2 z)
  have HS0 : Hid (∀ (l : Int) (W : World), Below w.heap.size w W → 0 ≤ l → l ≤ 1048576 → Calls Try.prog 12 #[v0, .int .i64 l] W fun e w' => e = .returned (.int .i64 (leftR (d0.length + szL ruleE d0) l)) ∧ Below W.heap.size W w') := Lib.hid (fun l W b p q => szRuleS_at v0 d0 l W (h0.frame (Same.of_below' b)) f0 p q)
  have HT0 : Hid (d0.length + szL ruleE d0 ≤ 1048576 → ∀ Y : World, Below w.heap.size w Y → Calls Try.prog 14 #[v0] Y fun e w' => ∃ u, e = .returned u ∧ SlOwn ruleE (Fresh Y w') w' d0 u ∧ Below Y.heap.size Y w') := Lib.hid (fun z Y b => toRuleS_at v0 d0 Y (h0.frame (Same.of_below' b)) z)
  have HQ2 : Hid (d2.length + szL entryE d2 ≤ 1048576 → ∀ (Y : World) (S S' : Bs) (x u : Value), SlAt entryE S Y d2 x → SlAt entryE S' Y d2 u → Calls Try.prog 36 #[x, u] Y fun e w' => e = .returned (.bool true) ∧ Below Y.heap.size Y w') := Lib.hid (fun z Y S S' x u h1 h2 => eqEntryS_at x u d2 Y h1 h2 z)
  have HS2 : Hid (∀ (l : Int) (W : World), Below w.heap.size w W → 0 ≤ l → l ≤ 1048576 → Calls Try.prog 32 #[v2, .int .i64 l] W fun e w' => e = .returned (.int .i64 (leftR (d2.length + szL entryE d2) l)) ∧ Below W.heap.size W w') := Lib.hid (fun l W b p q => szEntryS_at v2 d2 l W (h2.frame (Same.of_below' b)) f2 p q)
  have HT2 : Hid (d2.length + szL entryE d2 ≤ 1048576 → ∀ Y : World, Below w.heap.size w Y → Calls Try.prog 34 #[v2] Y fun e w' => ∃ u, e = .returned u ∧ SlOwn entryE (Fresh Y w') w' d2 u ∧ Below Y.heap.size Y w') := Lib.hid (fun z Y b => toEntryS_at v2 d2 Y (h2.frame (Same.of_below' b)) z)
  have HSp : Hid (d0.length + szL ruleE d0 ≤ 1048576 → d2.length + szL entryE d2 ≤ 1048576 → s1.size ≤ 1048576 → ∀ (Y : World) (S0 S1 : Bs) (u0 u2 : Value), SlAt ruleE S0 Y d0 u0 → SlAt entryE S1 Y d2 u2 → Calls Try.prog 33 #[u0, .string s1, u2] Y fun e w' => (∃ u9 : Value, e = .returned u9 ∧ SlOwn entryE (Fresh Y w') w' (visR d0 s1 d2) u9) ∧ Below Y.heap.size Y w') := Lib.hid (fun z0 z2 z1 Y S0 S1 u0 u2 h0 h2 => SpecVisible_any u0 d0 s1 d2 u2 Y h0 h2 z0 z2 z1)
  have HIm : Hid (d0.length + szL ruleE d0 ≤ 1048576 → d2.length + szL entryE d2 ≤ 1048576 → s1.size ≤ 1048576 → ∀ (Y : World) (S0 S1 : Bs) (u0 u2 : Value), SlAt ruleE S0 Y d0 u0 → SlAt entryE S1 Y d2 u2 → Calls Try.prog 35 #[u0, .string s1, u2] Y fun e w' => (∃ u9 : Value, e = .returned u9 ∧ SlOwn entryE (Fresh Y w') w' (visR d0 s1 d2) u9) ∧ Below Y.heap.size Y w') := Lib.hid (fun z0 z2 z1 Y S0 S1 u0 u2 h0 h2 => Visible_any u0 d0 s1 d2 u2 Y h0 h2 z0 z2 z1)
  by_cases y1 : s1.size ≤ 1048576
  rotate_left
  · have y1' : (1048576 : Int) < (s1.size : Int) := by omega
    unfold maxLen at *
    obtain ⟨o0, k0, rfl⟩ := h0.sl
    obtain ⟨o2, k2, rfl⟩ := h2.sl
    go_enter Try.func6, Try.ntmps6
    go_wp2
    go_ret
    first | exact ⟨rfl, Below.refl _ _⟩ | exact ⟨rfl, more' (Below.refl _ _) _⟩ | exact ⟨rfl, more' (more' (Below.refl _ _) _) _⟩
  have y1' : ¬ (1048576 : Int) < (s1.size : Int) := by omega
  clear f1
  obtain ⟨o0, k0, rfl⟩ := h0.sl
  obtain ⟨o2, k2, rfl⟩ := h2.sl
  clear h0 f0
  clear h2 f2
  go_enter Try.func6, Try.ntmps6
  have B : Hid (Below w.heap.size w w) := Lib.hid (Below.refl _ _)
  go_wp2_with fail
  refine (HS0.out (1048576) w B.out (by omega) (by omega)).mono ?_
  rintro e W1 ⟨rfl, hb⟩
  have B1 := Lib.hid (B.out.trans (hb.mono B.out.size)); clear B; have B := B1; clear B1
  have O0 := Lib.hid (hb.size)
  clear hb HS0
  by_cases g0 : ((d0.length + szL ruleE d0 : Nat) : Int) ≤ 1048576
  rotate_left
  · rw [leftR_neg g0]
    clear g0
    go_wp2
    go_ret
    exact ⟨rfl, B.out⟩
  rw [leftR_pos g0]
  have HZ0 : Hid (d0.length + szL ruleE d0 ≤ 1048576) := Lib.hid (by omega)
  have p0 : (0 : Int) ≤ ((d0.length + szL ruleE d0 : Nat) : Int) := by omega
  have c0 : ¬ 1048576 - ((d0.length + szL ruleE d0 : Nat) : Int) < 0 := by omega
  generalize ((d0.length + szL ruleE d0 : Nat) : Int) = t0 at *
  go_wp2_with fail
  refine (HS2.out (1048576 - t0) W1 B.out (by omega) (by omega)).mono ?_
  rintro e W2 ⟨rfl, hb⟩
  have B1 := Lib.hid (B.out.trans (hb.mono B.out.size)); clear B; have B := B1; clear B1
  have O1 := Lib.hid (hb.size)
  clear hb HS2
  by_cases g2 : ((d2.length + szL entryE d2 : Nat) : Int) ≤ 1048576 - t0
  rotate_left
  · rw [leftR_neg g2]
    clear g2
    go_wp2
    go_ret
    exact ⟨rfl, B.out⟩
  rw [leftR_pos g2]
  have HZ2 : Hid (d2.length + szL entryE d2 ≤ 1048576) := Lib.hid (by omega)
  have p2 : (0 : Int) ≤ ((d2.length + szL entryE d2 : Nat) : Int) := by omega
  have c2 : ¬ 1048576 - t0 - ((d2.length + szL entryE d2 : Nat) : Int) < 0 := by omega
  generalize ((d2.length + szL entryE d2 : Nat) : Int) = t2 at *
  have HT := Lib.hid (HT0.out HZ0.out); clear HT0; have HT0 := HT; clear HT
  have HQ := Lib.hid (HQ0.out HZ0.out); clear HQ0; have HQ0 := HQ; clear HQ
  have HT := Lib.hid (HT2.out HZ2.out); clear HT2; have HT2 := HT; clear HT
  have HQ := Lib.hid (HQ2.out HZ2.out); clear HQ2; have HQ2 := HQ; clear HQ
  have HS := Lib.hid (HSp.out HZ0.out HZ2.out y1); have HI := Lib.hid (HIm.out HZ0.out HZ2.out y1); clear HSp HIm
  have O2 := Lib.hid (B.out.size)
  have HRz : Hid ((visR d0 s1 d2).length + szL entryE (visR d0 s1 d2) ≤ 1048576) := Lib.hid (Nat.le_trans (visR_sz d0 s1 d2) HZ2.out)
  generalize visR d0 s1 d2 = R at *
  have HQR : Hid (∀ (Y : World) (S S' : Bs) (x u : Value), SlAt entryE S Y R x → SlAt entryE S' Y R u → Calls Try.prog 36 #[x, u] Y fun e w' => e = .returned (.bool true) ∧ Below Y.heap.size Y w') := Lib.hid (fun Y S S' x u h1 h2 => eqEntryS_at x u R Y h1 h2 HRz.out)
  go_wp2_with fail
  refine (HT0.out _ B.out).mono ?_
  rintro e W3 ⟨x0, rfl, q, hb⟩
  have B1 := Lib.hid (B.out.trans (hb.mono B.out.size)); clear B; have B := B1; clear B1
  have O3 := Lib.hid (hb.size)
  have Qx0 := Lib.hid q.at; clear q hb
  obtain ⟨px0, cx0, rfl⟩ := Qx0.out.sl
  go_wp2_with fail
  refine (HT2.out _ B.out).mono ?_
  rintro e W4 ⟨x2, rfl, q, hb⟩
  have P := Lib.hid (Qx0.out.frame (Same.of_below' hb)); clear Qx0; have Qx0 := P; clear P
  have B1 := Lib.hid (B.out.trans (hb.mono B.out.size)); clear B; have B := B1; clear B1
  have O4 := Lib.hid (hb.size)
  have Qx2 := Lib.hid q.at; clear q hb
  obtain ⟨px2, cx2, rfl⟩ := Qx2.out.sl
  go_wp2_with fail
  refine (HS.out _ _ _ _ _ Qx0.out Qx2.out).mono ?_
  rintro e W5 ⟨⟨u9, rfl, q⟩, hb⟩
  clear Qx0
  clear Qx2
  have B1 := Lib.hid (B.out.trans (hb.mono B.out.size)); clear B; have B := B1; clear B1
  have O5 := Lib.hid (hb.size)
  have Qw := Lib.hid q; clear q hb
  obtain ⟨pw, cw, rfl⟩ := Qw.out.at.sl
  go_wp2_with fail
  refine (HT0.out _ B.out).mono ?_
  rintro e W6 ⟨y0, rfl, q, hb⟩
  have P := Lib.hid (Qw.out.frame (Same.of_below' hb)); clear Qw; have Qw := P; clear P
  have B1 := Lib.hid (B.out.trans (hb.mono B.out.size)); clear B; have B := B1; clear B1
  have O6 := Lib.hid (hb.size)
  have Qy0 := Lib.hid q.at; have OY0 := Lib.hid q; clear q hb
  obtain ⟨py0, cy0, rfl⟩ := Qy0.out.sl
  go_wp2_with fail
  refine (HT2.out _ B.out).mono ?_
  rintro e W7 ⟨y2, rfl, q, hb⟩
  have P := Lib.hid (Qw.out.frame (Same.of_below' hb)); clear Qw; have Qw := P; clear P
  have P := Lib.hid (Qy0.out.frame (Same.of_below' hb)); clear Qy0; have Qy0 := P; clear P
  have P := Lib.hid (OY0.out.frame (Same.of_below' hb)); clear OY0; have OY0 := P; clear P
  have B1 := Lib.hid (B.out.trans (hb.mono B.out.size)); clear B; have B := B1; clear B1
  have O7 := Lib.hid (hb.size)
  have Qy2 := Lib.hid q.at; have OY2 := Lib.hid q; clear q hb
  obtain ⟨py2, cy2, rfl⟩ := Qy2.out.sl
  go_wp2_with fail
  refine (HI.out _ _ _ _ _ Qy0.out Qy2.out).mono ?_
  rintro e W8 ⟨⟨u9, rfl, q⟩, hb⟩
  have P := Lib.hid (Qw.out.frame (Same.of_below' hb)); clear Qw; have Qw := P; clear P
  have P := Lib.hid (Qy0.out.frame (Same.of_below' hb)); clear Qy0; have Qy0 := P; clear P
  have P := Lib.hid (OY0.out.frame (Same.of_below' hb)); clear OY0; have OY0 := P; clear P
  have P := Lib.hid (Qy2.out.frame (Same.of_below' hb)); clear Qy2; have Qy2 := P; clear P
  have P := Lib.hid (OY2.out.frame (Same.of_below' hb)); clear OY2; have OY2 := P; clear P
  have B1 := Lib.hid (B.out.trans (hb.mono B.out.size)); clear B; have B := B1; clear B1
  have O8 := Lib.hid (hb.size)
  have Qg := Lib.hid q; clear q hb
  obtain ⟨pg, cg, rfl⟩ := Qg.out.at.sl
  go_wp2_with fail
  refine (HQR.out _ _ _ _ _ Qg.out.at Qw.out.at).mono ?_
  rintro e W9 ⟨rfl, hb⟩
  have P := Lib.hid (Qw.out.frame (Same.of_below' hb)); clear Qw; have Qw := P; clear P
  have P := Lib.hid (Qy0.out.frame (Same.of_below' hb)); clear Qy0; have Qy0 := P; clear P
  have P := Lib.hid (OY0.out.frame (Same.of_below' hb)); clear OY0; have OY0 := P; clear P
  have P := Lib.hid (Qy2.out.frame (Same.of_below' hb)); clear Qy2; have Qy2 := P; clear P
  have P := Lib.hid (OY2.out.frame (Same.of_below' hb)); clear OY2; have OY2 := P; clear P
  have P := Lib.hid (Qg.out.frame (Same.of_below' hb)); clear Qg; have Qg := P; clear P
  have B1 := Lib.hid (B.out.trans (hb.mono B.out.size)); clear B; have B := B1; clear B1
  have O9 := Lib.hid (hb.size)
  clear hb
  go_wp2_with fail
  refine (HT0.out _ B.out).mono ?_
  rintro e W10 ⟨z0, rfl, q, hb⟩
  have P := Lib.hid (Qw.out.frame (Same.of_below' hb)); clear Qw; have Qw := P; clear P
  have P := Lib.hid (Qy0.out.frame (Same.of_below' hb)); clear Qy0; have Qy0 := P; clear P
  have P := Lib.hid (OY0.out.frame (Same.of_below' hb)); clear OY0; have OY0 := P; clear P
  have P := Lib.hid (Qy2.out.frame (Same.of_below' hb)); clear Qy2; have Qy2 := P; clear P
  have P := Lib.hid (OY2.out.frame (Same.of_below' hb)); clear OY2; have OY2 := P; clear P
  have P := Lib.hid (Qg.out.frame (Same.of_below' hb)); clear Qg; have Qg := P; clear P
  have B1 := Lib.hid (B.out.trans (hb.mono B.out.size)); clear B; have B := B1; clear B1
  have O10 := Lib.hid (hb.size)
  have Qz0 := Lib.hid q.at; clear q hb
  obtain ⟨pz0, cz0, rfl⟩ := Qz0.out.sl
  go_wp2_with fail
  refine (HQ0.out _ _ _ _ _ Qy0.out Qz0.out).mono ?_
  rintro e W11 ⟨rfl, hb⟩
  have P := Lib.hid (Qw.out.frame (Same.of_below' hb)); clear Qw; have Qw := P; clear P
  have P := Lib.hid (Qy0.out.frame (Same.of_below' hb)); clear Qy0; have Qy0 := P; clear P
  have P := Lib.hid (OY0.out.frame (Same.of_below' hb)); clear OY0; have OY0 := P; clear P
  have P := Lib.hid (Qy2.out.frame (Same.of_below' hb)); clear Qy2; have Qy2 := P; clear P
  have P := Lib.hid (OY2.out.frame (Same.of_below' hb)); clear OY2; have OY2 := P; clear P
  have P := Lib.hid (Qg.out.frame (Same.of_below' hb)); clear Qg; have Qg := P; clear P
  have P := Lib.hid (Qz0.out.frame (Same.of_below' hb)); clear Qz0; have Qz0 := P; clear P
  have B1 := Lib.hid (B.out.trans (hb.mono B.out.size)); clear B; have B := B1; clear B1
  have O11 := Lib.hid (hb.size)
  clear hb
  clear Qz0
  go_wp2_with fail
  refine (HT2.out _ B.out).mono ?_
  rintro e W12 ⟨z2, rfl, q, hb⟩
  have P := Lib.hid (Qw.out.frame (Same.of_below' hb)); clear Qw; have Qw := P; clear P
  have P := Lib.hid (Qy0.out.frame (Same.of_below' hb)); clear Qy0; have Qy0 := P; clear P
  have P := Lib.hid (OY0.out.frame (Same.of_below' hb)); clear OY0; have OY0 := P; clear P
  have P := Lib.hid (Qy2.out.frame (Same.of_below' hb)); clear Qy2; have Qy2 := P; clear P
  have P := Lib.hid (OY2.out.frame (Same.of_below' hb)); clear OY2; have OY2 := P; clear P
  have P := Lib.hid (Qg.out.frame (Same.of_below' hb)); clear Qg; have Qg := P; clear P
  have B1 := Lib.hid (B.out.trans (hb.mono B.out.size)); clear B; have B := B1; clear B1
  have O12 := Lib.hid (hb.size)
  have Qz2 := Lib.hid q.at; clear q hb
  obtain ⟨pz2, cz2, rfl⟩ := Qz2.out.sl
  go_wp2_with fail
  refine (HQ2.out _ _ _ _ _ Qy2.out Qz2.out).mono ?_
  rintro e W13 ⟨rfl, hb⟩
  have P := Lib.hid (Qw.out.frame (Same.of_below' hb)); clear Qw; have Qw := P; clear P
  have P := Lib.hid (Qy0.out.frame (Same.of_below' hb)); clear Qy0; have Qy0 := P; clear P
  have P := Lib.hid (OY0.out.frame (Same.of_below' hb)); clear OY0; have OY0 := P; clear P
  have P := Lib.hid (Qy2.out.frame (Same.of_below' hb)); clear Qy2; have Qy2 := P; clear P
  have P := Lib.hid (OY2.out.frame (Same.of_below' hb)); clear OY2; have OY2 := P; clear P
  have P := Lib.hid (Qg.out.frame (Same.of_below' hb)); clear Qg; have Qg := P; clear P
  have P := Lib.hid (Qz2.out.frame (Same.of_below' hb)); clear Qz2; have Qz2 := P; clear P
  have B1 := Lib.hid (B.out.trans (hb.mono B.out.size)); clear B; have B := B1; clear B1
  have O13 := Lib.hid (hb.size)
  clear hb
  clear Qz2
  clear Qy0
  clear Qy2
  go_wp2_with fail
  have mz := HZ0.out; have mc0 := cnt_fit (e := ruleE) d0 (by decide) mz
  refine (markRuleS_at _ d0 (1) _ OY0.out (by omega) (by omega) (by omega) (by omega)).mono ?_
  rintro e W14 ⟨rfl, _, ht⟩
  clear mz
  have P := Lib.hid (Qw.out.frame (ht.same (by rintro k ⟨z1, z2⟩ ⟨z3, z4⟩; have := O0.out; have := O1.out; have := O2.out; have := O3.out; have := O4.out; have := O5.out; have := O6.out; have := O7.out; have := O8.out; have := O9.out; have := O10.out; have := O11.out; have := O12.out; have := O13.out; omega))); clear Qw; have Qw := P; clear P
  have P := Lib.hid (OY2.out.frame (ht.same (by rintro k ⟨z1, z2⟩ ⟨z3, z4⟩; have := O0.out; have := O1.out; have := O2.out; have := O3.out; have := O4.out; have := O5.out; have := O6.out; have := O7.out; have := O8.out; have := O9.out; have := O10.out; have := O11.out; have := O12.out; have := O13.out; omega))); clear OY2; have OY2 := P; clear P
  have P := Lib.hid (Qg.out.frame (ht.same (by rintro k ⟨z1, z2⟩ ⟨z3, z4⟩; have := O0.out; have := O1.out; have := O2.out; have := O3.out; have := O4.out; have := O5.out; have := O6.out; have := O7.out; have := O8.out; have := O9.out; have := O10.out; have := O11.out; have := O12.out; have := O13.out; omega))); clear Qg; have Qg := P; clear P
  have B1 := Lib.hid (ht.below B.out (by rintro k ⟨z3, z4⟩; have := O0.out; have := O1.out; have := O2.out; have := O3.out; have := O4.out; have := O5.out; have := O6.out; have := O7.out; have := O8.out; have := O9.out; have := O10.out; have := O11.out; have := O12.out; have := O13.out; omega)); clear B; have B := B1; clear B1
  have O14 := Lib.hid (ht.size)
  clear OY0 ht
  go_wp2_with fail
  have mz := HZ2.out; have mc2 := cnt_fit (e := entryE) d2 (by decide) mz
  refine (markEntryS_at _ d2 (1 + cntL ruleE d0) _ OY2.out (by omega) (by omega) (by omega) (by omega)).mono ?_
  rintro e W15 ⟨rfl, _, ht⟩
  clear mz
  have P := Lib.hid (Qw.out.frame (ht.same (by rintro k ⟨z1, z2⟩ ⟨z3, z4⟩; have := O0.out; have := O1.out; have := O2.out; have := O3.out; have := O4.out; have := O5.out; have := O6.out; have := O7.out; have := O8.out; have := O9.out; have := O10.out; have := O11.out; have := O12.out; have := O13.out; have := O14.out; omega))); clear Qw; have Qw := P; clear P
  have P := Lib.hid (Qg.out.frame (ht.same (by rintro k ⟨z1, z2⟩ ⟨z3, z4⟩; have := O0.out; have := O1.out; have := O2.out; have := O3.out; have := O4.out; have := O5.out; have := O6.out; have := O7.out; have := O8.out; have := O9.out; have := O10.out; have := O11.out; have := O12.out; have := O13.out; have := O14.out; omega))); clear Qg; have Qg := P; clear P
  have B1 := Lib.hid (ht.below B.out (by rintro k ⟨z3, z4⟩; have := O0.out; have := O1.out; have := O2.out; have := O3.out; have := O4.out; have := O5.out; have := O6.out; have := O7.out; have := O8.out; have := O9.out; have := O10.out; have := O11.out; have := O12.out; have := O13.out; have := O14.out; omega)); clear B; have B := B1; clear B1
  have O15 := Lib.hid (ht.size)
  clear OY2 ht
  have hk : ¬ ((1 + cntL ruleE d0 + cntL entryE d2 : Nat) : Int) < 0 := by omega
  go_wp2_with fail
  refine (HQR.out _ _ _ _ _ Qg.out.at Qw.out.at).mono ?_
  rintro e W16 ⟨rfl, hb⟩
  have P := Lib.hid (Qw.out.frame (Same.of_below' hb)); clear Qw; have Qw := P; clear P
  have P := Lib.hid (Qg.out.frame (Same.of_below' hb)); clear Qg; have Qg := P; clear P
  have B1 := Lib.hid (B.out.trans (hb.mono B.out.size)); clear B; have B := B1; clear B1
  have O16 := Lib.hid (hb.size)
  clear hb
  clear hk mc0 mc2
  have mz := HRz.out; have mc := cnt_fit (e := entryE) R (by decide) mz
  have HH : Hid (∀ (Y : World) (S : Bs), SlAt entryE S Y (mkAll entryE 1 R) (.slice pg R.length cg) → Calls Try.prog 38 #[.slice pg R.length cg, .int .i64 1] Y fun e w' => e = .returned (.int .i64 ((1 + cntL entryE R : Nat) : Int)) ∧ Below Y.heap.size Y w') := Lib.hid (fun Y S h => heldEntryS_at _ R 1 Y h (by omega) (by omega) (by omega) (by omega))
  go_wp2_with fail
  refine (markEntryS_at _ R 1 _ Qg.out (by omega) (by omega) (by omega) (by omega)).mono ?_
  rintro e W17 ⟨rfl, r, ht⟩
  have QM := Lib.hid r.at; clear r
  have P := Lib.hid (Qw.out.frame (ht.same (by rintro k ⟨z1, z2⟩ ⟨z3, z4⟩; have := O0.out; have := O1.out; have := O2.out; have := O3.out; have := O4.out; have := O5.out; have := O6.out; have := O7.out; have := O8.out; have := O9.out; have := O10.out; have := O11.out; have := O12.out; have := O13.out; have := O14.out; have := O15.out; have := O16.out; omega))); clear Qw; have Qw := P; clear P
  have B1 := Lib.hid (ht.below B.out (by rintro k ⟨z3, z4⟩; have := O0.out; have := O1.out; have := O2.out; have := O3.out; have := O4.out; have := O5.out; have := O6.out; have := O7.out; have := O8.out; have := O9.out; have := O10.out; have := O11.out; have := O12.out; have := O13.out; have := O14.out; have := O15.out; have := O16.out; omega)); clear B; have B := B1; clear B1
  have O17 := Lib.hid (ht.size)
  clear Qg ht
  have hq1 : ¬ ((1 + cntL entryE R : Nat) : Int) < 0 := by omega
  generalize ((1 + cntL entryE R : Nat) : Int) = Q at *
  have hq2 : (Q != Q) = false := by simp
  clear mz mc
  go_wp2_with fail
  refine (HH.out _ _ QM.out).mono ?_
  rintro e W18 ⟨rfl, hb⟩
  have P := Lib.hid (Qw.out.frame (Same.of_below' hb)); clear Qw; have Qw := P; clear P
  have P := Lib.hid (QM.out.frame (Same.of_below' hb)); clear QM; have QM := P; clear P
  have B1 := Lib.hid (B.out.trans (hb.mono B.out.size)); clear B; have B := B1; clear B1
  have O18 := Lib.hid (hb.size)
  clear hb
  go_wp2_with fail
  refine (HT0.out _ B.out).mono ?_
  rintro e W19 ⟨x0, rfl, q, hb⟩
  have P := Lib.hid (Qw.out.frame (Same.of_below' hb)); clear Qw; have Qw := P; clear P
  have P := Lib.hid (QM.out.frame (Same.of_below' hb)); clear QM; have QM := P; clear P
  have B1 := Lib.hid (B.out.trans (hb.mono B.out.size)); clear B; have B := B1; clear B1
  have O19 := Lib.hid (hb.size)
  have Qx0 := Lib.hid q.at; clear q hb
  obtain ⟨px0, cx0, rfl⟩ := Qx0.out.sl
  go_wp2_with fail
  refine (HT2.out _ B.out).mono ?_
  rintro e W20 ⟨x2, rfl, q, hb⟩
  have P := Lib.hid (Qw.out.frame (Same.of_below' hb)); clear Qw; have Qw := P; clear P
  have P := Lib.hid (QM.out.frame (Same.of_below' hb)); clear QM; have QM := P; clear P
  have P := Lib.hid (Qx0.out.frame (Same.of_below' hb)); clear Qx0; have Qx0 := P; clear P
  have B1 := Lib.hid (B.out.trans (hb.mono B.out.size)); clear B; have B := B1; clear B1
  have O20 := Lib.hid (hb.size)
  have Qx2 := Lib.hid q.at; clear q hb
  obtain ⟨px2, cx2, rfl⟩ := Qx2.out.sl
  go_wp2_with fail
  refine (HI.out _ _ _ _ _ Qx0.out Qx2.out).mono ?_
  rintro e W21 ⟨⟨u9, rfl, q⟩, hb⟩
  clear Qx0
  clear Qx2
  have P := Lib.hid (Qw.out.frame (Same.of_below' hb)); clear Qw; have Qw := P; clear P
  have P := Lib.hid (QM.out.frame (Same.of_below' hb)); clear QM; have QM := P; clear P
  have B1 := Lib.hid (B.out.trans (hb.mono B.out.size)); clear B; have B := B1; clear B1
  have O21 := Lib.hid (hb.size)
  have Qh := Lib.hid q; clear q hb
  obtain ⟨ph, ch, rfl⟩ := Qh.out.at.sl
  go_wp2_with fail
  refine (HQR.out _ _ _ _ _ Qh.out.at Qw.out.at).mono ?_
  rintro e W22 ⟨rfl, hb⟩
  have P := Lib.hid (Qw.out.frame (Same.of_below' hb)); clear Qw; have Qw := P; clear P
  have P := Lib.hid (QM.out.frame (Same.of_below' hb)); clear QM; have QM := P; clear P
  have P := Lib.hid (Qh.out.frame (Same.of_below' hb)); clear Qh; have Qh := P; clear P
  have B1 := Lib.hid (B.out.trans (hb.mono B.out.size)); clear B; have B := B1; clear B1
  have O22 := Lib.hid (hb.size)
  clear hb
  go_wp2_with fail
  refine (HH.out _ _ QM.out).mono ?_
  rintro e W23 ⟨rfl, hb⟩
  have P := Lib.hid (Qw.out.frame (Same.of_below' hb)); clear Qw; have Qw := P; clear P
  have P := Lib.hid (QM.out.frame (Same.of_below' hb)); clear QM; have QM := P; clear P
  have P := Lib.hid (Qh.out.frame (Same.of_below' hb)); clear Qh; have Qh := P; clear P
  have B1 := Lib.hid (B.out.trans (hb.mono B.out.size)); clear B; have B := B1; clear B1
  have O23 := Lib.hid (hb.size)
  clear hb
  go_wp2
  go_ret
  exact ⟨rfl, B.out⟩
end Go.Proofs.Ytglgkocjdockdaa
/- Arguments of the laws: where they lie. -/
namespace Go.Proofs.Ytglgkocjdockdaa
open Go.RowKit

open Go.ChangeShapes Go.WideShapes Go.Joins Go.Deep
theorem opn_str : Opens Try.prog 9 strE := opens_str Try.underlying9
theorem Try.cellStr : Try.prog.cellsOf 9 = strE.n := by kernel_rfl
theorem opn_int : Opens Try.prog 2 intE := opens_int Try.underlying2
theorem opn_bool : Opens Try.prog 4 boolE := opens_bool Try.underlying4
theorem opn_strS : Opens Try.prog 61 (slE strE) := opens_sl Try.underlying61 Try.cellStr (by decide) opn_str
theorem Try.cellRdn : Try.prog.cellsOf 102 = rdnE.n := by kernel_rfl
set_option maxRecDepth 100000 in
theorem opn_rdn : Opens Try.prog 102 rdnE := opens_struct Try.underlying102 Try.cellRdn (ff_cons _ (by rfl) (by rfl) (by kernel_rfl) opn_str (ff_last _ (by rfl) (by rfl) (by kernel_rfl) (by rfl) opn_str))
theorem Try.cellAttr : Try.prog.cellsOf 154 = attrE.n := by kernel_rfl
set_option maxRecDepth 100000 in
theorem opn_attr : Opens Try.prog 154 attrE := opens_struct Try.underlying154 Try.cellAttr (ff_cons _ (by rfl) (by rfl) (by kernel_rfl) opn_str (ff_last _ (by rfl) (by rfl) (by kernel_rfl) (by rfl) opn_strS))
theorem opn_rdnS : Opens Try.prog 29 (slE rdnE) := opens_sl Try.underlying29 Try.cellRdn (by decide) opn_rdn
theorem opn_attrS : Opens Try.prog 36 (slE attrE) := opens_sl Try.underlying36 Try.cellAttr (by decide) opn_attr
theorem Try.cellEntry : Try.prog.cellsOf 38 = entryE.n := by kernel_rfl
set_option maxRecDepth 100000 in
theorem opn_entry : Opens Try.prog 38 entryE := opens_struct Try.underlying38 Try.cellEntry (ff_cons _ (by rfl) (by rfl) (by kernel_rfl) opn_rdnS (ff_last _ (by rfl) (by rfl) (by kernel_rfl) (by rfl) opn_attrS))
theorem Try.cellRule : Try.prog.cellsOf 96 = ruleE.n := by kernel_rfl
set_option maxRecDepth 100000 in
theorem opn_rule : Opens Try.prog 96 ruleE := opens_struct Try.underlying96 Try.cellRule (ff_cons _ (by rfl) (by rfl) (by kernel_rfl) opn_str (ff_cons _ (by rfl) (by rfl) (by kernel_rfl) opn_rdnS (ff_cons _ (by rfl) (by rfl) (by kernel_rfl) opn_strS (ff_cons _ (by rfl) (by rfl) (by kernel_rfl) opn_int (ff_last _ (by rfl) (by rfl) (by kernel_rfl) (by rfl) opn_bool)))))
theorem opn_entryS : Opens Try.prog 53 (slE entryE) := opens_sl Try.underlying53 Try.cellEntry (by decide) opn_entry
theorem opn_ruleS : Opens Try.prog 22 (slE ruleE) := opens_sl Try.underlying22 Try.cellRule (by decide) opn_rule
set_option maxRecDepth 100000 in
theorem opv_rdn {H : Type} {enc : TypeId × Value → H} {w : World} {base : Nat} {spare : Nat → Bool} {held : Bool} {r : Reach} {b0 : Nat} {v : Value} {d : DataW H} {p : List MemPlace} (hv : Value.okWide Try.prog w r b0 102 v) (h : DataW.Trod enc Try.prog w base spare held 102 v d p) :
    ∃ (a0 : ByteArray) (a1 : ByteArray) , v = .agg #[.string a0, .string a1] ∧ (True) ∧ rdnE.long (a0, a1) := by
  obtain ⟨cs, a, rfl, h1, h2⟩ := opv_struct Try.underlying102 opn_rdn hv h
  obtain ⟨a0, a1, rfl, e1, hq⟩ := rdn_atq h1
  refine ⟨a0, a1, agg_eq e1, ?_, h2⟩
  exact hq
set_option maxRecDepth 100000 in
theorem opv_attr {H : Type} {enc : TypeId × Value → H} {w : World} {base : Nat} {spare : Nat → Bool} {held : Bool} {r : Reach} {b0 : Nat} {v : Value} {d : DataW H} {p : List MemPlace} (hv : Value.okWide Try.prog w r b0 154 v) (h : DataW.Trod enc Try.prog w base spare held 154 v d p) :
    ∃ (a0 : ByteArray) (a1 : (List ByteArray)) (v1 : Value), v = .agg #[.string a0, v1] ∧ (SlAt strE (All w) w a1 v1) ∧ attrE.long (a0, a1) := by
  obtain ⟨cs, a, rfl, h1, h2⟩ := opv_struct Try.underlying154 opn_attr hv h
  obtain ⟨a0, a1, v1, rfl, e1, hq⟩ := attr_atq h1
  refine ⟨a0, a1, v1, agg_eq e1, ?_, h2⟩
  exact hq.1
set_option maxRecDepth 100000 in
theorem opv_entry {H : Type} {enc : TypeId × Value → H} {w : World} {base : Nat} {spare : Nat → Bool} {held : Bool} {r : Reach} {b0 : Nat} {v : Value} {d : DataW H} {p : List MemPlace} (hv : Value.okWide Try.prog w r b0 38 v) (h : DataW.Trod enc Try.prog w base spare held 38 v d p) :
    ∃ (a0 : (List RdnT)) (a1 : (List AttrT)) (v0 v1 : Value), v = .agg #[v0, v1] ∧ (SlAt rdnE (All w) w a0 v0 ∧ SlAt attrE (All w) w a1 v1) ∧ entryE.long (a0, a1) := by
  obtain ⟨cs, a, rfl, h1, h2⟩ := opv_struct Try.underlying38 opn_entry hv h
  obtain ⟨a0, a1, v0, v1, rfl, e1, hq⟩ := entry_atq h1
  refine ⟨a0, a1, v0, v1, agg_eq e1, ?_, h2⟩
  exact ⟨hq.1, hq.2.1⟩
set_option maxRecDepth 100000 in
theorem opv_rule {H : Type} {enc : TypeId × Value → H} {w : World} {base : Nat} {spare : Nat → Bool} {held : Bool} {r : Reach} {b0 : Nat} {v : Value} {d : DataW H} {p : List MemPlace} (hv : Value.okWide Try.prog w r b0 96 v) (h : DataW.Trod enc Try.prog w base spare held 96 v d p) :
    ∃ (a0 : ByteArray) (a1 : (List RdnT)) (a2 : (List ByteArray)) (a3 : Int) (a4 : Bool) (v1 v2 : Value), v = .agg #[.string a0, v1, v2, .int .i64 a3, .bool a4] ∧ (SlAt rdnE (All w) w a1 v1 ∧ SlAt strE (All w) w a2 v2) ∧ ruleE.long (a0, a1, a2, a3, a4) := by
  obtain ⟨cs, a, rfl, h1, h2⟩ := opv_struct Try.underlying96 opn_rule hv h
  obtain ⟨a0, a1, a2, a3, a4, v1, v2, rfl, e1, hq⟩ := rule_atq h1
  refine ⟨a0, a1, a2, a3, a4, v1, v2, agg_eq e1, ?_, h2⟩
  exact ⟨hq.1, hq.2.1⟩
end Go.Proofs.Ytglgkocjdockdaa
