/- Merged texts: MissingW, Opn. -/
import Derived.Test.YtmanlnlhpgdbpaaDoorM1
import Derived.Test.YtmanlnlhpgdbpaaDoorM12
import Derived.Test.YtmanlnlhpgdbpaaDoorM13
import Derived.Test.YtmanlnlhpgdbpaaDoorM5
import Derived.Test.YtmanlnlhpgdbpaaDoorRows
/- The law FnExactMissing: its walk. -/
namespace Go.Proofs.YtmanlnlhpgdbpaaDoor
open Go.RowKit
attribute [local go_sem ↓] Go.wp_at_zero Go.wp_at_succ

set_option maxRecDepth 100000 in
set_option maxHeartbeats 4000000 in
theorem Missing_walk (v0 : Value) (d0 : List ClassT) (a100 : (List RdnT)) (a101 : (List AttrT)) (v100 v101 : Value) (w : World) (h0 : SlAt classE (All w) w d0 v0) (f0 : (slE classE).long d0) (h1 : SlAt rdnE (All w) w a100 v100 ∧ SlAt attrE (All w) w a101 v101) (f1 : entryE.long (a100, a101)) (hSent : Sent w) :
    Calls Tryd.prog 3 #[v0, .agg #[v100, v101]] w fun e w' => e = .returned (.bool true) ∧ Below w.heap.size w w' := by
  have HQ0 : Hid (d0.length + szL classE d0 ≤ 1048576 → ∀ (Y : World) (S S' : Bs) (x u : Value), SlAt classE S Y d0 x → SlAt classE S' Y d0 u → Calls Tryd.prog 11 #[x, u] Y fun e w' => e = .returned (.bool true) ∧ Below Y.heap.size Y w') := Lib.hid (fun z Y S S' x u h1 h2 => eqClassS_at x u d0 Y h1 h2 z)
  have HS0 : Hid (∀ (l : Int) (W : World), Below w.heap.size w W → 0 ≤ l → l ≤ 1048576 → Calls Tryd.prog 4 #[v0, .int .i64 l] W fun e w' => e = .returned (.int .i64 (leftR (d0.length + szL classE d0) l)) ∧ Below W.heap.size W w') := Lib.hid (fun l W b p q => szClassS_at v0 d0 l W (h0.frame (Same.of_below' b)) f0 p q)
  have HT0 : Hid (d0.length + szL classE d0 ≤ 1048576 → ∀ Y : World, Below w.heap.size w Y → Calls Tryd.prog 7 #[v0] Y fun e w' => ∃ u, e = .returned u ∧ SlOwn classE (Fresh Y w') w' d0 u ∧ Below Y.heap.size Y w') := Lib.hid (fun z Y b => toClassS_at v0 d0 Y (h0.frame (Same.of_below' b)) z)
  have HQ1 : Hid (entryE.sz (a100, a101) ≤ 1048576 → ∀ (Y : World) (S S' : Bs) (x100 x101 u100 u101 : Value), SlAt rdnE S Y a100 x100 → SlAt attrE S Y a101 x101 → SlAt rdnE S' Y a100 u100 → SlAt attrE S' Y a101 u101 → Calls Tryd.prog 12 #[.agg #[x100, x101], .agg #[u100, u101]] Y fun e w' => e = .returned (.bool true) ∧ Below Y.heap.size Y w') := Lib.hid (fun z Y S S' x100 x101 u100 u101 g100 g101 k100 k101 => eqEntry_at Y a100 a101 x100 x101 u100 u101 Y (Below.refl _ _) g100 g101 k100 k101 z)
  have HS1 : Hid (∀ (l : Int) (W : World), Below w.heap.size w W → 0 ≤ l → l ≤ 1048576 → Calls Tryd.prog 5 #[.agg #[v100, v101], .int .i64 l] W fun e w' => e = .returned (.int .i64 (leftR (entryE.sz (a100, a101)) l)) ∧ Below W.heap.size W w') := Lib.hid (fun l W b p q => szEntry_at a100 a101 v100 v101 l W (h1.1.frame (Same.of_below' b)) (h1.2.frame (Same.of_below' b)) f1 p q)
  have HT1 : Hid (entryE.sz (a100, a101) ≤ 1048576 → ∀ Y : World, Below w.heap.size w Y → Calls Tryd.prog 8 #[.agg #[v100, v101]] Y fun e w' => ∃ u100 u101, e = .returned (.agg #[u100, u101]) ∧ entryE.Own (Fresh Y w') w' (a100, a101) [u100, u101] ∧ Below Y.heap.size Y w') := Lib.hid (fun z Y b => toEntry_at a100 a101 v100 v101 Y (h1.1.frame (Same.of_below' b)) (h1.2.frame (Same.of_below' b)) z)
  have HSp : Hid (d0.length + szL classE d0 ≤ 1048576 → entryE.sz (a100, a101) ≤ 1048576 → ∀ (Y : World) (S0 S1 S2 : Bs) (u0 u100 u101 : Value), SlAt classE S0 Y d0 u0 → SlAt rdnE S1 Y a100 u100 → SlAt attrE S2 Y a101 u101 → Calls Tryd.prog 6 #[u0, .agg #[u100, u101]] Y fun e w' => (∃ u9 : Value, e = .returned u9 ∧ SlOwn strE (Fresh Y w') w' (missR d0 a100 a101) u9) ∧ Below Y.heap.size Y w') := Lib.hid (fun z0 z1 Y  S0 S1 S2 u0 u100 u101 h0 h100 h101 => SpecMissing_own u0 d0 u100 u101 a100 a101 Y h0 h100 h101 z0 z1)
  have HIm : Hid (d0.length + szL classE d0 ≤ 1048576 → entryE.sz (a100, a101) ≤ 1048576 → ∀ (Y : World) (hYb : Below w.heap.size w Y) (S0 S1 S2 : Bs) (u0 u100 u101 : Value), SlAt classE S0 Y d0 u0 → SlAt rdnE S1 Y a100 u100 → SlAt attrE S2 Y a101 u101 → Calls Tryd.prog 9 #[u0, .agg #[u100, u101]] Y fun e w' => (∃ u9 : Value, e = .returned u9 ∧ SlOwn strE (Fresh Y w') w' (missR d0 a100 a101) u9) ∧ Below Y.heap.size Y w') := Lib.hid (fun z0 z1 Y hYb S0 S1 S2 u0 u100 u101 h0 h100 h101 => Missing_own u0 d0 u100 u101 a100 a101 Y h0 h100 h101 z0 z1 (hSent.below hYb))
  obtain ⟨o0, k0, rfl⟩ := h0.sl
  obtain ⟨o100, k100, rfl⟩ := h1.1.sl; obtain ⟨o101, k101, rfl⟩ := h1.2.sl
  clear h0 f0
  clear h1 f1
  go_enter Tryd.func3, Tryd.ntmps3
  go_wp2_with fail
  refine calls_by (fun W => Below w.heap.size w W ∧ Blk W (w.heap.size) [.slice o100 a100.length k100, .slice o101 a101.length k101]) ⟨more' (Below.refl _ _) _, Blk.new _ _ _⟩ ?_
  rintro W0 ⟨b0, t1⟩
  have B := Lib.hid b0; clear b0
  have HP1 := Lib.hid t1; clear t1
  refine (HS0.out (1048576) W0 B.out (by omega) (by omega)).mono ?_
  rintro e W1 ⟨rfl, hb⟩
  have P := Lib.hid (HP1.out.below hb); clear HP1; have HP1 := P; clear P
  have B1 := Lib.hid (B.out.trans (hb.mono B.out.size)); clear B; have B := B1; clear B1
  have O0 := Lib.hid (hb.size)
  clear hb HS0
  by_cases g0 : ((d0.length + szL classE d0 : Nat) : Int) ≤ 1048576
  rotate_left
  · rw [leftR_neg g0]
    clear g0
    go_wp2
    go_ret
    exact ⟨rfl, B.out⟩
  rw [leftR_pos g0]
  have HZ0 : Hid (d0.length + szL classE d0 ≤ 1048576) := Lib.hid (by omega)
  have p0 : (0 : Int) ≤ ((d0.length + szL classE d0 : Nat) : Int) := by omega
  have c0 : ¬ 1048576 - ((d0.length + szL classE d0 : Nat) : Int) < 0 := by omega
  generalize ((d0.length + szL classE d0 : Nat) : Int) = t0 at *
  have pm0 := HP1.out.cell 0 rfl
  have pm1 := HP1.out.cell 1 rfl
  go_wp2_with fail
  clear pm0 pm1
  refine (HS1.out (1048576 - t0) W1 B.out (by omega) (by omega)).mono ?_
  rintro e W2 ⟨rfl, hb⟩
  have P := Lib.hid (HP1.out.below hb); clear HP1; have HP1 := P; clear P
  have B1 := Lib.hid (B.out.trans (hb.mono B.out.size)); clear B; have B := B1; clear B1
  have O1 := Lib.hid (hb.size)
  clear hb HS1
  by_cases g1 : ((entryE.sz (a100, a101) : Nat) : Int) ≤ 1048576 - t0
  rotate_left
  · rw [leftR_neg g1]
    clear g1
    go_wp2
    go_ret
    exact ⟨rfl, B.out⟩
  rw [leftR_pos g1]
  have HZ1 : Hid (entryE.sz (a100, a101) ≤ 1048576) := Lib.hid (by omega)
  have p1 : (0 : Int) ≤ ((entryE.sz (a100, a101) : Nat) : Int) := by omega
  have c1 : ¬ 1048576 - t0 - ((entryE.sz (a100, a101) : Nat) : Int) < 0 := by omega
  generalize ((entryE.sz (a100, a101) : Nat) : Int) = t1 at *
  have HT := Lib.hid (HT0.out HZ0.out); clear HT0; have HT0 := HT; clear HT
  have HQ := Lib.hid (HQ0.out HZ0.out); clear HQ0; have HQ0 := HQ; clear HQ
  have HT := Lib.hid (HT1.out HZ1.out); clear HT1; have HT1 := HT; clear HT
  have HQ := Lib.hid (HQ1.out HZ1.out); clear HQ1; have HQ1 := HQ; clear HQ
  have HS := Lib.hid (HSp.out HZ0.out HZ1.out); have HI := Lib.hid (HIm.out HZ0.out HZ1.out); clear HSp HIm
  have O2 := Lib.hid (B.out.size)
  have O3 := Lib.hid (HP1.out.lt)
  have HRz : Hid ((missR d0 a100 a101).length + szL strE (missR d0 a100 a101) ≤ 1048576) := Lib.hid (Nat.le_trans (missR_sz d0 a100 a101) HZ0.out)
  generalize missR d0 a100 a101 = R at *
  have HQR : Hid (∀ (Y : World) (S S' : Bs) (x u : Value), SlAt strE S Y R x → SlAt strE S' Y R u → Calls Tryd.prog 10 #[x, u] Y fun e w' => e = .returned (.bool true) ∧ Below Y.heap.size Y w') := Lib.hid (fun Y S S' x u h1 h2 => eqStringS_at x u R Y h1 h2 HRz.out)
  go_wp2
  have hb : Below W2.heap.size W2 W2.drew := (Below.refl _ _).drew
  have SK : Hid (∀ Z' : World, Below W2.heap.size W2 Z' → Z'.cell? ⟨w.heap.size, 0, none⟩ = some (.slice o100 a100.length k100) ∧ Z'.cell? ⟨w.heap.size, 1, none⟩ = some (.slice o101 a101.length k101)) := Lib.hid (fun Z' h => ⟨(HP1.out.below h).cell 0 rfl, (HP1.out.below h).cell 1 rfl⟩)
  have BD : Below W2.heap.size W2 W2.drew := hb
  have P := Lib.hid (HP1.out.below hb); clear HP1; have HP1 := P; clear P
  have B1 := Lib.hid (B.out.trans (hb.mono B.out.size)); clear B; have B := B1; clear B1
  have O4 := Lib.hid (hb.size)
  clear hb
  refine wp_region_held_drew (S := (fun Z' => Z'.cell? ⟨w.heap.size, 0, none⟩ = some (.slice o100 a100.length k100) ∧ Z'.cell? ⟨w.heap.size, 1, none⟩ = some (.slice o101 a101.length k101))) (by kernel_rfl) ?_ (fun hHeld => ?_)
  · (try dsimp only)
    first | exact SK.out _ (by assumption) | exact SK.out _ BD
  refine wpAnyH_take (i := 0) (oi := { dst := some 24, op := Op.move (Operand.tmp 0), type := 22, pos := "exact.go:3793", after := #[], guard := none }) (v := ?_) rfl (by kernel_rfl) (by kernel_rfl) (by kernel_rfl) (fun _ _ _ h => h) (Or.inl ⟨by rfl, ?_⟩) (by assumption) ?_
  rotate_left
  · intro w hSw; (try dsimp only at hSw); go_simp; (try with_reducible rfl)
  (try simp only [Act.put, List.setIfInBounds_toArray, List.set_cons_zero, List.set_cons_succ])
  refine wpAnyH_take (i := 2) (oi := { dst := some 26, op := Op.load 26 (Operand.tmp 3), type := 26, pos := "exact.go:3793", after := #[], guard := none }) (v := ?_) rfl (by kernel_rfl) (by kernel_rfl) (by kernel_rfl) (fun _ _ _ h => h) (Or.inl ⟨by rfl, ?_⟩) (by assumption) ?_
  rotate_left
  · intro w hSw; (try dsimp only at hSw); go_simp; (try with_reducible rfl)
  (try simp only [Act.put, List.setIfInBounds_toArray, List.set_cons_zero, List.set_cons_succ])
  refine wpAnyH_ready (rs := [1]) (by kernel_rfl) (by simp) ?_
  refine AllReadyH.cons (o := { dst := some 25, op := Op.call { callee := Callee.value (Operand.func 7), args := #[Operand.tmp 24], argTypes := #[22] }, type := 31, pos := "exact.go:3793", after := #[{ on := 0, ground := Ground.data }], guard := none }) rfl (fun K hK => ?_) (AllReadyH.nil)
  go_simp
  refine (HT0.out _ B.out).mono ?_
  rintro e W3 ⟨x0, rfl, q, hb⟩
  have BD := BD.trans (hb.mono BD.size)
  have P := Lib.hid (HP1.out.below hb); clear HP1; have HP1 := P; clear P
  have B1 := Lib.hid (B.out.trans (hb.mono B.out.size)); clear B; have B := B1; clear B1
  have O5 := Lib.hid (hb.size)
  have Qx0 := Lib.hid q.at; clear q hb
  obtain ⟨px0, cx0, rfl⟩ := Qx0.out.sl
  clear hHeld
  refine hK.out _ _ ?_ (fun hHeld => ?_)
  · (try dsimp only)
    first | exact SK.out _ (by assumption) | exact SK.out _ BD
  clear hK K
  (try simp only [Act.put, List.setIfInBounds_toArray, List.set_cons_zero, List.set_cons_succ])
  refine wpAnyH_ready (rs := [3]) (by kernel_rfl) (by simp) ?_
  refine AllReadyH.cons (o := { dst := some 27, op := Op.call { callee := Callee.value (Operand.func 8), args := #[Operand.tmp 26], argTypes := #[26] }, type := 36, pos := "exact.go:3793", after := #[{ on := 2, ground := Ground.data }, { on := 1, ground := Ground.chain }], guard := none }) rfl (fun K hK => ?_) (AllReadyH.nil)
  go_simp
  refine (HT1.out _ B.out).mono ?_
  rintro e W4 ⟨x100, x101, rfl, q, hb⟩
  have BD := BD.trans (hb.mono BD.size)
  have P := Lib.hid (HP1.out.below hb); clear HP1; have HP1 := P; clear P
  have P := Lib.hid (Qx0.out.frame (Same.of_below' hb)); clear Qx0; have Qx0 := P; clear P
  have B1 := Lib.hid (B.out.trans (hb.mono B.out.size)); clear B; have B := B1; clear B1
  have O6 := Lib.hid (hb.size)
  have Qx1 := Lib.hid (entryE.ownAt q); clear q hb
  have Z := entry_atp Qx1.out
  obtain ⟨px100, cx100, rfl⟩ := Z.1.sl
  obtain ⟨px101, cx101, rfl⟩ := Z.2.sl
  clear Z
  clear hHeld
  refine hK.out _ _ ?_ (fun hHeld => ?_)
  · (try dsimp only)
    first | exact SK.out _ (by assumption) | exact SK.out _ BD
  clear hK K
  (try simp only [Act.put, List.setIfInBounds_toArray, List.set_cons_zero, List.set_cons_succ])
  refine wpAnyH_ready (rs := [4]) (by kernel_rfl) (by simp) ?_
  refine AllReadyH.cons (o := { dst := some 28, op := Op.call { callee := Callee.value (Operand.func 6), args := #[Operand.tmp 25, Operand.tmp 27], argTypes := #[31, 36] }, type := 29, pos := "exact.go:3793", after := #[{ on := 1, ground := Ground.data }, { on := 3, ground := Ground.data }, { on := 3, ground := Ground.chain }], guard := none }) rfl (fun K hK => ?_) (AllReadyH.nil)
  go_simp
  refine (HS.out _  _ _ _ _ _ _ Qx0.out (entry_atp Qx1.out).1 (entry_atp Qx1.out).2).mono ?_
  rintro e W5 ⟨⟨u9, rfl, q⟩, hb⟩
  clear Qx0
  clear Qx1
  have BD := BD.trans (hb.mono BD.size)
  have P := Lib.hid (HP1.out.below hb); clear HP1; have HP1 := P; clear P
  have B1 := Lib.hid (B.out.trans (hb.mono B.out.size)); clear B; have B := B1; clear B1
  have O7 := Lib.hid (hb.size)
  have Qw := Lib.hid q; clear q hb
  obtain ⟨pw, cw, rfl⟩ := Qw.out.at.sl
  clear hHeld
  refine hK.out _ _ ?_ (fun hHeld => ?_)
  · (try dsimp only)
    first | exact SK.out _ (by assumption) | exact SK.out _ BD
  clear hK K
  (try simp only [Act.put, List.setIfInBounds_toArray, List.set_cons_zero, List.set_cons_succ])
  refine wpAnyH_take (i := 5) (oi := { dst := some 6, op := Op.assign (Operand.tmp 28), type := 29, pos := "exact.go:3793", after := #[{ on := 4, ground := Ground.data }, { on := 4, ground := Ground.chain }, { on := 0, ground := Ground.phase }, { on := 1, ground := Ground.phase }, { on := 2, ground := Ground.phase }, { on := 3, ground := Ground.phase }, { on := 4, ground := Ground.phase }], guard := none }) (v := ?_) rfl (by kernel_rfl) (by kernel_rfl) (by kernel_rfl) (fun _ _ _ h => h) (Or.inl ⟨by rfl, ?_⟩) (by assumption) ?_
  rotate_left
  · intro w hSw; (try dsimp only at hSw); go_simp; (try with_reducible rfl)
  (try simp only [Act.put, List.setIfInBounds_toArray, List.set_cons_zero, List.set_cons_succ])
  refine wpAnyH_done (by kernel_rfl) ?_ _
  clear SK BD
  go_wp2_with fail
  refine (HT0.out _ B.out).mono ?_
  rintro e W6 ⟨y0, rfl, q, hb⟩
  have P := Lib.hid (HP1.out.below hb); clear HP1; have HP1 := P; clear P
  have P := Lib.hid (Qw.out.frame (Same.of_below' hb)); clear Qw; have Qw := P; clear P
  have B1 := Lib.hid (B.out.trans (hb.mono B.out.size)); clear B; have B := B1; clear B1
  have O8 := Lib.hid (hb.size)
  have Qy0 := Lib.hid q.at; have OY0 := Lib.hid q; clear q hb
  obtain ⟨py0, cy0, rfl⟩ := Qy0.out.sl
  have pm0 := HP1.out.cell 0 rfl
  have pm1 := HP1.out.cell 1 rfl
  go_wp2_with fail
  clear pm0 pm1
  refine (HT1.out _ B.out).mono ?_
  rintro e W7 ⟨y100, y101, rfl, q, hb⟩
  have P := Lib.hid (HP1.out.below hb); clear HP1; have HP1 := P; clear P
  have P := Lib.hid (Qw.out.frame (Same.of_below' hb)); clear Qw; have Qw := P; clear P
  have P := Lib.hid (Qy0.out.frame (Same.of_below' hb)); clear Qy0; have Qy0 := P; clear P
  have P := Lib.hid (OY0.out.frame (Same.of_below' hb)); clear OY0; have OY0 := P; clear P
  have B1 := Lib.hid (B.out.trans (hb.mono B.out.size)); clear B; have B := B1; clear B1
  have O9 := Lib.hid (hb.size)
  have Qy1 := Lib.hid (entryE.ownAt q); have OY1 := Lib.hid q; clear q hb
  have Z := entry_atp Qy1.out
  obtain ⟨py100, cy100, rfl⟩ := Z.1.sl
  obtain ⟨py101, cy101, rfl⟩ := Z.2.sl
  clear Z
  go_wp2_with fail
  refine calls_by (fun W => Below W7.heap.size W7 W ∧ Blk W W7.heap.size [.slice py100 a100.length cy100, .slice py101 a101.length cy101]) ⟨more' (Below.refl _ _) _, Blk.new _ _ _⟩ ?_
  rintro V7 ⟨hb, t⟩
  have P := Lib.hid (HP1.out.below hb); clear HP1; have HP1 := P; clear P
  have P := Lib.hid (Qw.out.frame (Same.of_below' hb)); clear Qw; have Qw := P; clear P
  have P := Lib.hid (Qy0.out.frame (Same.of_below' hb)); clear Qy0; have Qy0 := P; clear P
  have P := Lib.hid (OY0.out.frame (Same.of_below' hb)); clear OY0; have OY0 := P; clear P
  have P := Lib.hid (entryE.frame Qy1.out (Same.of_below' hb)); clear Qy1; have Qy1 := P; clear P
  have P := Lib.hid (entryE.ownFrame OY1.out (Same.of_below' hb)); clear OY1; have OY1 := P; clear P
  have B1 := Lib.hid (B.out.trans (hb.mono B.out.size)); clear B; have B := B1; clear B1
  have O10 := Lib.hid (hb.size)
  clear hb
  have HX1 := Lib.hid t; clear t
  have O11 := Lib.hid (HX1.out.lt)
  refine (HI.out _ B.out _ _ _ _ _ _ Qy0.out (entry_atp Qy1.out).1 (entry_atp Qy1.out).2).mono ?_
  rintro e W8 ⟨⟨u9, rfl, q⟩, hb⟩
  have P := Lib.hid (HP1.out.below hb); clear HP1; have HP1 := P; clear P
  have P := Lib.hid (Qw.out.frame (Same.of_below' hb)); clear Qw; have Qw := P; clear P
  have P := Lib.hid (Qy0.out.frame (Same.of_below' hb)); clear Qy0; have Qy0 := P; clear P
  have P := Lib.hid (OY0.out.frame (Same.of_below' hb)); clear OY0; have OY0 := P; clear P
  have P := Lib.hid (entryE.frame Qy1.out (Same.of_below' hb)); clear Qy1; have Qy1 := P; clear P
  have P := Lib.hid (entryE.ownFrame OY1.out (Same.of_below' hb)); clear OY1; have OY1 := P; clear P
  have P := Lib.hid (HX1.out.below hb); clear HX1; have HX1 := P; clear P
  have B1 := Lib.hid (B.out.trans (hb.mono B.out.size)); clear B; have B := B1; clear B1
  have O12 := Lib.hid (hb.size)
  have Qg := Lib.hid q; clear q hb
  obtain ⟨pg, cg, rfl⟩ := Qg.out.at.sl
  have bm0 := HX1.out.cell 0 rfl
  have bm1 := HX1.out.cell 1 rfl
  go_wp2_with fail
  clear bm0 bm1
  refine (HQR.out _ _ _ _ _ Qg.out.at Qw.out.at).mono ?_
  rintro e W9 ⟨rfl, hb⟩
  have P := Lib.hid (HP1.out.below hb); clear HP1; have HP1 := P; clear P
  have P := Lib.hid (Qw.out.frame (Same.of_below' hb)); clear Qw; have Qw := P; clear P
  have P := Lib.hid (Qy0.out.frame (Same.of_below' hb)); clear Qy0; have Qy0 := P; clear P
  have P := Lib.hid (OY0.out.frame (Same.of_below' hb)); clear OY0; have OY0 := P; clear P
  have P := Lib.hid (entryE.frame Qy1.out (Same.of_below' hb)); clear Qy1; have Qy1 := P; clear P
  have P := Lib.hid (entryE.ownFrame OY1.out (Same.of_below' hb)); clear OY1; have OY1 := P; clear P
  have P := Lib.hid (HX1.out.below hb); clear HX1; have HX1 := P; clear P
  have P := Lib.hid (Qg.out.frame (Same.of_below' hb)); clear Qg; have Qg := P; clear P
  have B1 := Lib.hid (B.out.trans (hb.mono B.out.size)); clear B; have B := B1; clear B1
  have O13 := Lib.hid (hb.size)
  clear hb
  go_wp2_with fail
  refine (HT0.out _ B.out).mono ?_
  rintro e W10 ⟨z0, rfl, q, hb⟩
  have P := Lib.hid (HP1.out.below hb); clear HP1; have HP1 := P; clear P
  have P := Lib.hid (Qw.out.frame (Same.of_below' hb)); clear Qw; have Qw := P; clear P
  have P := Lib.hid (Qy0.out.frame (Same.of_below' hb)); clear Qy0; have Qy0 := P; clear P
  have P := Lib.hid (OY0.out.frame (Same.of_below' hb)); clear OY0; have OY0 := P; clear P
  have P := Lib.hid (entryE.frame Qy1.out (Same.of_below' hb)); clear Qy1; have Qy1 := P; clear P
  have P := Lib.hid (entryE.ownFrame OY1.out (Same.of_below' hb)); clear OY1; have OY1 := P; clear P
  have P := Lib.hid (HX1.out.below hb); clear HX1; have HX1 := P; clear P
  have P := Lib.hid (Qg.out.frame (Same.of_below' hb)); clear Qg; have Qg := P; clear P
  have B1 := Lib.hid (B.out.trans (hb.mono B.out.size)); clear B; have B := B1; clear B1
  have O14 := Lib.hid (hb.size)
  have Qz0 := Lib.hid q.at; clear q hb
  obtain ⟨pz0, cz0, rfl⟩ := Qz0.out.sl
  go_wp2_with fail
  refine (HQ0.out _ _ _ _ _ Qy0.out Qz0.out).mono ?_
  rintro e W11 ⟨rfl, hb⟩
  have P := Lib.hid (HP1.out.below hb); clear HP1; have HP1 := P; clear P
  have P := Lib.hid (Qw.out.frame (Same.of_below' hb)); clear Qw; have Qw := P; clear P
  have P := Lib.hid (Qy0.out.frame (Same.of_below' hb)); clear Qy0; have Qy0 := P; clear P
  have P := Lib.hid (OY0.out.frame (Same.of_below' hb)); clear OY0; have OY0 := P; clear P
  have P := Lib.hid (entryE.frame Qy1.out (Same.of_below' hb)); clear Qy1; have Qy1 := P; clear P
  have P := Lib.hid (entryE.ownFrame OY1.out (Same.of_below' hb)); clear OY1; have OY1 := P; clear P
  have P := Lib.hid (HX1.out.below hb); clear HX1; have HX1 := P; clear P
  have P := Lib.hid (Qg.out.frame (Same.of_below' hb)); clear Qg; have Qg := P; clear P
  have P := Lib.hid (Qz0.out.frame (Same.of_below' hb)); clear Qz0; have Qz0 := P; clear P
  have B1 := Lib.hid (B.out.trans (hb.mono B.out.size)); clear B; have B := B1; clear B1
  have O15 := Lib.hid (hb.size)
  clear hb
  clear Qz0
  go_wp2
  have hb : Below W11.heap.size W11 W11.drew := (Below.refl _ _).drew
  have SK : Hid (∀ Z' : World, Below W11.heap.size W11 Z' → Z'.cell? ⟨w.heap.size, 0, none⟩ = some (.slice o100 a100.length k100) ∧ Z'.cell? ⟨w.heap.size, 1, none⟩ = some (.slice o101 a101.length k101) ∧ Z'.cell? ⟨W7.heap.size, 0, none⟩ = some (.slice py100 a100.length cy100) ∧ Z'.cell? ⟨W7.heap.size, 1, none⟩ = some (.slice py101 a101.length cy101)) := Lib.hid (fun Z' h => ⟨(HP1.out.below h).cell 0 rfl, (HP1.out.below h).cell 1 rfl, (HX1.out.below h).cell 0 rfl, (HX1.out.below h).cell 1 rfl⟩)
  have BD : Below W11.heap.size W11 W11.drew := hb
  have P := Lib.hid (HP1.out.below hb); clear HP1; have HP1 := P; clear P
  have P := Lib.hid (Qw.out.frame (Same.of_below' hb)); clear Qw; have Qw := P; clear P
  have P := Lib.hid (Qy0.out.frame (Same.of_below' hb)); clear Qy0; have Qy0 := P; clear P
  have P := Lib.hid (OY0.out.frame (Same.of_below' hb)); clear OY0; have OY0 := P; clear P
  have P := Lib.hid (entryE.frame Qy1.out (Same.of_below' hb)); clear Qy1; have Qy1 := P; clear P
  have P := Lib.hid (entryE.ownFrame OY1.out (Same.of_below' hb)); clear OY1; have OY1 := P; clear P
  have P := Lib.hid (HX1.out.below hb); clear HX1; have HX1 := P; clear P
  have P := Lib.hid (Qg.out.frame (Same.of_below' hb)); clear Qg; have Qg := P; clear P
  have B1 := Lib.hid (B.out.trans (hb.mono B.out.size)); clear B; have B := B1; clear B1
  have O16 := Lib.hid (hb.size)
  clear hb
  refine wp_region_held_drew (S := (fun Z' => Z'.cell? ⟨w.heap.size, 0, none⟩ = some (.slice o100 a100.length k100) ∧ Z'.cell? ⟨w.heap.size, 1, none⟩ = some (.slice o101 a101.length k101) ∧ Z'.cell? ⟨W7.heap.size, 0, none⟩ = some (.slice py100 a100.length cy100) ∧ Z'.cell? ⟨W7.heap.size, 1, none⟩ = some (.slice py101 a101.length cy101))) (by kernel_rfl) ?_ (fun hHeld => ?_)
  · (try dsimp only)
    first | exact SK.out _ (by assumption) | exact SK.out _ BD
  refine wpAnyH_take (i := 0) (oi := { dst := some 45, op := Op.load 36 (Operand.tmp 8), type := 36, pos := "exact.go:3803", after := #[], guard := none }) (v := ?_) rfl (by kernel_rfl) (by kernel_rfl) (by kernel_rfl) (fun _ _ _ h => h) (Or.inl ⟨by rfl, ?_⟩) (by assumption) ?_
  rotate_left
  · intro w hSw; (try dsimp only at hSw); go_simp; (try with_reducible rfl)
  (try simp only [Act.put, List.setIfInBounds_toArray, List.set_cons_zero, List.set_cons_succ])
  refine wpAnyH_take (i := 1) (oi := { dst := some 46, op := Op.load 26 (Operand.tmp 3), type := 26, pos := "exact.go:3803", after := #[], guard := none }) (v := ?_) rfl (by kernel_rfl) (by kernel_rfl) (by kernel_rfl) (fun _ _ _ h => h) (Or.inl ⟨by rfl, ?_⟩) (by assumption) ?_
  rotate_left
  · intro w hSw; (try dsimp only at hSw); go_simp; (try with_reducible rfl)
  (try simp only [Act.put, List.setIfInBounds_toArray, List.set_cons_zero, List.set_cons_succ])
  refine wpAnyH_ready (rs := [2]) (by kernel_rfl) (by simp) ?_
  refine AllReadyH.cons (o := { dst := some 47, op := Op.call { callee := Callee.value (Operand.func 8), args := #[Operand.tmp 46], argTypes := #[26] }, type := 36, pos := "exact.go:3803", after := #[{ on := 1, ground := Ground.data }], guard := none }) rfl (fun K hK => ?_) (AllReadyH.nil)
  go_simp
  refine (HT1.out _ B.out).mono ?_
  rintro e W12 ⟨z100, z101, rfl, q, hb⟩
  have BD := BD.trans (hb.mono BD.size)
  have P := Lib.hid (HP1.out.below hb); clear HP1; have HP1 := P; clear P
  have P := Lib.hid (Qw.out.frame (Same.of_below' hb)); clear Qw; have Qw := P; clear P
  have P := Lib.hid (Qy0.out.frame (Same.of_below' hb)); clear Qy0; have Qy0 := P; clear P
  have P := Lib.hid (OY0.out.frame (Same.of_below' hb)); clear OY0; have OY0 := P; clear P
  have P := Lib.hid (entryE.frame Qy1.out (Same.of_below' hb)); clear Qy1; have Qy1 := P; clear P
  have P := Lib.hid (entryE.ownFrame OY1.out (Same.of_below' hb)); clear OY1; have OY1 := P; clear P
  have P := Lib.hid (HX1.out.below hb); clear HX1; have HX1 := P; clear P
  have P := Lib.hid (Qg.out.frame (Same.of_below' hb)); clear Qg; have Qg := P; clear P
  have B1 := Lib.hid (B.out.trans (hb.mono B.out.size)); clear B; have B := B1; clear B1
  have O17 := Lib.hid (hb.size)
  have Qz1 := Lib.hid (entryE.ownAt q); clear q hb
  have Z := entry_atp Qz1.out
  obtain ⟨pz100, cz100, rfl⟩ := Z.1.sl
  obtain ⟨pz101, cz101, rfl⟩ := Z.2.sl
  clear Z
  clear hHeld
  refine hK.out _ _ ?_ (fun hHeld => ?_)
  · (try dsimp only)
    first | exact SK.out _ (by assumption) | exact SK.out _ BD
  clear hK K
  (try simp only [Act.put, List.setIfInBounds_toArray, List.set_cons_zero, List.set_cons_succ])
  refine wpAnyH_ready (rs := [3]) (by kernel_rfl) (by simp) ?_
  refine AllReadyH.cons (o := { dst := some 48, op := Op.call { callee := Callee.value (Operand.func 12), args := #[Operand.tmp 45, Operand.tmp 47], argTypes := #[36, 36] }, type := 4, pos := "exact.go:3803", after := #[{ on := 0, ground := Ground.data }, { on := 2, ground := Ground.data }, { on := 2, ground := Ground.chain }], guard := none }) rfl (fun K hK => ?_) (AllReadyH.nil)
  go_simp
  refine (HQ1.out _ _ _ _ _ _ _ (entry_atp Qy1.out).1 (entry_atp Qy1.out).2 (entry_atp Qz1.out).1 (entry_atp Qz1.out).2).mono ?_
  rintro e W13 ⟨rfl, hb⟩
  have BD := BD.trans (hb.mono BD.size)
  have P := Lib.hid (HP1.out.below hb); clear HP1; have HP1 := P; clear P
  have P := Lib.hid (Qw.out.frame (Same.of_below' hb)); clear Qw; have Qw := P; clear P
  have P := Lib.hid (Qy0.out.frame (Same.of_below' hb)); clear Qy0; have Qy0 := P; clear P
  have P := Lib.hid (OY0.out.frame (Same.of_below' hb)); clear OY0; have OY0 := P; clear P
  have P := Lib.hid (entryE.frame Qy1.out (Same.of_below' hb)); clear Qy1; have Qy1 := P; clear P
  have P := Lib.hid (entryE.ownFrame OY1.out (Same.of_below' hb)); clear OY1; have OY1 := P; clear P
  have P := Lib.hid (HX1.out.below hb); clear HX1; have HX1 := P; clear P
  have P := Lib.hid (Qg.out.frame (Same.of_below' hb)); clear Qg; have Qg := P; clear P
  have P := Lib.hid (entryE.frame Qz1.out (Same.of_below' hb)); clear Qz1; have Qz1 := P; clear P
  have B1 := Lib.hid (B.out.trans (hb.mono B.out.size)); clear B; have B := B1; clear B1
  have O18 := Lib.hid (hb.size)
  clear hb
  clear hHeld
  refine hK.out _ _ ?_ (fun hHeld => ?_)
  · (try dsimp only)
    first | exact SK.out _ (by assumption) | exact SK.out _ BD
  clear hK K
  (try simp only [Act.put, List.setIfInBounds_toArray, List.set_cons_zero, List.set_cons_succ])
  refine wpAnyH_take (i := 4) (oi := { dst := some 49, op := Op.unOp UnOp.not 4 (Operand.tmp 48), type := 4, pos := "exact.go:3803", after := #[{ on := 3, ground := Ground.data }], guard := none }) (v := ?_) rfl (by kernel_rfl) (by kernel_rfl) (by kernel_rfl) (fun _ _ _ h => h) (Or.inl ⟨by rfl, ?_⟩) (by assumption) ?_
  rotate_left
  · intro w hSw; (try dsimp only at hSw); go_simp; (try with_reducible rfl)
  (try simp only [Act.put, List.setIfInBounds_toArray, List.set_cons_zero, List.set_cons_succ])
  refine wpAnyH_done (by kernel_rfl) ?_ _
  clear SK BD
  clear Qz1
  clear Qy0
  clear Qy1
  have bm0 := HX1.out.cell 0 rfl
  have bm1 := HX1.out.cell 1 rfl
  go_wp2_with fail
  clear bm0 bm1
  have mz := HZ0.out; have mc0 := cnt_fit (e := classE) d0 (by decide) mz
  refine (markClassS_at _ d0 (1) _ OY0.out (by omega) (by omega) (by omega) (by omega)).mono ?_
  rintro e W14 ⟨rfl, _, ht⟩
  clear mz
  have P := Lib.hid (HP1.out.turn ht (by rintro ⟨z3, z4⟩; have := O0.out; have := O1.out; have := O2.out; have := O3.out; have := O4.out; have := O5.out; have := O6.out; have := O7.out; have := O8.out; have := O9.out; have := O10.out; have := O11.out; have := O12.out; have := O13.out; have := O14.out; have := O15.out; have := O16.out; have := O17.out; have := O18.out; omega)); clear HP1; have HP1 := P; clear P
  have P := Lib.hid (Qw.out.frame (ht.same (by rintro k ⟨z1, z2⟩ ⟨z3, z4⟩; have := O0.out; have := O1.out; have := O2.out; have := O3.out; have := O4.out; have := O5.out; have := O6.out; have := O7.out; have := O8.out; have := O9.out; have := O10.out; have := O11.out; have := O12.out; have := O13.out; have := O14.out; have := O15.out; have := O16.out; have := O17.out; have := O18.out; omega))); clear Qw; have Qw := P; clear P
  have P := Lib.hid (entryE.ownFrame OY1.out (ht.same (by rintro k ⟨z1, z2⟩ ⟨z3, z4⟩; have := O0.out; have := O1.out; have := O2.out; have := O3.out; have := O4.out; have := O5.out; have := O6.out; have := O7.out; have := O8.out; have := O9.out; have := O10.out; have := O11.out; have := O12.out; have := O13.out; have := O14.out; have := O15.out; have := O16.out; have := O17.out; have := O18.out; omega))); clear OY1; have OY1 := P; clear P
  have P := Lib.hid (HX1.out.turn ht (by rintro ⟨z3, z4⟩; have := O0.out; have := O1.out; have := O2.out; have := O3.out; have := O4.out; have := O5.out; have := O6.out; have := O7.out; have := O8.out; have := O9.out; have := O10.out; have := O11.out; have := O12.out; have := O13.out; have := O14.out; have := O15.out; have := O16.out; have := O17.out; have := O18.out; omega)); clear HX1; have HX1 := P; clear P
  have P := Lib.hid (Qg.out.frame (ht.same (by rintro k ⟨z1, z2⟩ ⟨z3, z4⟩; have := O0.out; have := O1.out; have := O2.out; have := O3.out; have := O4.out; have := O5.out; have := O6.out; have := O7.out; have := O8.out; have := O9.out; have := O10.out; have := O11.out; have := O12.out; have := O13.out; have := O14.out; have := O15.out; have := O16.out; have := O17.out; have := O18.out; omega))); clear Qg; have Qg := P; clear P
  have B1 := Lib.hid (ht.below B.out (by rintro k ⟨z3, z4⟩; have := O0.out; have := O1.out; have := O2.out; have := O3.out; have := O4.out; have := O5.out; have := O6.out; have := O7.out; have := O8.out; have := O9.out; have := O10.out; have := O11.out; have := O12.out; have := O13.out; have := O14.out; have := O15.out; have := O16.out; have := O17.out; have := O18.out; omega)); clear B; have B := B1; clear B1
  have O19 := Lib.hid (ht.size)
  clear OY0 ht
  have bm0 := HX1.out.cell 0 rfl
  have bm1 := HX1.out.cell 1 rfl
  go_wp2_with fail
  clear bm0 bm1
  have mz : (a100.length + szL rdnE a100) + ((a101.length + szL attrE a101)) ≤ 1048576 := HZ1.out
  have mc100 := cnt_fit (e := rdnE) a100 (by decide) (by omega)
  have mc101 := cnt_fit (e := attrE) a101 (by decide) (by omega)
  obtain ⟨S0, S1, q0, i0, q1, i1, d01, _⟩ := entry_op OY1.out
  refine (markEntry_fl a100 a101 _ _ S0 S1 (1 + cntL classE d0) _ q0 (by omega) (by omega) q1 (by omega) (by omega) d01 (fun b h => by have := (i0 b h).2; have := O0.out; have := O1.out; have := O2.out; have := O3.out; have := O4.out; have := O5.out; have := O6.out; have := O7.out; have := O8.out; have := O9.out; have := O10.out; have := O11.out; have := O12.out; have := O13.out; have := O14.out; have := O15.out; have := O16.out; have := O17.out; have := O18.out; have := O19.out; omega) (fun b h => by have := (i1 b h).2; have := O0.out; have := O1.out; have := O2.out; have := O3.out; have := O4.out; have := O5.out; have := O6.out; have := O7.out; have := O8.out; have := O9.out; have := O10.out; have := O11.out; have := O12.out; have := O13.out; have := O14.out; have := O15.out; have := O16.out; have := O17.out; have := O18.out; have := O19.out; omega) (by omega) (by omega)).mono ?_
  rintro e W15 ⟨rfl, _, _, ht⟩
  have ht := ht.wide (fun k z => by rcases z with z | z; exact i0 k z; exact i1 k z)
  clear mz q0 i0 q1 i1 d01
  have P := Lib.hid (HP1.out.turn ht (by rintro ⟨z3, z4⟩; have := O0.out; have := O1.out; have := O2.out; have := O3.out; have := O4.out; have := O5.out; have := O6.out; have := O7.out; have := O8.out; have := O9.out; have := O10.out; have := O11.out; have := O12.out; have := O13.out; have := O14.out; have := O15.out; have := O16.out; have := O17.out; have := O18.out; have := O19.out; omega)); clear HP1; have HP1 := P; clear P
  have P := Lib.hid (Qw.out.frame (ht.same (by rintro k ⟨z1, z2⟩ ⟨z3, z4⟩; have := O0.out; have := O1.out; have := O2.out; have := O3.out; have := O4.out; have := O5.out; have := O6.out; have := O7.out; have := O8.out; have := O9.out; have := O10.out; have := O11.out; have := O12.out; have := O13.out; have := O14.out; have := O15.out; have := O16.out; have := O17.out; have := O18.out; have := O19.out; omega))); clear Qw; have Qw := P; clear P
  have P := Lib.hid (HX1.out.turn ht (by rintro ⟨z3, z4⟩; have := O0.out; have := O1.out; have := O2.out; have := O3.out; have := O4.out; have := O5.out; have := O6.out; have := O7.out; have := O8.out; have := O9.out; have := O10.out; have := O11.out; have := O12.out; have := O13.out; have := O14.out; have := O15.out; have := O16.out; have := O17.out; have := O18.out; have := O19.out; omega)); clear HX1; have HX1 := P; clear P
  have P := Lib.hid (Qg.out.frame (ht.same (by rintro k ⟨z1, z2⟩ ⟨z3, z4⟩; have := O0.out; have := O1.out; have := O2.out; have := O3.out; have := O4.out; have := O5.out; have := O6.out; have := O7.out; have := O8.out; have := O9.out; have := O10.out; have := O11.out; have := O12.out; have := O13.out; have := O14.out; have := O15.out; have := O16.out; have := O17.out; have := O18.out; have := O19.out; omega))); clear Qg; have Qg := P; clear P
  have B1 := Lib.hid (ht.below B.out (by rintro k ⟨z3, z4⟩; have := O0.out; have := O1.out; have := O2.out; have := O3.out; have := O4.out; have := O5.out; have := O6.out; have := O7.out; have := O8.out; have := O9.out; have := O10.out; have := O11.out; have := O12.out; have := O13.out; have := O14.out; have := O15.out; have := O16.out; have := O17.out; have := O18.out; have := O19.out; omega)); clear B; have B := B1; clear B1
  have O20 := Lib.hid (ht.size)
  clear OY1 ht
  have hk : ¬ ((1 + cntL classE d0 + cntL rdnE a100 + cntL attrE a101 : Nat) : Int) < 0 := by omega
  have bm0 := HX1.out.cell 0 rfl
  have bm1 := HX1.out.cell 1 rfl
  go_wp2_with fail
  clear bm0 bm1
  refine (HQR.out _ _ _ _ _ Qg.out.at Qw.out.at).mono ?_
  rintro e W16 ⟨rfl, hb⟩
  have P := Lib.hid (HP1.out.below hb); clear HP1; have HP1 := P; clear P
  have P := Lib.hid (Qw.out.frame (Same.of_below' hb)); clear Qw; have Qw := P; clear P
  have P := Lib.hid (HX1.out.below hb); clear HX1; have HX1 := P; clear P
  have P := Lib.hid (Qg.out.frame (Same.of_below' hb)); clear Qg; have Qg := P; clear P
  have B1 := Lib.hid (B.out.trans (hb.mono B.out.size)); clear B; have B := B1; clear B1
  have O21 := Lib.hid (hb.size)
  clear hb
  clear hk mc0 mc100 mc101
  have mz := HRz.out; have mc := cnt_fit (e := strE) R (by decide) mz
  have HH : Hid (∀ (Y : World) (S : Bs), SlAt strE S Y (mkAll strE 1 R) (.slice pg R.length cg) → Calls Tryd.prog 16 #[.slice pg R.length cg, .int .i64 1] Y fun e w' => e = .returned (.int .i64 ((1 + cntL strE R : Nat) : Int)) ∧ Below Y.heap.size Y w') := Lib.hid (fun Y S h => heldStringS_at _ R 1 Y h (by omega) (by omega) (by omega) (by omega))
  have bm0 := HX1.out.cell 0 rfl
  have bm1 := HX1.out.cell 1 rfl
  go_wp2_with fail
  clear bm0 bm1
  refine (markStringS_at _ R 1 _ Qg.out (by omega) (by omega) (by omega) (by omega)).mono ?_
  rintro e W17 ⟨rfl, r, ht⟩
  have QM := Lib.hid r.at; clear r
  have P := Lib.hid (HP1.out.turn ht (by rintro ⟨z3, z4⟩; have := O0.out; have := O1.out; have := O2.out; have := O3.out; have := O4.out; have := O5.out; have := O6.out; have := O7.out; have := O8.out; have := O9.out; have := O10.out; have := O11.out; have := O12.out; have := O13.out; have := O14.out; have := O15.out; have := O16.out; have := O17.out; have := O18.out; have := O19.out; have := O20.out; have := O21.out; omega)); clear HP1; have HP1 := P; clear P
  have P := Lib.hid (Qw.out.frame (ht.same (by rintro k ⟨z1, z2⟩ ⟨z3, z4⟩; have := O0.out; have := O1.out; have := O2.out; have := O3.out; have := O4.out; have := O5.out; have := O6.out; have := O7.out; have := O8.out; have := O9.out; have := O10.out; have := O11.out; have := O12.out; have := O13.out; have := O14.out; have := O15.out; have := O16.out; have := O17.out; have := O18.out; have := O19.out; have := O20.out; have := O21.out; omega))); clear Qw; have Qw := P; clear P
  have P := Lib.hid (HX1.out.turn ht (by rintro ⟨z3, z4⟩; have := O0.out; have := O1.out; have := O2.out; have := O3.out; have := O4.out; have := O5.out; have := O6.out; have := O7.out; have := O8.out; have := O9.out; have := O10.out; have := O11.out; have := O12.out; have := O13.out; have := O14.out; have := O15.out; have := O16.out; have := O17.out; have := O18.out; have := O19.out; have := O20.out; have := O21.out; omega)); clear HX1; have HX1 := P; clear P
  have B1 := Lib.hid (ht.below B.out (by rintro k ⟨z3, z4⟩; have := O0.out; have := O1.out; have := O2.out; have := O3.out; have := O4.out; have := O5.out; have := O6.out; have := O7.out; have := O8.out; have := O9.out; have := O10.out; have := O11.out; have := O12.out; have := O13.out; have := O14.out; have := O15.out; have := O16.out; have := O17.out; have := O18.out; have := O19.out; have := O20.out; have := O21.out; omega)); clear B; have B := B1; clear B1
  have O22 := Lib.hid (ht.size)
  clear Qg ht
  have hq1 : ¬ ((1 + cntL strE R : Nat) : Int) < 0 := by omega
  generalize ((1 + cntL strE R : Nat) : Int) = Q at *
  have hq2 : (Q != Q) = false := by simp
  clear mz mc
  have bm0 := HX1.out.cell 0 rfl
  have bm1 := HX1.out.cell 1 rfl
  go_wp2_with fail
  clear bm0 bm1
  refine (HH.out _ _ QM.out).mono ?_
  rintro e W18 ⟨rfl, hb⟩
  have P := Lib.hid (HP1.out.below hb); clear HP1; have HP1 := P; clear P
  have P := Lib.hid (Qw.out.frame (Same.of_below' hb)); clear Qw; have Qw := P; clear P
  have P := Lib.hid (HX1.out.below hb); clear HX1; have HX1 := P; clear P
  have P := Lib.hid (QM.out.frame (Same.of_below' hb)); clear QM; have QM := P; clear P
  have B1 := Lib.hid (B.out.trans (hb.mono B.out.size)); clear B; have B := B1; clear B1
  have O23 := Lib.hid (hb.size)
  clear hb
  go_wp2
  have hb : Below W18.heap.size W18 W18.drew := (Below.refl _ _).drew
  have SK : Hid (∀ Z' : World, Below W18.heap.size W18 Z' → Z'.cell? ⟨w.heap.size, 0, none⟩ = some (.slice o100 a100.length k100) ∧ Z'.cell? ⟨w.heap.size, 1, none⟩ = some (.slice o101 a101.length k101) ∧ Z'.cell? ⟨W7.heap.size, 0, none⟩ = some (.slice py100 a100.length cy100) ∧ Z'.cell? ⟨W7.heap.size, 1, none⟩ = some (.slice py101 a101.length cy101)) := Lib.hid (fun Z' h => ⟨(HP1.out.below h).cell 0 rfl, (HP1.out.below h).cell 1 rfl, (HX1.out.below h).cell 0 rfl, (HX1.out.below h).cell 1 rfl⟩)
  have BD : Below W18.heap.size W18 W18.drew := hb
  have P := Lib.hid (HP1.out.below hb); clear HP1; have HP1 := P; clear P
  have P := Lib.hid (Qw.out.frame (Same.of_below' hb)); clear Qw; have Qw := P; clear P
  have P := Lib.hid (HX1.out.below hb); clear HX1; have HX1 := P; clear P
  have P := Lib.hid (QM.out.frame (Same.of_below' hb)); clear QM; have QM := P; clear P
  have B1 := Lib.hid (B.out.trans (hb.mono B.out.size)); clear B; have B := B1; clear B1
  have O24 := Lib.hid (hb.size)
  clear hb
  refine wp_region_held_drew (S := (fun Z' => Z'.cell? ⟨w.heap.size, 0, none⟩ = some (.slice o100 a100.length k100) ∧ Z'.cell? ⟨w.heap.size, 1, none⟩ = some (.slice o101 a101.length k101) ∧ Z'.cell? ⟨W7.heap.size, 0, none⟩ = some (.slice py100 a100.length cy100) ∧ Z'.cell? ⟨W7.heap.size, 1, none⟩ = some (.slice py101 a101.length cy101))) (by kernel_rfl) ?_ (fun hHeld => ?_)
  · (try dsimp only)
    first | exact SK.out _ (by assumption) | exact SK.out _ BD
  refine wpAnyH_take (i := 0) (oi := { dst := some 75, op := Op.move (Operand.tmp 0), type := 22, pos := "exact.go:3822", after := #[], guard := none }) (v := ?_) rfl (by kernel_rfl) (by kernel_rfl) (by kernel_rfl) (fun _ _ _ h => h) (Or.inl ⟨by rfl, ?_⟩) (by assumption) ?_
  rotate_left
  · intro w hSw; (try dsimp only at hSw); go_simp; (try with_reducible rfl)
  (try simp only [Act.put, List.setIfInBounds_toArray, List.set_cons_zero, List.set_cons_succ])
  refine wpAnyH_take (i := 2) (oi := { dst := some 77, op := Op.load 26 (Operand.tmp 3), type := 26, pos := "exact.go:3822", after := #[], guard := none }) (v := ?_) rfl (by kernel_rfl) (by kernel_rfl) (by kernel_rfl) (fun _ _ _ h => h) (Or.inl ⟨by rfl, ?_⟩) (by assumption) ?_
  rotate_left
  · intro w hSw; (try dsimp only at hSw); go_simp; (try with_reducible rfl)
  (try simp only [Act.put, List.setIfInBounds_toArray, List.set_cons_zero, List.set_cons_succ])
  refine wpAnyH_ready (rs := [1]) (by kernel_rfl) (by simp) ?_
  refine AllReadyH.cons (o := { dst := some 76, op := Op.call { callee := Callee.value (Operand.func 7), args := #[Operand.tmp 75], argTypes := #[22] }, type := 31, pos := "exact.go:3822", after := #[{ on := 0, ground := Ground.data }], guard := none }) rfl (fun K hK => ?_) (AllReadyH.nil)
  go_simp
  refine (HT0.out _ B.out).mono ?_
  rintro e W19 ⟨x0, rfl, q, hb⟩
  have BD := BD.trans (hb.mono BD.size)
  have P := Lib.hid (HP1.out.below hb); clear HP1; have HP1 := P; clear P
  have P := Lib.hid (Qw.out.frame (Same.of_below' hb)); clear Qw; have Qw := P; clear P
  have P := Lib.hid (HX1.out.below hb); clear HX1; have HX1 := P; clear P
  have P := Lib.hid (QM.out.frame (Same.of_below' hb)); clear QM; have QM := P; clear P
  have B1 := Lib.hid (B.out.trans (hb.mono B.out.size)); clear B; have B := B1; clear B1
  have O25 := Lib.hid (hb.size)
  have Qx0 := Lib.hid q.at; clear q hb
  obtain ⟨px0, cx0, rfl⟩ := Qx0.out.sl
  clear hHeld
  refine hK.out _ _ ?_ (fun hHeld => ?_)
  · (try dsimp only)
    first | exact SK.out _ (by assumption) | exact SK.out _ BD
  clear hK K
  (try simp only [Act.put, List.setIfInBounds_toArray, List.set_cons_zero, List.set_cons_succ])
  refine wpAnyH_ready (rs := [3]) (by kernel_rfl) (by simp) ?_
  refine AllReadyH.cons (o := { dst := some 78, op := Op.call { callee := Callee.value (Operand.func 8), args := #[Operand.tmp 77], argTypes := #[26] }, type := 36, pos := "exact.go:3822", after := #[{ on := 2, ground := Ground.data }, { on := 1, ground := Ground.chain }], guard := none }) rfl (fun K hK => ?_) (AllReadyH.nil)
  go_simp
  refine (HT1.out _ B.out).mono ?_
  rintro e W20 ⟨x100, x101, rfl, q, hb⟩
  have BD := BD.trans (hb.mono BD.size)
  have P := Lib.hid (HP1.out.below hb); clear HP1; have HP1 := P; clear P
  have P := Lib.hid (Qw.out.frame (Same.of_below' hb)); clear Qw; have Qw := P; clear P
  have P := Lib.hid (HX1.out.below hb); clear HX1; have HX1 := P; clear P
  have P := Lib.hid (QM.out.frame (Same.of_below' hb)); clear QM; have QM := P; clear P
  have P := Lib.hid (Qx0.out.frame (Same.of_below' hb)); clear Qx0; have Qx0 := P; clear P
  have B1 := Lib.hid (B.out.trans (hb.mono B.out.size)); clear B; have B := B1; clear B1
  have O26 := Lib.hid (hb.size)
  have Qx1 := Lib.hid (entryE.ownAt q); clear q hb
  have Z := entry_atp Qx1.out
  obtain ⟨px100, cx100, rfl⟩ := Z.1.sl
  obtain ⟨px101, cx101, rfl⟩ := Z.2.sl
  clear Z
  clear hHeld
  refine hK.out _ _ ?_ (fun hHeld => ?_)
  · (try dsimp only)
    first | exact SK.out _ (by assumption) | exact SK.out _ BD
  clear hK K
  (try simp only [Act.put, List.setIfInBounds_toArray, List.set_cons_zero, List.set_cons_succ])
  refine wpAnyH_ready (rs := [4]) (by kernel_rfl) (by simp) ?_
  refine AllReadyH.cons (o := { dst := some 79, op := Op.call { callee := Callee.value (Operand.func 9), args := #[Operand.tmp 76, Operand.tmp 78], argTypes := #[31, 36] }, type := 29, pos := "exact.go:3822", after := #[{ on := 1, ground := Ground.data }, { on := 3, ground := Ground.data }, { on := 3, ground := Ground.chain }], guard := none }) rfl (fun K hK => ?_) (AllReadyH.nil)
  go_simp
  refine (HI.out _ B.out _ _ _ _ _ _ Qx0.out (entry_atp Qx1.out).1 (entry_atp Qx1.out).2).mono ?_
  rintro e W21 ⟨⟨u9, rfl, q⟩, hb⟩
  clear Qx0
  clear Qx1
  have BD := BD.trans (hb.mono BD.size)
  have P := Lib.hid (HP1.out.below hb); clear HP1; have HP1 := P; clear P
  have P := Lib.hid (Qw.out.frame (Same.of_below' hb)); clear Qw; have Qw := P; clear P
  have P := Lib.hid (HX1.out.below hb); clear HX1; have HX1 := P; clear P
  have P := Lib.hid (QM.out.frame (Same.of_below' hb)); clear QM; have QM := P; clear P
  have B1 := Lib.hid (B.out.trans (hb.mono B.out.size)); clear B; have B := B1; clear B1
  have O27 := Lib.hid (hb.size)
  have Qh := Lib.hid q; clear q hb
  obtain ⟨ph, ch, rfl⟩ := Qh.out.at.sl
  clear hHeld
  refine hK.out _ _ ?_ (fun hHeld => ?_)
  · (try dsimp only)
    first | exact SK.out _ (by assumption) | exact SK.out _ BD
  clear hK K
  (try simp only [Act.put, List.setIfInBounds_toArray, List.set_cons_zero, List.set_cons_succ])
  refine wpAnyH_take (i := 5) (oi := { dst := some 13, op := Op.assign (Operand.tmp 79), type := 29, pos := "exact.go:3822", after := #[{ on := 4, ground := Ground.data }, { on := 4, ground := Ground.chain }, { on := 0, ground := Ground.phase }, { on := 1, ground := Ground.phase }, { on := 2, ground := Ground.phase }, { on := 3, ground := Ground.phase }, { on := 4, ground := Ground.phase }], guard := none }) (v := ?_) rfl (by kernel_rfl) (by kernel_rfl) (by kernel_rfl) (fun _ _ _ h => h) (Or.inl ⟨by rfl, ?_⟩) (by assumption) ?_
  rotate_left
  · intro w hSw; (try dsimp only at hSw); go_simp; (try with_reducible rfl)
  (try simp only [Act.put, List.setIfInBounds_toArray, List.set_cons_zero, List.set_cons_succ])
  refine wpAnyH_done (by kernel_rfl) ?_ _
  clear SK BD
  have bm0 := HX1.out.cell 0 rfl
  have bm1 := HX1.out.cell 1 rfl
  go_wp2_with fail
  clear bm0 bm1
  refine (HQR.out _ _ _ _ _ Qh.out.at Qw.out.at).mono ?_
  rintro e W22 ⟨rfl, hb⟩
  have P := Lib.hid (HP1.out.below hb); clear HP1; have HP1 := P; clear P
  have P := Lib.hid (Qw.out.frame (Same.of_below' hb)); clear Qw; have Qw := P; clear P
  have P := Lib.hid (HX1.out.below hb); clear HX1; have HX1 := P; clear P
  have P := Lib.hid (QM.out.frame (Same.of_below' hb)); clear QM; have QM := P; clear P
  have P := Lib.hid (Qh.out.frame (Same.of_below' hb)); clear Qh; have Qh := P; clear P
  have B1 := Lib.hid (B.out.trans (hb.mono B.out.size)); clear B; have B := B1; clear B1
  have O28 := Lib.hid (hb.size)
  clear hb
  have bm0 := HX1.out.cell 0 rfl
  have bm1 := HX1.out.cell 1 rfl
  go_wp2_with fail
  clear bm0 bm1
  refine (HH.out _ _ QM.out).mono ?_
  rintro e W23 ⟨rfl, hb⟩
  have P := Lib.hid (HP1.out.below hb); clear HP1; have HP1 := P; clear P
  have P := Lib.hid (Qw.out.frame (Same.of_below' hb)); clear Qw; have Qw := P; clear P
  have P := Lib.hid (HX1.out.below hb); clear HX1; have HX1 := P; clear P
  have P := Lib.hid (QM.out.frame (Same.of_below' hb)); clear QM; have QM := P; clear P
  have P := Lib.hid (Qh.out.frame (Same.of_below' hb)); clear Qh; have Qh := P; clear P
  have B1 := Lib.hid (B.out.trans (hb.mono B.out.size)); clear B; have B := B1; clear B1
  have O29 := Lib.hid (hb.size)
  clear hb
  go_wp2
  go_ret
  exact ⟨rfl, B.out⟩
end Go.Proofs.YtmanlnlhpgdbpaaDoor
/- Arguments of the laws: where they lie. -/
namespace Go.Proofs.YtmanlnlhpgdbpaaDoor
open Go.RowKit

open Go.ChangeShapes Go.WideShapes Go.Joins Go.Deep
theorem opn_str : Opens Tryd.prog 9 strE := opens_str Tryd.underlying9
theorem Tryd.cellStr : Tryd.prog.cellsOf 9 = strE.n := by kernel_rfl
theorem opn_int : Opens Tryd.prog 2 intE := opens_int Tryd.underlying2
theorem opn_strS : Opens Tryd.prog 29 (slE strE) := opens_sl Tryd.underlying29 Tryd.cellStr (by decide) opn_str
theorem Tryd.cellRdn : Tryd.prog.cellsOf 73 = rdnE.n := by kernel_rfl
set_option maxRecDepth 100000 in
theorem opn_rdn : Opens Tryd.prog 73 rdnE := opens_struct Tryd.underlying73 Tryd.cellRdn (ff_cons _ (by rfl) (by rfl) (by kernel_rfl) opn_str (ff_last _ (by rfl) (by rfl) (by kernel_rfl) (by rfl) opn_str))
theorem Tryd.cellAttr : Tryd.prog.cellsOf 76 = attrE.n := by kernel_rfl
set_option maxRecDepth 100000 in
theorem opn_attr : Opens Tryd.prog 76 attrE := opens_struct Tryd.underlying76 Tryd.cellAttr (ff_cons _ (by rfl) (by rfl) (by kernel_rfl) opn_str (ff_last _ (by rfl) (by rfl) (by kernel_rfl) (by rfl) opn_strS))
theorem opn_rdnS : Opens Tryd.prog 23 (slE rdnE) := opens_sl Tryd.underlying23 Tryd.cellRdn (by decide) opn_rdn
theorem opn_attrS : Opens Tryd.prog 24 (slE attrE) := opens_sl Tryd.underlying24 Tryd.cellAttr (by decide) opn_attr
theorem Tryd.cellEntry : Tryd.prog.cellsOf 26 = entryE.n := by kernel_rfl
set_option maxRecDepth 100000 in
theorem opn_entry : Opens Tryd.prog 26 entryE := opens_struct Tryd.underlying26 Tryd.cellEntry (ff_cons _ (by rfl) (by rfl) (by kernel_rfl) opn_rdnS (ff_last _ (by rfl) (by rfl) (by kernel_rfl) (by rfl) opn_attrS))
theorem Tryd.cellClass : Tryd.prog.cellsOf 47 = classE.n := by kernel_rfl
set_option maxRecDepth 100000 in
theorem opn_class : Opens Tryd.prog 47 classE := opens_struct Tryd.underlying47 Tryd.cellClass (ff_cons _ (by rfl) (by rfl) (by kernel_rfl) opn_str (ff_cons _ (by rfl) (by rfl) (by kernel_rfl) opn_strS (ff_cons _ (by rfl) (by rfl) (by kernel_rfl) opn_strS (ff_last _ (by rfl) (by rfl) (by kernel_rfl) (by rfl) opn_strS))))
theorem opn_classS : Opens Tryd.prog 22 (slE classE) := opens_sl Tryd.underlying22 Tryd.cellClass (by decide) opn_class
set_option maxRecDepth 100000 in
theorem opv_rdn {H : Type} {enc : TypeId × Value → H} {w : World} {base : Nat} {spare : Nat → Bool} {held : Bool} {r : Reach} {b0 : Nat} {v : Value} {d : DataW H} {p : List MemPlace} (hv : Value.okWide Tryd.prog w r b0 73 v) (h : DataW.Trod enc Tryd.prog w base spare held 73 v d p) :
    ∃ (a0 : ByteArray) (a1 : ByteArray) , v = .agg #[.string a0, .string a1] ∧ (True) ∧ rdnE.long (a0, a1) := by
  obtain ⟨cs, a, rfl, h1, h2⟩ := opv_struct Tryd.underlying73 opn_rdn hv h
  obtain ⟨a0, a1, rfl, e1, hq⟩ := rdn_atq h1
  refine ⟨a0, a1, agg_eq e1, ?_, h2⟩
  exact hq
set_option maxRecDepth 100000 in
theorem opv_attr {H : Type} {enc : TypeId × Value → H} {w : World} {base : Nat} {spare : Nat → Bool} {held : Bool} {r : Reach} {b0 : Nat} {v : Value} {d : DataW H} {p : List MemPlace} (hv : Value.okWide Tryd.prog w r b0 76 v) (h : DataW.Trod enc Tryd.prog w base spare held 76 v d p) :
    ∃ (a0 : ByteArray) (a1 : (List ByteArray)) (v1 : Value), v = .agg #[.string a0, v1] ∧ (SlAt strE (All w) w a1 v1) ∧ attrE.long (a0, a1) := by
  obtain ⟨cs, a, rfl, h1, h2⟩ := opv_struct Tryd.underlying76 opn_attr hv h
  obtain ⟨a0, a1, v1, rfl, e1, hq⟩ := attr_atq h1
  refine ⟨a0, a1, v1, agg_eq e1, ?_, h2⟩
  exact hq.1
set_option maxRecDepth 100000 in
theorem opv_entry {H : Type} {enc : TypeId × Value → H} {w : World} {base : Nat} {spare : Nat → Bool} {held : Bool} {r : Reach} {b0 : Nat} {v : Value} {d : DataW H} {p : List MemPlace} (hv : Value.okWide Tryd.prog w r b0 26 v) (h : DataW.Trod enc Tryd.prog w base spare held 26 v d p) :
    ∃ (a0 : (List RdnT)) (a1 : (List AttrT)) (v0 v1 : Value), v = .agg #[v0, v1] ∧ (SlAt rdnE (All w) w a0 v0 ∧ SlAt attrE (All w) w a1 v1) ∧ entryE.long (a0, a1) := by
  obtain ⟨cs, a, rfl, h1, h2⟩ := opv_struct Tryd.underlying26 opn_entry hv h
  obtain ⟨a0, a1, v0, v1, rfl, e1, hq⟩ := entry_atq h1
  refine ⟨a0, a1, v0, v1, agg_eq e1, ?_, h2⟩
  exact ⟨hq.1, hq.2.1⟩
set_option maxRecDepth 100000 in
theorem opv_class {H : Type} {enc : TypeId × Value → H} {w : World} {base : Nat} {spare : Nat → Bool} {held : Bool} {r : Reach} {b0 : Nat} {v : Value} {d : DataW H} {p : List MemPlace} (hv : Value.okWide Tryd.prog w r b0 47 v) (h : DataW.Trod enc Tryd.prog w base spare held 47 v d p) :
    ∃ (a0 : ByteArray) (a1 : (List ByteArray)) (a2 : (List ByteArray)) (a3 : (List ByteArray)) (v1 v2 v3 : Value), v = .agg #[.string a0, v1, v2, v3] ∧ (SlAt strE (All w) w a1 v1 ∧ SlAt strE (All w) w a2 v2 ∧ SlAt strE (All w) w a3 v3) ∧ classE.long (a0, a1, a2, a3) := by
  obtain ⟨cs, a, rfl, h1, h2⟩ := opv_struct Tryd.underlying47 opn_class hv h
  obtain ⟨a0, a1, a2, a3, v1, v2, v3, rfl, e1, hq⟩ := class_atq h1
  refine ⟨a0, a1, a2, a3, v1, v2, v3, agg_eq e1, ?_, h2⟩
  exact ⟨hq.1, hq.2.1, hq.2.2.1⟩
end Go.Proofs.YtmanlnlhpgdbpaaDoor
