/- Merged texts: CheckW, Opn. -/
import Derived.Test.YtohcdpoffpnfhaaGreatDoorM1
import Derived.Test.YtohcdpoffpnfhaaGreatDoorM15
import Derived.Test.YtohcdpoffpnfhaaGreatDoorM16
import Derived.Test.YtohcdpoffpnfhaaGreatDoorM6
import Derived.Test.YtohcdpoffpnfhaaGreatDoorRows
/- The law FnExactCheck: its walk. -/
namespace Go.Proofs.YtohcdpoffpnfhaaGreatDoor
open Go.RowKit
attribute [local go_sem ↓] Go.wp_at_zero Go.wp_at_succ

set_option maxRecDepth 100000 in
set_option maxHeartbeats 4000000 in
theorem Check_walk (v0 : Value) (d0 : List ClassT) (a100 : (List RdnT)) (a101 : (List AttrT)) (v100 v101 : Value) (w : World) (h0 : SlAt classE (All w) w d0 v0) (f0 : (slE classE).long d0) (h1 : SlAt rdnE (All w) w a100 v100 ∧ SlAt attrE (All w) w a101 v101) (f1 : entryE.long (a100, a101)) (hSent : Sent2 w) :
    Calls Tryz.prog 3 #[v0, .agg #[v100, v101]] w fun e w' => e = .returned (.bool true) ∧ Below w.heap.size w w' := by
  have HQ0 : Hid (d0.length + szL classE d0 ≤ 1048576 → ∀ (Y : World) (S S' : Bs) (x u : Value), SlAt classE S Y d0 x → SlAt classE S' Y d0 u → Calls Tryz.prog 15 #[x, u] Y fun e w' => e = .returned (.bool true) ∧ Below Y.heap.size Y w') := Lib.hid (fun z Y S S' x u h1 h2 => eqClassS_at x u d0 Y h1 h2 z)
  have HS0 : Hid (∀ (l : Int) (W : World), Below w.heap.size w W → 0 ≤ l → l ≤ 1048576 → Calls Tryz.prog 9 #[v0, .int .i64 l] W fun e w' => e = .returned (.int .i64 (leftR (d0.length + szL classE d0) l)) ∧ Below W.heap.size W w') := Lib.hid (fun l W b p q => szClassS_at v0 d0 l W (h0.frame (Same.of_below' b)) f0 p q)
  have HT0 : Hid (d0.length + szL classE d0 ≤ 1048576 → ∀ Y : World, Below w.heap.size w Y → Calls Tryz.prog 12 #[v0] Y fun e w' => ∃ u, e = .returned u ∧ SlOwn classE (Fresh Y w') w' d0 u ∧ Below Y.heap.size Y w') := Lib.hid (fun z Y b => toClassS_at v0 d0 Y (h0.frame (Same.of_below' b)) z)
  have HQ1 : Hid (entryE.sz (a100, a101) ≤ 1048576 → ∀ (Y : World) (S S' : Bs) (x100 x101 u100 u101 : Value), SlAt rdnE S Y a100 x100 → SlAt attrE S Y a101 x101 → SlAt rdnE S' Y a100 u100 → SlAt attrE S' Y a101 u101 → Calls Tryz.prog 16 #[.agg #[x100, x101], .agg #[u100, u101]] Y fun e w' => e = .returned (.bool true) ∧ Below Y.heap.size Y w') := Lib.hid (fun z Y S S' x100 x101 u100 u101 g100 g101 k100 k101 => eqEntry_at Y a100 a101 x100 x101 u100 u101 Y (Below.refl _ _) g100 g101 k100 k101 z)
  have HS1 : Hid (∀ (l : Int) (W : World), Below w.heap.size w W → 0 ≤ l → l ≤ 1048576 → Calls Tryz.prog 10 #[.agg #[v100, v101], .int .i64 l] W fun e w' => e = .returned (.int .i64 (leftR (entryE.sz (a100, a101)) l)) ∧ Below W.heap.size W w') := Lib.hid (fun l W b p q => szEntry_at a100 a101 v100 v101 l W (h1.1.frame (Same.of_below' b)) (h1.2.frame (Same.of_below' b)) f1 p q)
  have HT1 : Hid (entryE.sz (a100, a101) ≤ 1048576 → ∀ Y : World, Below w.heap.size w Y → Calls Tryz.prog 13 #[.agg #[v100, v101]] Y fun e w' => ∃ u100 u101, e = .returned (.agg #[u100, u101]) ∧ entryE.Own (Fresh Y w') w' (a100, a101) [u100, u101] ∧ Below Y.heap.size Y w') := Lib.hid (fun z Y b => toEntry_at a100 a101 v100 v101 Y (h1.1.frame (Same.of_below' b)) (h1.2.frame (Same.of_below' b)) z)
  have HSp : Hid (d0.length + szL classE d0 ≤ 1048576 → entryE.sz (a100, a101) ≤ 1048576 → ∀ (Y : World) (S0 S1 S2 : Bs) (u0 u100 u101 : Value), SlAt classE S0 Y d0 u0 → SlAt rdnE S1 Y a100 u100 → SlAt attrE S2 Y a101 u101 → Calls Tryz.prog 11 #[u0, .agg #[u100, u101]] Y fun e w' => e = .returned (.int .i64 (codeR d0 a100 a101)) ∧ Below Y.heap.size Y w') := Lib.hid (fun z0 z1 Y  S0 S1 S2 u0 u100 u101 h0 h100 h101 => SpecCheck_own u0 d0 u100 u101 a100 a101 Y h0 h100 h101 z0 z1)
  have HIm : Hid (d0.length + szL classE d0 ≤ 1048576 → entryE.sz (a100, a101) ≤ 1048576 → ∀ (Y : World) (hYb : Below w.heap.size w Y) (S0 S1 S2 : Bs) (u0 u100 u101 : Value), SlAt classE S0 Y d0 u0 → SlAt rdnE S1 Y a100 u100 → SlAt attrE S2 Y a101 u101 → Calls Tryz.prog 14 #[u0, .agg #[u100, u101]] Y fun e w' => e = .returned (.int .i64 (codeR d0 a100 a101)) ∧ Below Y.heap.size Y w') := Lib.hid (fun z0 z1 Y hYb S0 S1 S2 u0 u100 u101 h0 h100 h101 => Check_own u0 d0 u100 u101 a100 a101 Y h0 h100 h101 z0 z1 (hSent.below hYb))
  obtain ⟨o0, k0, rfl⟩ := h0.sl
  obtain ⟨o100, k100, rfl⟩ := h1.1.sl; obtain ⟨o101, k101, rfl⟩ := h1.2.sl
  clear h0 f0
  clear h1 f1
  go_enter Tryz.func3, Tryz.ntmps3
  go_wp2_with fail
  refine calls_by (fun W => Below w.heap.size w W ∧ Blk W (w.heap.size) [.slice o100 a100.length k100, .slice o101 a101.length k101]) ⟨more' (Below.refl _ _) _, Blk.new _ _ _⟩ ?_
  rintro W0 ⟨b0, t1⟩
  have B := Lib.hid b0; clear b0
  have HP1 := Lib.hid t1; clear t1
  refine (HS0.out (1048576) W0 B.out (by omega) (by omega)).mono ?_
  rintro e W1 ⟨rfl, hb⟩
  have P := Lib.hid (HP1.out.below hb); clear HP1; have HP1 := P; clear P
  have B1 := Lib.hid (B.out.trans (hb.mono B.out.size)); clear B; have B := B1; clear B1
  clear hb HS0
  by_cases g0 : ((d0.length + szL classE d0 : Nat) : Int) ≤ 1048576
  rotate_left
  · rw [leftR_neg g0]
    clear g0
    go_wp2
    go_ret
    exact ⟨rfl, B.out⟩
  rw [leftR_pos g0]
  have HZ0 : Hid (d0.length + szL classE d0 ≤ 1048576) := Lib.hid (by omega)
  have p0 : (0 : Int) ≤ ((d0.length + szL classE d0 : Nat) : Int) := by omega
  have c0 : ¬ 1048576 - ((d0.length + szL classE d0 : Nat) : Int) < 0 := by omega
  generalize ((d0.length + szL classE d0 : Nat) : Int) = t0 at *
  have pm0 := HP1.out.cell 0 rfl
  have pm1 := HP1.out.cell 1 rfl
  go_wp2_with fail
  clear pm0 pm1
  refine (HS1.out (1048576 - t0) W1 B.out (by omega) (by omega)).mono ?_
  rintro e W2 ⟨rfl, hb⟩
  have P := Lib.hid (HP1.out.below hb); clear HP1; have HP1 := P; clear P
  have B1 := Lib.hid (B.out.trans (hb.mono B.out.size)); clear B; have B := B1; clear B1
  clear hb HS1
  by_cases g1 : ((entryE.sz (a100, a101) : Nat) : Int) ≤ 1048576 - t0
  rotate_left
  · rw [leftR_neg g1]
    clear g1
    go_wp2
    go_ret
    exact ⟨rfl, B.out⟩
  rw [leftR_pos g1]
  have HZ1 : Hid (entryE.sz (a100, a101) ≤ 1048576) := Lib.hid (by omega)
  have p1 : (0 : Int) ≤ ((entryE.sz (a100, a101) : Nat) : Int) := by omega
  have c1 : ¬ 1048576 - t0 - ((entryE.sz (a100, a101) : Nat) : Int) < 0 := by omega
  generalize ((entryE.sz (a100, a101) : Nat) : Int) = t1 at *
  have HT := Lib.hid (HT0.out HZ0.out); clear HT0; have HT0 := HT; clear HT
  have HQ := Lib.hid (HQ0.out HZ0.out); clear HQ0; have HQ0 := HQ; clear HQ
  have HT := Lib.hid (HT1.out HZ1.out); clear HT1; have HT1 := HT; clear HT
  have HQ := Lib.hid (HQ1.out HZ1.out); clear HQ1; have HQ1 := HQ; clear HQ
  have HS := Lib.hid (HSp.out HZ0.out HZ1.out); have HI := Lib.hid (HIm.out HZ0.out HZ1.out); clear HSp HIm
  generalize (codeR d0 a100 a101) = r at *
  have hrr : (r != r) = false := by simp
  have hrq : (r == r) = true := by simp
  go_wp2
  have hb : Below W2.heap.size W2 W2.drew := (Below.refl _ _).drew
  have SK : Hid (∀ Z' : World, Below W2.heap.size W2 Z' → Z'.cell? ⟨w.heap.size, 0, none⟩ = some (.slice o100 a100.length k100) ∧ Z'.cell? ⟨w.heap.size, 1, none⟩ = some (.slice o101 a101.length k101)) := Lib.hid (fun Z' h => ⟨(HP1.out.below h).cell 0 rfl, (HP1.out.below h).cell 1 rfl⟩)
  have BD : Below W2.heap.size W2 W2.drew := hb
  have P := Lib.hid (HP1.out.below hb); clear HP1; have HP1 := P; clear P
  have B1 := Lib.hid (B.out.trans (hb.mono B.out.size)); clear B; have B := B1; clear B1
  clear hb
  refine wp_region_held_drew (S := (fun Z' => Z'.cell? ⟨w.heap.size, 0, none⟩ = some (.slice o100 a100.length k100) ∧ Z'.cell? ⟨w.heap.size, 1, none⟩ = some (.slice o101 a101.length k101))) (by kernel_rfl) ?_ (fun hHeld => ?_)
  · (try dsimp only)
    first | exact SK.out _ (by assumption) | exact SK.out _ BD
  refine wpAnyH_take (i := 0) (oi := { dst := some 20, op := Op.move (Operand.tmp 0), type := 22, pos := "exact.go:3766", after := #[], guard := none }) (v := ?_) rfl (by kernel_rfl) (by kernel_rfl) (by kernel_rfl) (fun _ _ _ h => h) (Or.inl ⟨by rfl, ?_⟩) (by assumption) ?_
  rotate_left
  · intro w hSw; (try dsimp only at hSw); go_simp; (try with_reducible rfl)
  (try simp only [Act.put, List.setIfInBounds_toArray, List.set_cons_zero, List.set_cons_succ])
  refine wpAnyH_take (i := 2) (oi := { dst := some 22, op := Op.load 26 (Operand.tmp 3), type := 26, pos := "exact.go:3766", after := #[], guard := none }) (v := ?_) rfl (by kernel_rfl) (by kernel_rfl) (by kernel_rfl) (fun _ _ _ h => h) (Or.inl ⟨by rfl, ?_⟩) (by assumption) ?_
  rotate_left
  · intro w hSw; (try dsimp only at hSw); go_simp; (try with_reducible rfl)
  (try simp only [Act.put, List.setIfInBounds_toArray, List.set_cons_zero, List.set_cons_succ])
  refine wpAnyH_ready (rs := [1]) (by kernel_rfl) (by simp) ?_
  refine AllReadyH.cons (o := { dst := some 21, op := Op.call { callee := Callee.value (Operand.func 12), args := #[Operand.tmp 20], argTypes := #[22] }, type := 30, pos := "exact.go:3766", after := #[{ on := 0, ground := Ground.data }], guard := none }) rfl (fun K hK => ?_) (AllReadyH.nil)
  go_simp
  refine (HT0.out _ B.out).mono ?_
  rintro e W3 ⟨x0, rfl, q, hb⟩
  have BD := BD.trans (hb.mono BD.size)
  have P := Lib.hid (HP1.out.below hb); clear HP1; have HP1 := P; clear P
  have B1 := Lib.hid (B.out.trans (hb.mono B.out.size)); clear B; have B := B1; clear B1
  have Qx0 := Lib.hid q.at; clear q hb
  obtain ⟨px0, cx0, rfl⟩ := Qx0.out.sl
  clear hHeld
  refine hK.out _ _ ?_ (fun hHeld => ?_)
  · (try dsimp only)
    first | exact SK.out _ (by assumption) | exact SK.out _ BD
  clear hK K
  (try simp only [Act.put, List.setIfInBounds_toArray, List.set_cons_zero, List.set_cons_succ])
  refine wpAnyH_ready (rs := [3]) (by kernel_rfl) (by simp) ?_
  refine AllReadyH.cons (o := { dst := some 23, op := Op.call { callee := Callee.value (Operand.func 13), args := #[Operand.tmp 22], argTypes := #[26] }, type := 35, pos := "exact.go:3766", after := #[{ on := 2, ground := Ground.data }, { on := 1, ground := Ground.chain }], guard := none }) rfl (fun K hK => ?_) (AllReadyH.nil)
  go_simp
  refine (HT1.out _ B.out).mono ?_
  rintro e W4 ⟨x100, x101, rfl, q, hb⟩
  have BD := BD.trans (hb.mono BD.size)
  have P := Lib.hid (HP1.out.below hb); clear HP1; have HP1 := P; clear P
  have P := Lib.hid (Qx0.out.frame (Same.of_below' hb)); clear Qx0; have Qx0 := P; clear P
  have B1 := Lib.hid (B.out.trans (hb.mono B.out.size)); clear B; have B := B1; clear B1
  have Qx1 := Lib.hid (entryE.ownAt q); clear q hb
  have Z := entry_atp Qx1.out
  obtain ⟨px100, cx100, rfl⟩ := Z.1.sl
  obtain ⟨px101, cx101, rfl⟩ := Z.2.sl
  clear Z
  clear hHeld
  refine hK.out _ _ ?_ (fun hHeld => ?_)
  · (try dsimp only)
    first | exact SK.out _ (by assumption) | exact SK.out _ BD
  clear hK K
  (try simp only [Act.put, List.setIfInBounds_toArray, List.set_cons_zero, List.set_cons_succ])
  refine wpAnyH_ready (rs := [4]) (by kernel_rfl) (by simp) ?_
  refine AllReadyH.cons (o := { dst := some 24, op := Op.call { callee := Callee.value (Operand.func 11), args := #[Operand.tmp 21, Operand.tmp 23], argTypes := #[30, 35] }, type := 2, pos := "exact.go:3766", after := #[{ on := 1, ground := Ground.data }, { on := 3, ground := Ground.data }, { on := 3, ground := Ground.chain }], guard := none }) rfl (fun K hK => ?_) (AllReadyH.nil)
  go_simp
  refine (HS.out _  _ _ _ _ _ _ Qx0.out (entry_atp Qx1.out).1 (entry_atp Qx1.out).2).mono ?_
  rintro e W5 ⟨rfl, hb⟩
  clear Qx0
  clear Qx1
  have BD := BD.trans (hb.mono BD.size)
  have P := Lib.hid (HP1.out.below hb); clear HP1; have HP1 := P; clear P
  have B1 := Lib.hid (B.out.trans (hb.mono B.out.size)); clear B; have B := B1; clear B1
  clear hb
  clear hHeld
  refine hK.out _ _ ?_ (fun hHeld => ?_)
  · (try dsimp only)
    first | exact SK.out _ (by assumption) | exact SK.out _ BD
  clear hK K
  (try simp only [Act.put, List.setIfInBounds_toArray, List.set_cons_zero, List.set_cons_succ])
  refine wpAnyH_take (i := 5) (oi := { dst := some 6, op := Op.assign (Operand.tmp 24), type := 2, pos := "exact.go:3766", after := #[{ on := 4, ground := Ground.data }, { on := 4, ground := Ground.chain }, { on := 0, ground := Ground.phase }, { on := 1, ground := Ground.phase }, { on := 2, ground := Ground.phase }, { on := 3, ground := Ground.phase }, { on := 4, ground := Ground.phase }], guard := none }) (v := ?_) rfl (by kernel_rfl) (by kernel_rfl) (by kernel_rfl) (fun _ _ _ h => h) (Or.inl ⟨by rfl, ?_⟩) (by assumption) ?_
  rotate_left
  · intro w hSw; (try dsimp only at hSw); go_simp; (try with_reducible rfl)
  (try simp only [Act.put, List.setIfInBounds_toArray, List.set_cons_zero, List.set_cons_succ])
  refine wpAnyH_done (by kernel_rfl) ?_ _
  clear SK BD
  go_wp2_with fail
  refine (HT0.out _ B.out).mono ?_
  rintro e W6 ⟨y0, rfl, q, hb⟩
  have P := Lib.hid (HP1.out.below hb); clear HP1; have HP1 := P; clear P
  have B1 := Lib.hid (B.out.trans (hb.mono B.out.size)); clear B; have B := B1; clear B1
  have Qy0 := Lib.hid q.at; clear q hb
  obtain ⟨py0, cy0, rfl⟩ := Qy0.out.sl
  have pm0 := HP1.out.cell 0 rfl
  have pm1 := HP1.out.cell 1 rfl
  go_wp2_with fail
  clear pm0 pm1
  refine (HT1.out _ B.out).mono ?_
  rintro e W7 ⟨y100, y101, rfl, q, hb⟩
  have P := Lib.hid (HP1.out.below hb); clear HP1; have HP1 := P; clear P
  have P := Lib.hid (Qy0.out.frame (Same.of_below' hb)); clear Qy0; have Qy0 := P; clear P
  have B1 := Lib.hid (B.out.trans (hb.mono B.out.size)); clear B; have B := B1; clear B1
  have Qy1 := Lib.hid (entryE.ownAt q); clear q hb
  have Z := entry_atp Qy1.out
  obtain ⟨py100, cy100, rfl⟩ := Z.1.sl
  obtain ⟨py101, cy101, rfl⟩ := Z.2.sl
  clear Z
  go_wp2_with fail
  refine calls_by (fun W => Below W7.heap.size W7 W ∧ Blk W W7.heap.size [.slice py100 a100.length cy100, .slice py101 a101.length cy101]) ⟨more' (Below.refl _ _) _, Blk.new _ _ _⟩ ?_
  rintro V7 ⟨hb, t⟩
  have P := Lib.hid (HP1.out.below hb); clear HP1; have HP1 := P; clear P
  have P := Lib.hid (Qy0.out.frame (Same.of_below' hb)); clear Qy0; have Qy0 := P; clear P
  have P := Lib.hid (entryE.frame Qy1.out (Same.of_below' hb)); clear Qy1; have Qy1 := P; clear P
  have B1 := Lib.hid (B.out.trans (hb.mono B.out.size)); clear B; have B := B1; clear B1
  clear hb
  have HX1 := Lib.hid t; clear t
  refine (HI.out _ B.out _ _ _ _ _ _ Qy0.out (entry_atp Qy1.out).1 (entry_atp Qy1.out).2).mono ?_
  rintro e W8 ⟨rfl, hb⟩
  have P := Lib.hid (HP1.out.below hb); clear HP1; have HP1 := P; clear P
  have P := Lib.hid (Qy0.out.frame (Same.of_below' hb)); clear Qy0; have Qy0 := P; clear P
  have P := Lib.hid (entryE.frame Qy1.out (Same.of_below' hb)); clear Qy1; have Qy1 := P; clear P
  have P := Lib.hid (HX1.out.below hb); clear HX1; have HX1 := P; clear P
  have B1 := Lib.hid (B.out.trans (hb.mono B.out.size)); clear B; have B := B1; clear B1
  clear hb
  go_wp2_with fail
  refine (HT0.out _ B.out).mono ?_
  rintro e W9 ⟨z0, rfl, q, hb⟩
  have P := Lib.hid (HP1.out.below hb); clear HP1; have HP1 := P; clear P
  have P := Lib.hid (Qy0.out.frame (Same.of_below' hb)); clear Qy0; have Qy0 := P; clear P
  have P := Lib.hid (entryE.frame Qy1.out (Same.of_below' hb)); clear Qy1; have Qy1 := P; clear P
  have P := Lib.hid (HX1.out.below hb); clear HX1; have HX1 := P; clear P
  have B1 := Lib.hid (B.out.trans (hb.mono B.out.size)); clear B; have B := B1; clear B1
  have Qz0 := Lib.hid q.at; clear q hb
  obtain ⟨pz0, cz0, rfl⟩ := Qz0.out.sl
  go_wp2_with fail
  refine (HQ0.out _ _ _ _ _ Qy0.out Qz0.out).mono ?_
  rintro e W10 ⟨rfl, hb⟩
  have P := Lib.hid (HP1.out.below hb); clear HP1; have HP1 := P; clear P
  have P := Lib.hid (Qy0.out.frame (Same.of_below' hb)); clear Qy0; have Qy0 := P; clear P
  have P := Lib.hid (entryE.frame Qy1.out (Same.of_below' hb)); clear Qy1; have Qy1 := P; clear P
  have P := Lib.hid (HX1.out.below hb); clear HX1; have HX1 := P; clear P
  have P := Lib.hid (Qz0.out.frame (Same.of_below' hb)); clear Qz0; have Qz0 := P; clear P
  have B1 := Lib.hid (B.out.trans (hb.mono B.out.size)); clear B; have B := B1; clear B1
  clear hb
  clear Qz0
  go_wp2
  have hb : Below W10.heap.size W10 W10.drew := (Below.refl _ _).drew
  have SK : Hid (∀ Z' : World, Below W10.heap.size W10 Z' → Z'.cell? ⟨w.heap.size, 0, none⟩ = some (.slice o100 a100.length k100) ∧ Z'.cell? ⟨w.heap.size, 1, none⟩ = some (.slice o101 a101.length k101) ∧ Z'.cell? ⟨W7.heap.size, 0, none⟩ = some (.slice py100 a100.length cy100) ∧ Z'.cell? ⟨W7.heap.size, 1, none⟩ = some (.slice py101 a101.length cy101)) := Lib.hid (fun Z' h => ⟨(HP1.out.below h).cell 0 rfl, (HP1.out.below h).cell 1 rfl, (HX1.out.below h).cell 0 rfl, (HX1.out.below h).cell 1 rfl⟩)
  have BD : Below W10.heap.size W10 W10.drew := hb
  have P := Lib.hid (HP1.out.below hb); clear HP1; have HP1 := P; clear P
  have P := Lib.hid (Qy0.out.frame (Same.of_below' hb)); clear Qy0; have Qy0 := P; clear P
  have P := Lib.hid (entryE.frame Qy1.out (Same.of_below' hb)); clear Qy1; have Qy1 := P; clear P
  have P := Lib.hid (HX1.out.below hb); clear HX1; have HX1 := P; clear P
  have B1 := Lib.hid (B.out.trans (hb.mono B.out.size)); clear B; have B := B1; clear B1
  clear hb
  refine wp_region_held_drew (S := (fun Z' => Z'.cell? ⟨w.heap.size, 0, none⟩ = some (.slice o100 a100.length k100) ∧ Z'.cell? ⟨w.heap.size, 1, none⟩ = some (.slice o101 a101.length k101) ∧ Z'.cell? ⟨W7.heap.size, 0, none⟩ = some (.slice py100 a100.length cy100) ∧ Z'.cell? ⟨W7.heap.size, 1, none⟩ = some (.slice py101 a101.length cy101))) (by kernel_rfl) ?_ (fun hHeld => ?_)
  · (try dsimp only)
    first | exact SK.out _ (by assumption) | exact SK.out _ BD
  refine wpAnyH_take (i := 0) (oi := { dst := some 40, op := Op.load 35 (Operand.tmp 8), type := 35, pos := "exact.go:3776", after := #[], guard := none }) (v := ?_) rfl (by kernel_rfl) (by kernel_rfl) (by kernel_rfl) (fun _ _ _ h => h) (Or.inl ⟨by rfl, ?_⟩) (by assumption) ?_
  rotate_left
  · intro w hSw; (try dsimp only at hSw); go_simp; (try with_reducible rfl)
  (try simp only [Act.put, List.setIfInBounds_toArray, List.set_cons_zero, List.set_cons_succ])
  refine wpAnyH_take (i := 1) (oi := { dst := some 41, op := Op.load 26 (Operand.tmp 3), type := 26, pos := "exact.go:3776", after := #[], guard := none }) (v := ?_) rfl (by kernel_rfl) (by kernel_rfl) (by kernel_rfl) (fun _ _ _ h => h) (Or.inl ⟨by rfl, ?_⟩) (by assumption) ?_
  rotate_left
  · intro w hSw; (try dsimp only at hSw); go_simp; (try with_reducible rfl)
  (try simp only [Act.put, List.setIfInBounds_toArray, List.set_cons_zero, List.set_cons_succ])
  refine wpAnyH_ready (rs := [2]) (by kernel_rfl) (by simp) ?_
  refine AllReadyH.cons (o := { dst := some 42, op := Op.call { callee := Callee.value (Operand.func 13), args := #[Operand.tmp 41], argTypes := #[26] }, type := 35, pos := "exact.go:3776", after := #[{ on := 1, ground := Ground.data }], guard := none }) rfl (fun K hK => ?_) (AllReadyH.nil)
  go_simp
  refine (HT1.out _ B.out).mono ?_
  rintro e W11 ⟨z100, z101, rfl, q, hb⟩
  have BD := BD.trans (hb.mono BD.size)
  have P := Lib.hid (HP1.out.below hb); clear HP1; have HP1 := P; clear P
  have P := Lib.hid (Qy0.out.frame (Same.of_below' hb)); clear Qy0; have Qy0 := P; clear P
  have P := Lib.hid (entryE.frame Qy1.out (Same.of_below' hb)); clear Qy1; have Qy1 := P; clear P
  have P := Lib.hid (HX1.out.below hb); clear HX1; have HX1 := P; clear P
  have B1 := Lib.hid (B.out.trans (hb.mono B.out.size)); clear B; have B := B1; clear B1
  have Qz1 := Lib.hid (entryE.ownAt q); clear q hb
  have Z := entry_atp Qz1.out
  obtain ⟨pz100, cz100, rfl⟩ := Z.1.sl
  obtain ⟨pz101, cz101, rfl⟩ := Z.2.sl
  clear Z
  clear hHeld
  refine hK.out _ _ ?_ (fun hHeld => ?_)
  · (try dsimp only)
    first | exact SK.out _ (by assumption) | exact SK.out _ BD
  clear hK K
  (try simp only [Act.put, List.setIfInBounds_toArray, List.set_cons_zero, List.set_cons_succ])
  refine wpAnyH_ready (rs := [3]) (by kernel_rfl) (by simp) ?_
  refine AllReadyH.cons (o := { dst := some 43, op := Op.call { callee := Callee.value (Operand.func 16), args := #[Operand.tmp 40, Operand.tmp 42], argTypes := #[35, 35] }, type := 4, pos := "exact.go:3776", after := #[{ on := 0, ground := Ground.data }, { on := 2, ground := Ground.data }, { on := 2, ground := Ground.chain }], guard := none }) rfl (fun K hK => ?_) (AllReadyH.nil)
  go_simp
  refine (HQ1.out _ _ _ _ _ _ _ (entry_atp Qy1.out).1 (entry_atp Qy1.out).2 (entry_atp Qz1.out).1 (entry_atp Qz1.out).2).mono ?_
  rintro e W12 ⟨rfl, hb⟩
  have BD := BD.trans (hb.mono BD.size)
  have P := Lib.hid (HP1.out.below hb); clear HP1; have HP1 := P; clear P
  have P := Lib.hid (Qy0.out.frame (Same.of_below' hb)); clear Qy0; have Qy0 := P; clear P
  have P := Lib.hid (entryE.frame Qy1.out (Same.of_below' hb)); clear Qy1; have Qy1 := P; clear P
  have P := Lib.hid (HX1.out.below hb); clear HX1; have HX1 := P; clear P
  have P := Lib.hid (entryE.frame Qz1.out (Same.of_below' hb)); clear Qz1; have Qz1 := P; clear P
  have B1 := Lib.hid (B.out.trans (hb.mono B.out.size)); clear B; have B := B1; clear B1
  clear hb
  clear hHeld
  refine hK.out _ _ ?_ (fun hHeld => ?_)
  · (try dsimp only)
    first | exact SK.out _ (by assumption) | exact SK.out _ BD
  clear hK K
  (try simp only [Act.put, List.setIfInBounds_toArray, List.set_cons_zero, List.set_cons_succ])
  refine wpAnyH_take (i := 4) (oi := { dst := some 44, op := Op.unOp UnOp.not 4 (Operand.tmp 43), type := 4, pos := "exact.go:3776", after := #[{ on := 3, ground := Ground.data }], guard := none }) (v := ?_) rfl (by kernel_rfl) (by kernel_rfl) (by kernel_rfl) (fun _ _ _ h => h) (Or.inl ⟨by rfl, ?_⟩) (by assumption) ?_
  rotate_left
  · intro w hSw; (try dsimp only at hSw); go_simp; (try with_reducible rfl)
  (try simp only [Act.put, List.setIfInBounds_toArray, List.set_cons_zero, List.set_cons_succ])
  refine wpAnyH_done (by kernel_rfl) ?_ _
  clear SK BD
  clear Qz1
  go_wp2
  go_ret
  exact ⟨rfl, B.out⟩
end Go.Proofs.YtohcdpoffpnfhaaGreatDoor
/- Arguments of the laws: where they lie. -/
namespace Go.Proofs.YtohcdpoffpnfhaaGreatDoor
open Go.RowKit

open Go.ChangeShapes Go.WideShapes Go.Joins Go.Deep
theorem opn_str : Opens Tryz.prog 9 strE := opens_str Tryz.underlying9
theorem Tryz.cellStr : Tryz.prog.cellsOf 9 = strE.n := by kernel_rfl
theorem opn_int : Opens Tryz.prog 2 intE := opens_int Tryz.underlying2
theorem opn_strS : Opens Tryz.prog 79 (slE strE) := opens_sl Tryz.underlying79 Tryz.cellStr (by decide) opn_str
theorem Tryz.cellRdn : Tryz.prog.cellsOf 104 = rdnE.n := by kernel_rfl
set_option maxRecDepth 100000 in
theorem opn_rdn : Opens Tryz.prog 104 rdnE := opens_struct Tryz.underlying104 Tryz.cellRdn (ff_cons _ (by rfl) (by rfl) (by kernel_rfl) opn_str (ff_last _ (by rfl) (by rfl) (by kernel_rfl) (by rfl) opn_str))
theorem Tryz.cellAttr : Tryz.prog.cellsOf 134 = attrE.n := by kernel_rfl
set_option maxRecDepth 100000 in
theorem opn_attr : Opens Tryz.prog 134 attrE := opens_struct Tryz.underlying134 Tryz.cellAttr (ff_cons _ (by rfl) (by rfl) (by kernel_rfl) opn_str (ff_last _ (by rfl) (by rfl) (by kernel_rfl) (by rfl) opn_strS))
theorem opn_rdnS : Opens Tryz.prog 23 (slE rdnE) := opens_sl Tryz.underlying23 Tryz.cellRdn (by decide) opn_rdn
theorem opn_attrS : Opens Tryz.prog 24 (slE attrE) := opens_sl Tryz.underlying24 Tryz.cellAttr (by decide) opn_attr
theorem Tryz.cellEntry : Tryz.prog.cellsOf 26 = entryE.n := by kernel_rfl
set_option maxRecDepth 100000 in
theorem opn_entry : Opens Tryz.prog 26 entryE := opens_struct Tryz.underlying26 Tryz.cellEntry (ff_cons _ (by rfl) (by rfl) (by kernel_rfl) opn_rdnS (ff_last _ (by rfl) (by rfl) (by kernel_rfl) (by rfl) opn_attrS))
theorem Tryz.cellClass : Tryz.prog.cellsOf 81 = classE.n := by kernel_rfl
set_option maxRecDepth 100000 in
theorem opn_class : Opens Tryz.prog 81 classE := opens_struct Tryz.underlying81 Tryz.cellClass (ff_cons _ (by rfl) (by rfl) (by kernel_rfl) opn_str (ff_cons _ (by rfl) (by rfl) (by kernel_rfl) opn_strS (ff_cons _ (by rfl) (by rfl) (by kernel_rfl) opn_strS (ff_last _ (by rfl) (by rfl) (by kernel_rfl) (by rfl) opn_strS))))
theorem opn_entryS : Opens Tryz.prog 40 (slE entryE) := opens_sl Tryz.underlying40 Tryz.cellEntry (by decide) opn_entry
theorem opn_classS : Opens Tryz.prog 22 (slE classE) := opens_sl Tryz.underlying22 Tryz.cellClass (by decide) opn_class
set_option maxRecDepth 100000 in
theorem opv_rdn {H : Type} {enc : TypeId × Value → H} {w : World} {base : Nat} {spare : Nat → Bool} {held : Bool} {r : Reach} {b0 : Nat} {v : Value} {d : DataW H} {p : List MemPlace} (hv : Value.okWide Tryz.prog w r b0 104 v) (h : DataW.Trod enc Tryz.prog w base spare held 104 v d p) :
    ∃ (a0 : ByteArray) (a1 : ByteArray) , v = .agg #[.string a0, .string a1] ∧ (True) ∧ rdnE.long (a0, a1) := by
  obtain ⟨cs, a, rfl, h1, h2⟩ := opv_struct Tryz.underlying104 opn_rdn hv h
  obtain ⟨a0, a1, rfl, e1, hq⟩ := rdn_atq h1
  refine ⟨a0, a1, agg_eq e1, ?_, h2⟩
  exact hq
set_option maxRecDepth 100000 in
theorem opv_attr {H : Type} {enc : TypeId × Value → H} {w : World} {base : Nat} {spare : Nat → Bool} {held : Bool} {r : Reach} {b0 : Nat} {v : Value} {d : DataW H} {p : List MemPlace} (hv : Value.okWide Tryz.prog w r b0 134 v) (h : DataW.Trod enc Tryz.prog w base spare held 134 v d p) :
    ∃ (a0 : ByteArray) (a1 : (List ByteArray)) (v1 : Value), v = .agg #[.string a0, v1] ∧ (SlAt strE (All w) w a1 v1) ∧ attrE.long (a0, a1) := by
  obtain ⟨cs, a, rfl, h1, h2⟩ := opv_struct Tryz.underlying134 opn_attr hv h
  obtain ⟨a0, a1, v1, rfl, e1, hq⟩ := attr_atq h1
  refine ⟨a0, a1, v1, agg_eq e1, ?_, h2⟩
  exact hq.1
set_option maxRecDepth 100000 in
theorem opv_entry {H : Type} {enc : TypeId × Value → H} {w : World} {base : Nat} {spare : Nat → Bool} {held : Bool} {r : Reach} {b0 : Nat} {v : Value} {d : DataW H} {p : List MemPlace} (hv : Value.okWide Tryz.prog w r b0 26 v) (h : DataW.Trod enc Tryz.prog w base spare held 26 v d p) :
    ∃ (a0 : (List RdnT)) (a1 : (List AttrT)) (v0 v1 : Value), v = .agg #[v0, v1] ∧ (SlAt rdnE (All w) w a0 v0 ∧ SlAt attrE (All w) w a1 v1) ∧ entryE.long (a0, a1) := by
  obtain ⟨cs, a, rfl, h1, h2⟩ := opv_struct Tryz.underlying26 opn_entry hv h
  obtain ⟨a0, a1, v0, v1, rfl, e1, hq⟩ := entry_atq h1
  refine ⟨a0, a1, v0, v1, agg_eq e1, ?_, h2⟩
  exact ⟨hq.1, hq.2.1⟩
set_option maxRecDepth 100000 in
theorem opv_class {H : Type} {enc : TypeId × Value → H} {w : World} {base : Nat} {spare : Nat → Bool} {held : Bool} {r : Reach} {b0 : Nat} {v : Value} {d : DataW H} {p : List MemPlace} (hv : Value.okWide Tryz.prog w r b0 81 v) (h : DataW.Trod enc Tryz.prog w base spare held 81 v d p) :
    ∃ (a0 : ByteArray) (a1 : (List ByteArray)) (a2 : (List ByteArray)) (a3 : (List ByteArray)) (v1 v2 v3 : Value), v = .agg #[.string a0, v1, v2, v3] ∧ (SlAt strE (All w) w a1 v1 ∧ SlAt strE (All w) w a2 v2 ∧ SlAt strE (All w) w a3 v3) ∧ classE.long (a0, a1, a2, a3) := by
  obtain ⟨cs, a, rfl, h1, h2⟩ := opv_struct Tryz.underlying81 opn_class hv h
  obtain ⟨a0, a1, a2, a3, v1, v2, v3, rfl, e1, hq⟩ := class_atq h1
  refine ⟨a0, a1, a2, a3, v1, v2, v3, agg_eq e1, ?_, h2⟩
  exact ⟨hq.1, hq.2.1, hq.2.2.1⟩
end Go.Proofs.YtohcdpoffpnfhaaGreatDoor
