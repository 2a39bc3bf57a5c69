/- Merged texts: ChangeAddW. -/
import Derived.Test.YtmanlnlhpgdbpaaGreatM13
import Derived.Test.YtmanlnlhpgdbpaaGreatM9
import Derived.Test.YtmanlnlhpgdbpaaGreatM7
import Derived.Test.YtmanlnlhpgdbpaaGreatM14
import Derived.Test.YtmanlnlhpgdbpaaGreatM8
import Derived.Test.YtmanlnlhpgdbpaaGreatM15
/- The law FnExactChangeAdd: its walk. -/
namespace Go.Proofs.YtmanlnlhpgdbpaaGreat
open Go.RowKit
attribute [local go_sem ↓] Go.wp_at_zero Go.wp_at_succ

set_option maxRecDepth 100000 in
set_option maxHeartbeats 4000000 in
theorem ChangeAdd_walk (a0 : Int) (a1 : (List ChangeT)) (v1 : Value) (n1 : Int) (v2 : Value) (d2 : List RdnT) (a300 : (List RdnT)) (a301 : (List AttrT)) (v300 v301 : Value) (w : World) (h0 : SlAt changeE (All w) w a1 v1) (f0 : changesE.long (a0, a1)) (f1 : -9223372036854775808 ≤ n1 ∧ n1 ≤ 9223372036854775807) (h2 : SlAt rdnE (All w) w d2 v2) (f2 : (slE rdnE).long d2) (h3 : SlAt rdnE (All w) w a300 v300 ∧ SlAt attrE (All w) w a301 v301) (f3 : entryE.long (a300, a301)) :
    Calls Tryz.prog 4 #[.agg #[.int .i64 a0, v1], .int .i64 n1, v2, .agg #[v300, v301]] w fun e w' => e = .returned (.bool true) ∧ Below w.heap.size w w' := by
  have HQ0 : Hid (changesE.sz (a0, a1) ≤ 1048576 → ∀ (Y : World) (S S' : Bs) (x1 u1 : Value), SlAt changeE S Y a1 x1 → SlAt changeE S' Y a1 u1 → Calls Tryz.prog 11 #[.agg #[.int .i64 a0, x1], .agg #[.int .i64 a0, u1]] Y fun e w' => e = .returned (.bool true) ∧ Below Y.heap.size Y w') := Lib.hid (fun z Y S S' x1 u1 g1 k1 => eqChanges_at Y a0 a1 x1 u1 Y (Below.refl _ _) g1 k1 z)
  have HS0 : Hid (∀ (l : Int) (W : World), Below w.heap.size w W → 0 ≤ l → l ≤ 1048576 → Calls Tryz.prog 7 #[.agg #[.int .i64 a0, v1], .int .i64 l] W fun e w' => e = .returned (.int .i64 (leftR (changesE.sz (a0, a1)) l)) ∧ Below W.heap.size W w') := Lib.hid (fun l W b p q => szChanges_at a0 a1 v1 l W (h0.frame (Same.of_below' b)) f0 p q)
  have HT0 : Hid (changesE.sz (a0, a1) ≤ 1048576 → ∀ Y : World, Below w.heap.size w Y → Calls Tryz.prog 9 #[.agg #[.int .i64 a0, v1]] Y fun e w' => ∃ u1, e = .returned (.agg #[.int .i64 a0, u1]) ∧ changesE.Own (Fresh Y w') w' (a0, a1) [.int .i64 a0, u1] ∧ Below Y.heap.size Y w') := Lib.hid (fun z Y b => toChanges_at a0 a1 v1 Y (h0.frame (Same.of_below' b)) z)
  have HQ2 : Hid (d2.length + szL rdnE d2 ≤ 1048576 → ∀ (Y : World) (S S' : Bs) (x u : Value), SlAt rdnE S Y d2 x → SlAt rdnE S' Y d2 u → Calls Tryz.prog 19 #[x, u] Y fun e w' => e = .returned (.bool true) ∧ Below Y.heap.size Y w') := Lib.hid (fun z Y S S' x u h1 h2 => eqRdnS_at x u d2 Y h1 h2 z)
  have HS2 : Hid (∀ (l : Int) (W : World), Below w.heap.size w W → 0 ≤ l → l ≤ 1048576 → Calls Tryz.prog 12 #[v2, .int .i64 l] W fun e w' => e = .returned (.int .i64 (leftR (d2.length + szL rdnE d2) l)) ∧ Below W.heap.size W w') := Lib.hid (fun l W b p q => szRdnS_at v2 d2 l W (h2.frame (Same.of_below' b)) f2 p q)
  have HT2 : Hid (d2.length + szL rdnE d2 ≤ 1048576 → ∀ Y : World, Below w.heap.size w Y → Calls Tryz.prog 15 #[v2] Y fun e w' => ∃ u, e = .returned u ∧ SlOwn rdnE (Fresh Y w') w' d2 u ∧ Below Y.heap.size Y w') := Lib.hid (fun z Y b => toRdnS_at v2 d2 Y (h2.frame (Same.of_below' b)) z)
  have HQ3 : Hid (entryE.sz (a300, a301) ≤ 1048576 → ∀ (Y : World) (S S' : Bs) (x300 x301 u300 u301 : Value), SlAt rdnE S Y a300 x300 → SlAt attrE S Y a301 x301 → SlAt rdnE S' Y a300 u300 → SlAt attrE S' Y a301 u301 → Calls Tryz.prog 20 #[.agg #[x300, x301], .agg #[u300, u301]] Y fun e w' => e = .returned (.bool true) ∧ Below Y.heap.size Y w') := Lib.hid (fun z Y S S' x300 x301 u300 u301 g300 g301 k300 k301 => eqEntry_at Y a300 a301 x300 x301 u300 u301 Y (Below.refl _ _) g300 g301 k300 k301 z)
  have HS3 : Hid (∀ (l : Int) (W : World), Below w.heap.size w W → 0 ≤ l → l ≤ 1048576 → Calls Tryz.prog 13 #[.agg #[v300, v301], .int .i64 l] W fun e w' => e = .returned (.int .i64 (leftR (entryE.sz (a300, a301)) l)) ∧ Below W.heap.size W w') := Lib.hid (fun l W b p q => szEntry_at a300 a301 v300 v301 l W (h3.1.frame (Same.of_below' b)) (h3.2.frame (Same.of_below' b)) f3 p q)
  have HT3 : Hid (entryE.sz (a300, a301) ≤ 1048576 → ∀ Y : World, Below w.heap.size w Y → Calls Tryz.prog 16 #[.agg #[v300, v301]] Y fun e w' => ∃ u300 u301, e = .returned (.agg #[u300, u301]) ∧ entryE.Own (Fresh Y w') w' (a300, a301) [u300, u301] ∧ Below Y.heap.size Y w') := Lib.hid (fun z Y b => toEntry_at a300 a301 v300 v301 Y (h3.1.frame (Same.of_below' b)) (h3.2.frame (Same.of_below' b)) z)
  have HSp : Hid (changesE.sz (a0, a1) ≤ 1048576 → d2.length + szL rdnE d2 ≤ 1048576 → entryE.sz (a300, a301) ≤ 1048576 → ∀ (Y : World) (S0 S1 S2 S3 : Bs) (u1 u2 u300 u301 : Value), SlAt changeE S0 Y a1 u1 → SlAt rdnE S1 Y d2 u2 → SlAt rdnE S2 Y a300 u300 → SlAt attrE S3 Y a301 u301 → Calls Tryz.prog 14 #[.agg #[.int .i64 a0, u1], .int .i64 n1, u2, .agg #[u300, u301]] Y fun e w' => (∃ u901 u902 : Value, e = .returned (.agg #[.int .i64 (addR a0 a1 n1 d2 a300 a301).1.1, u901, u902, .int .i64 (addR a0 a1 n1 d2 a300 a301).2.2]) ∧ changesOutE.At (Fresh Y w') w' (addR a0 a1 n1 d2 a300 a301) [.int .i64 (addR a0 a1 n1 d2 a300 a301).1.1, u901, u902, .int .i64 (addR a0 a1 n1 d2 a300 a301).2.2]) ∧ Below Y.heap.size Y w') := Lib.hid (fun z0 z2 z3 Y S0 S1 S2 S3 u1 u2 u300 u301 h1 h2 h300 h301 => SpecChangeAdd_any a0 n1 u1 u2 u300 u301 a1 d2 a300 a301 Y h1 h2 h300 h301 (chsz z0) z2 z3)
  have HIm : Hid (changesE.sz (a0, a1) ≤ 1048576 → d2.length + szL rdnE d2 ≤ 1048576 → entryE.sz (a300, a301) ≤ 1048576 → ∀ (Y : World) (S0 S1 S2 S3 : Bs) (u1 u2 u300 u301 : Value), SlAt changeE S0 Y a1 u1 → SlAt rdnE S1 Y d2 u2 → SlAt rdnE S2 Y a300 u300 → SlAt attrE S3 Y a301 u301 → Calls Tryz.prog 17 #[.agg #[.int .i64 a0, u1], .int .i64 n1, u2, .agg #[u300, u301]] Y fun e w' => (∃ u901 u902 : Value, e = .returned (.agg #[.int .i64 (addR a0 a1 n1 d2 a300 a301).1.1, u901, u902, .int .i64 (addR a0 a1 n1 d2 a300 a301).2.2]) ∧ changesOutE.Own (Fresh Y w') w' (addR a0 a1 n1 d2 a300 a301) [.int .i64 (addR a0 a1 n1 d2 a300 a301).1.1, u901, u902, .int .i64 (addR a0 a1 n1 d2 a300 a301).2.2]) ∧ Below Y.heap.size Y w') := Lib.hid (fun z0 z2 z3 Y S0 S1 S2 S3 u1 u2 u300 u301 h1 h2 h300 h301 => ChangeAdd_any a0 n1 u1 u2 u300 u301 a1 d2 a300 a301 Y h1 h2 h300 h301 (chsz z0) z2 z3)
  obtain ⟨o1, k1, rfl⟩ := h0.sl
  obtain ⟨o2, k2, rfl⟩ := h2.sl
  obtain ⟨o300, k300, rfl⟩ := h3.1.sl; obtain ⟨o301, k301, rfl⟩ := h3.2.sl
  clear h0 f0
  clear h2 f2
  clear h3 f3
  go_enter Tryz.func4, Tryz.ntmps4
  go_wp2_with fail
  refine calls_by (fun W => Below w.heap.size w W ∧ Blk W (w.heap.size) [.int .i64 a0, .slice o1 a1.length k1] ∧ Blk W (w.heap.size + 1) [.slice o300 a300.length k300, .slice o301 a301.length k301]) ⟨more' (more' (Below.refl _ _) _) _, (Blk.new _ _ _).alloc _, blk_at _ _ _ (by simp)⟩ ?_
  rintro W0 ⟨b0, t0, t3⟩
  have B := Lib.hid b0; clear b0
  have HP0 := Lib.hid t0; clear t0
  have HP3 := Lib.hid t3; clear t3
  refine (HS0.out (1048576) W0 B.out (by omega) (by omega)).mono ?_
  rintro e W1 ⟨rfl, hb⟩
  have P := Lib.hid (HP0.out.below hb); clear HP0; have HP0 := P; clear P
  have P := Lib.hid (HP3.out.below hb); clear HP3; have HP3 := P; clear P
  have B1 := Lib.hid (B.out.trans (hb.mono B.out.size)); clear B; have B := B1; clear B1
  have O0 := Lib.hid (hb.size)
  clear hb HS0
  by_cases g0 : ((changesE.sz (a0, a1) : Nat) : Int) ≤ 1048576
  rotate_left
  · rw [leftR_neg g0]
    clear g0
    go_wp2
    go_ret
    exact ⟨rfl, B.out⟩
  rw [leftR_pos g0]
  have HZ0 : Hid (changesE.sz (a0, a1) ≤ 1048576) := Lib.hid (by omega)
  have p0 : (0 : Int) ≤ ((changesE.sz (a0, a1) : Nat) : Int) := by omega
  have c0 : ¬ 1048576 - ((changesE.sz (a0, a1) : Nat) : Int) < 0 := by omega
  generalize ((changesE.sz (a0, a1) : Nat) : Int) = t0 at *
  go_wp2_with fail
  refine (HS2.out (1048576 - t0) W1 B.out (by omega) (by omega)).mono ?_
  rintro e W2 ⟨rfl, hb⟩
  have P := Lib.hid (HP0.out.below hb); clear HP0; have HP0 := P; clear P
  have P := Lib.hid (HP3.out.below hb); clear HP3; have HP3 := P; clear P
  have B1 := Lib.hid (B.out.trans (hb.mono B.out.size)); clear B; have B := B1; clear B1
  have O1 := Lib.hid (hb.size)
  clear hb HS2
  by_cases g2 : ((d2.length + szL rdnE d2 : Nat) : Int) ≤ 1048576 - t0
  rotate_left
  · rw [leftR_neg g2]
    clear g2
    go_wp2
    go_ret
    exact ⟨rfl, B.out⟩
  rw [leftR_pos g2]
  have HZ2 : Hid (d2.length + szL rdnE d2 ≤ 1048576) := Lib.hid (by omega)
  have p2 : (0 : Int) ≤ ((d2.length + szL rdnE d2 : Nat) : Int) := by omega
  have c2 : ¬ 1048576 - t0 - ((d2.length + szL rdnE d2 : Nat) : Int) < 0 := by omega
  generalize ((d2.length + szL rdnE d2 : Nat) : Int) = t2 at *
  have pm0 := HP3.out.cell 0 rfl
  have pm1 := HP3.out.cell 1 rfl
  go_wp2_with fail
  clear pm0 pm1
  refine (HS3.out (1048576 - t0 - t2) W2 B.out (by omega) (by omega)).mono ?_
  rintro e W3 ⟨rfl, hb⟩
  have P := Lib.hid (HP0.out.below hb); clear HP0; have HP0 := P; clear P
  have P := Lib.hid (HP3.out.below hb); clear HP3; have HP3 := P; clear P
  have B1 := Lib.hid (B.out.trans (hb.mono B.out.size)); clear B; have B := B1; clear B1
  have O2 := Lib.hid (hb.size)
  clear hb HS3
  by_cases g3 : ((entryE.sz (a300, a301) : Nat) : Int) ≤ 1048576 - t0 - t2
  rotate_left
  · rw [leftR_neg g3]
    clear g3
    go_wp2
    go_ret
    exact ⟨rfl, B.out⟩
  rw [leftR_pos g3]
  have HZ3 : Hid (entryE.sz (a300, a301) ≤ 1048576) := Lib.hid (by omega)
  have p3 : (0 : Int) ≤ ((entryE.sz (a300, a301) : Nat) : Int) := by omega
  have c3 : ¬ 1048576 - t0 - t2 - ((entryE.sz (a300, a301) : Nat) : Int) < 0 := by omega
  generalize ((entryE.sz (a300, a301) : Nat) : Int) = t3 at *
  have HT := Lib.hid (HT0.out HZ0.out); clear HT0; have HT0 := HT; clear HT
  have HQ := Lib.hid (HQ0.out HZ0.out); clear HQ0; have HQ0 := HQ; clear HQ
  have HT := Lib.hid (HT2.out HZ2.out); clear HT2; have HT2 := HT; clear HT
  have HQ := Lib.hid (HQ2.out HZ2.out); clear HQ2; have HQ2 := HQ; clear HQ
  have HT := Lib.hid (HT3.out HZ3.out); clear HT3; have HT3 := HT; clear HT
  have HQ := Lib.hid (HQ3.out HZ3.out); clear HQ3; have HQ3 := HQ; clear HQ
  have HS := Lib.hid (HSp.out HZ0.out HZ2.out HZ3.out); have HI := Lib.hid (HIm.out HZ0.out HZ2.out HZ3.out); clear HSp HIm
  have O3 := Lib.hid (B.out.size)
  have O4 := Lib.hid (HP0.out.lt)
  have O5 := Lib.hid (HP3.out.lt)
  have HRz : Hid (changesOutE.sz (addR a0 a1 n1 d2 a300 a301) ≤ 1048576) := Lib.hid (addR_sz a0 a1 n1 d2 a300 a301)
  generalize addR a0 a1 n1 d2 a300 a301 = R at *
  obtain ⟨⟨a900, a901⟩, a902, a903⟩ := R
  try dsimp only at HS HI
  have HQR : Hid (∀ (Y : World) (S S' : Bs) (x901 x902 u901 u902 : Value), SlAt changeE S Y a901 x901 → SlAt changeE S Y a902 x902 → SlAt changeE S' Y a901 u901 → SlAt changeE S' Y a902 u902 → Calls Tryz.prog 18 #[.agg #[.int .i64 a900, x901, x902, .int .i64 a903], .agg #[.int .i64 a900, u901, u902, .int .i64 a903]] Y fun e w' => e = .returned (.bool true) ∧ Below Y.heap.size Y w') := Lib.hid (fun Y S S' x901 x902 u901 u902 h901 h902 k901 k902 => eqChangesOut_at Y a900 a901 a902 a903 x901 x902 u901 u902 Y (Below.refl _ _) h901 h902 k901 k902 HRz.out)
  go_wp2
  have SK : Hid (∀ Z' : World, Below W3.heap.size W3 Z' → Z'.cell? ⟨w.heap.size, 0, none⟩ = some (.int .i64 a0) ∧ Z'.cell? ⟨w.heap.size, 1, none⟩ = some (.slice o1 a1.length k1) ∧ Z'.cell? ⟨w.heap.size + 1, 0, none⟩ = some (.slice o300 a300.length k300) ∧ Z'.cell? ⟨w.heap.size + 1, 1, none⟩ = some (.slice o301 a301.length k301)) := Lib.hid (fun Z' h => ⟨(HP0.out.below h).cell 0 rfl, (HP0.out.below h).cell 1 rfl, (HP3.out.below h).cell 0 rfl, (HP3.out.below h).cell 1 rfl⟩)
  refine region_join (fun A0 a2 w2 => ∃ (g : Nat) (t0 t1 t2 t3 t4 t5 t6 t7 : Value) (pw901 : Option Addr) (cw901 : Nat) (pw902 : Option Addr) (cw902 : Nat), a2 = (((((((((A0.put (some 34) t0).put (some 35) t1).put (some 36) t2).put (some 37) t3).put (some 38) t4).put (some 39) t5).put (some 40) t6).put (some 41) t7).put (some 10) (.pointer (some ⟨g, 0, none⟩))) ∧ Below W3.heap.size W3 w2 ∧ W3.heap.size ≤ g ∧ Blk w2 g [.int .i64 a900, .slice pw901 a901.length cw901, .slice pw902 a902.length cw902, .int .i64 a903] ∧ changesOutE.At (Fresh W3 w2) w2 ((a900, a901), a902, a903) [.int .i64 a900, .slice pw901 a901.length cw901, .slice pw902 a902.length cw902, .int .i64 a903]) ?_ ?_
  · have HBD : Hid (Below W3.heap.size W3 W3.drew) := Lib.hid (Below.refl _ _).drew
    refine wp_region_held_drew (S := (fun Z' => Z'.cell? ⟨w.heap.size, 0, none⟩ = some (.int .i64 a0) ∧ Z'.cell? ⟨w.heap.size, 1, none⟩ = some (.slice o1 a1.length k1) ∧ Z'.cell? ⟨w.heap.size + 1, 0, none⟩ = some (.slice o300 a300.length k300) ∧ Z'.cell? ⟨w.heap.size + 1, 1, none⟩ = some (.slice o301 a301.length k301))) (by kernel_rfl) ?_ (fun hHeld => ?_)
    · (try dsimp only)
      exact SK.out _ HBD.out
    refine wpAnyH_take (i := 0) (oi := { dst := some 34, op := Op.load 24 (Operand.tmp 4), type := 24, pos := "exact.go:4568", after := #[], guard := none }) (v := ?_) rfl (by kernel_rfl) (by kernel_rfl) (by kernel_rfl) (fun _ _ _ h => h) (Or.inl ⟨by rfl, ?_⟩) (by assumption) ?_
    rotate_left
    · intro w hSw; (try dsimp only at hSw); go_simp; (try with_reducible rfl)
    (try simp only [Act.put, List.setIfInBounds_toArray, List.set_cons_zero, List.set_cons_succ])
    refine wpAnyH_take (i := 2) (oi := { dst := some 36, op := Op.move (Operand.tmp 1), type := 2, pos := "exact.go:4568", after := #[], guard := none }) (v := ?_) rfl (by kernel_rfl) (by kernel_rfl) (by kernel_rfl) (fun _ _ _ h => h) (Or.inl ⟨by rfl, ?_⟩) (by assumption) ?_
    rotate_left
    · intro w hSw; (try dsimp only at hSw); go_simp; (try with_reducible rfl)
    (try simp only [Act.put, List.setIfInBounds_toArray, List.set_cons_zero, List.set_cons_succ])
    refine wpAnyH_take (i := 3) (oi := { dst := some 37, op := Op.move (Operand.tmp 2), type := 33, pos := "exact.go:4568", after := #[], guard := none }) (v := ?_) rfl (by kernel_rfl) (by kernel_rfl) (by kernel_rfl) (fun _ _ _ h => h) (Or.inl ⟨by rfl, ?_⟩) (by assumption) ?_
    rotate_left
    · intro w hSw; (try dsimp only at hSw); go_simp; (try with_reducible rfl)
    (try simp only [Act.put, List.setIfInBounds_toArray, List.set_cons_zero, List.set_cons_succ])
    refine wpAnyH_take (i := 5) (oi := { dst := some 39, op := Op.load 36 (Operand.tmp 7), type := 36, pos := "exact.go:4568", after := #[], guard := none }) (v := ?_) rfl (by kernel_rfl) (by kernel_rfl) (by kernel_rfl) (fun _ _ _ h => h) (Or.inl ⟨by rfl, ?_⟩) (by assumption) ?_
    rotate_left
    · intro w hSw; (try dsimp only at hSw); go_simp; (try with_reducible rfl)
    (try simp only [Act.put, List.setIfInBounds_toArray, List.set_cons_zero, List.set_cons_succ])
    refine wpAnyH_ready (rs := [1, 8]) (by kernel_rfl) (by simp) ?_
    refine AllReadyH.cons (o := { dst := some 35, op := Op.call { callee := Callee.value (Operand.func 9), args := #[Operand.tmp 34], argTypes := #[24] }, type := 29, pos := "exact.go:4568", after := #[{ on := 0, ground := Ground.data }], guard := none }) rfl (fun K hK => ?_) (AllReadyH.cons (o := { dst := some 10, op := Op.alloc 40, type := 0, pos := "exact.go:4568", after := #[], guard := none }) rfl (fun K hK => ?_) (AllReadyH.nil))
    · go_simp
      refine (HT0.out _ (B.out.trans (HBD.out.mono B.out.size))).mono ?_
      rintro e ww0 ⟨x1, rfl, q, hb⟩
      have HBD := Lib.hid (HBD.out.trans (hb.mono HBD.out.size))
      have QX0 := Lib.hid (changesE.ownAt q); clear q hb
      have Z := changes_atp QX0.out
      obtain ⟨px1, cx1, rfl⟩ := Z.sl
      clear Z
      clear hHeld
      refine hK.out _ _ ?_ (fun hHeld => ?_)
      · (try dsimp only)
        exact SK.out _ HBD.out
      clear hK K
      (try simp only [Act.put, List.setIfInBounds_toArray, List.set_cons_zero, List.set_cons_succ])
      refine wpAnyH_ready (rs := [4, 8]) (by kernel_rfl) (by simp) ?_
      refine AllReadyH.cons (o := { dst := some 38, op := Op.call { callee := Callee.value (Operand.func 15), args := #[Operand.tmp 37], argTypes := #[33] }, type := 42, pos := "exact.go:4568", after := #[{ on := 3, ground := Ground.data }, { on := 1, ground := Ground.chain }], guard := none }) rfl (fun K hK => ?_) (AllReadyH.cons (o := { dst := some 10, op := Op.alloc 40, type := 0, pos := "exact.go:4568", after := #[], guard := none }) rfl (fun K hK => ?_) (AllReadyH.nil))
      · go_simp
        refine (HT2.out _ (B.out.trans (HBD.out.mono B.out.size))).mono ?_
        rintro e ww1 ⟨x2, rfl, q, hb⟩
        have HBD := Lib.hid (HBD.out.trans (hb.mono HBD.out.size))
        have P := Lib.hid (changesE.frame QX0.out (Same.of_below' hb)); clear QX0; have QX0 := P; clear P
        have QX2 := Lib.hid q.at; clear q hb
        obtain ⟨px2, cx2, rfl⟩ := QX2.out.sl
        clear hHeld
        refine hK.out _ _ ?_ (fun hHeld => ?_)
        · (try dsimp only)
          exact SK.out _ HBD.out
        clear hK K
        (try simp only [Act.put, List.setIfInBounds_toArray, List.set_cons_zero, List.set_cons_succ])
        refine wpAnyH_ready (rs := [6, 8]) (by kernel_rfl) (by simp) ?_
        refine AllReadyH.cons (o := { dst := some 40, op := Op.call { callee := Callee.value (Operand.func 16), args := #[Operand.tmp 39], argTypes := #[36] }, type := 46, pos := "exact.go:4568", after := #[{ on := 5, ground := Ground.data }, { on := 4, ground := Ground.chain }], guard := none }) rfl (fun K hK => ?_) (AllReadyH.cons (o := { dst := some 10, op := Op.alloc 40, type := 0, pos := "exact.go:4568", after := #[], guard := none }) rfl (fun K hK => ?_) (AllReadyH.nil))
        · go_simp
          refine (HT3.out _ (B.out.trans (HBD.out.mono B.out.size))).mono ?_
          rintro e ww2 ⟨x300, x301, rfl, q, hb⟩
          have HBD := Lib.hid (HBD.out.trans (hb.mono HBD.out.size))
          have P := Lib.hid (changesE.frame QX0.out (Same.of_below' hb)); clear QX0; have QX0 := P; clear P
          have P := Lib.hid (QX2.out.frame (Same.of_below' hb)); clear QX2; have QX2 := P; clear P
          have QX3 := Lib.hid (entryE.ownAt q); clear q hb
          have Z := entry_atp QX3.out
          obtain ⟨px300, cx300, rfl⟩ := Z.1.sl
          obtain ⟨px301, cx301, rfl⟩ := Z.2.sl
          clear Z
          clear hHeld
          refine hK.out _ _ ?_ (fun hHeld => ?_)
          · (try dsimp only)
            exact SK.out _ HBD.out
          clear hK K
          (try simp only [Act.put, List.setIfInBounds_toArray, List.set_cons_zero, List.set_cons_succ])
          refine wpAnyH_ready (rs := [7, 8]) (by kernel_rfl) (by simp) ?_
          refine AllReadyH.cons (o := { dst := some 41, op := Op.call { callee := Callee.value (Operand.func 14), args := #[Operand.tmp 35, Operand.tmp 36, Operand.tmp 38, Operand.tmp 40], argTypes := #[29, 2, 42, 46] }, type := 40, pos := "exact.go:4568", after := #[{ on := 1, ground := Ground.data }, { on := 2, ground := Ground.data }, { on := 4, ground := Ground.data }, { on := 6, ground := Ground.data }, { on := 6, ground := Ground.chain }], guard := none }) rfl (fun K hK => ?_) (AllReadyH.cons (o := { dst := some 10, op := Op.alloc 40, type := 0, pos := "exact.go:4568", after := #[], guard := none }) rfl (fun K hK => ?_) (AllReadyH.nil))
          · go_simp
            have hpl : W3.heap.size ≤ (ww2).heap.size := HBD.out.size
            refine (HS.out _ _ _ _ _ _ _ _ _ (changes_atp QX0.out) QX2.out (entry_atp QX3.out).1 (entry_atp QX3.out).2).mono ?_
            rintro e ww3 ⟨⟨u901, u902, rfl, q⟩, hb⟩
            have HBD := Lib.hid (HBD.out.trans (hb.mono HBD.out.size))
            have QR := Lib.hid q; clear q hb
            have Z := changesOut_atp QR.out
            obtain ⟨pw901, cw901, rfl⟩ := Z.1.sl
            obtain ⟨pw902, cw902, rfl⟩ := Z.2.sl
            clear Z
            clear hHeld
            refine hK.out _ _ ?_ (fun hHeld => ?_)
            · (try dsimp only)
              exact SK.out _ HBD.out
            clear hK K
            (try simp only [Act.put, List.setIfInBounds_toArray, List.set_cons_zero, List.set_cons_succ])
            refine wpAnyH_ready (rs := [8]) (by kernel_rfl) (by simp) ?_
            refine AllReadyH.cons (o := { dst := some 10, op := Op.alloc 40, type := 0, pos := "exact.go:4568", after := #[], guard := none }) rfl (fun K hK => ?_) (AllReadyH.nil)
            go_simp
            have HBDp := HBD
            have QRp := QR
            have hb : Below (ww3).heap.size (ww3) ((ww3).alloc (.cells #[.int .i64 0, .slice none 0 0, .slice none 0 0, .int .i64 0] 40)) := more' (Below.refl _ _) _
            have hg : W3.heap.size ≤ (ww3).heap.size := HBD.out.size
            have HBD := Lib.hid (HBD.out.trans (hb.mono HBD.out.size))
            have P := Lib.hid (changesOutE.frame QR.out (Same.of_below' hb)); clear QR; have QR := P; clear P
            have HA : Hid (Blk ((ww3).alloc (.cells #[.int .i64 0, .slice none 0 0, .slice none 0 0, .int .i64 0] 40)) (ww3).heap.size [.int .i64 0, .slice none 0 0, .slice none 0 0, .int .i64 0]) := Lib.hid (Blk.new _ _ _)
            clear hb
            have ng : ¬ Fresh (ww2) ww3 ((ww3).heap.size) := by intro h; have := h.2; omega
            clear hHeld
            refine hK.out _ _ ?_ (fun hHeld => ?_)
            · (try dsimp only)
              exact SK.out _ HBD.out
            clear hK K
            (try simp only [Act.put, List.setIfInBounds_toArray, List.set_cons_zero, List.set_cons_succ])
            refine wpAnyH_ready (rs := [9]) (by kernel_rfl) (by simp) ?_
            refine AllReadyH.cons (o := { dst := none, op := Op.store 40 (Operand.tmp 10) (Operand.tmp 41), type := 0, pos := "exact.go:4568", after := #[{ on := 8, ground := Ground.data }, { on := 7, ground := Ground.data }, { on := 7, ground := Ground.chain }, { on := 0, ground := Ground.phase }, { on := 1, ground := Ground.phase }, { on := 2, ground := Ground.phase }, { on := 3, ground := Ground.phase }, { on := 4, ground := Ground.phase }, { on := 5, ground := Ground.phase }, { on := 6, ground := Ground.phase }, { on := 7, ground := Ground.phase }, { on := 8, ground := Ground.phase }], guard := none }) rfl (fun K hK => ?_) (AllReadyH.nil)
            go_simp
            have HBD : Hid (Below W3.heap.size W3 ((ww3).alloc (.cells #[.int .i64 a900, .slice pw901 a901.length cw901, .slice pw902 a902.length cw902, .int .i64 a903] 40))) := Lib.hid (more' HBDp.out _)
            clear hHeld
            refine hK.out _ _ ?_ (fun hHeld => ?_)
            · (try dsimp only)
              exact SK.out _ HBD.out
            clear hK K
            (try simp only [Act.put, List.setIfInBounds_toArray, List.set_cons_zero, List.set_cons_succ])
            refine wpAnyH_done (by kernel_rfl) ?_ _
            refine ⟨(ww3).heap.size, .agg #[.int .i64 a0, .slice o1 a1.length k1], .agg #[.int .i64 a0, .slice px1 a1.length cx1], .int .i64 n1, .slice o2 d2.length k2, .slice px2 d2.length cx2, .agg #[.slice o300 a300.length k300, .slice o301 a301.length k301], .agg #[.slice px300 a300.length cx300, .slice px301 a301.length cx301], .agg #[.int .i64 a900, .slice pw901 a901.length cw901, .slice pw902 a902.length cw902, .int .i64 a903], _, _, _, _, ?_, HBD.out, hg, Blk.new _ _ _, changesOutE.wide (changesOutE.frame QRp.out (Same.of_below' (more' (Below.refl _ _) _))) (fun k hk => ⟨by have := hk.1; omega, by have h1 := hk.2; simp only [World.size_alloc]; omega⟩)⟩
            first | rfl | (simp only [Act.put, List.setIfInBounds_toArray, List.set_cons_zero, List.set_cons_succ]; done) | (simp only [Act.put, List.setIfInBounds_toArray, List.set_cons_zero, List.set_cons_succ]; rfl)
          · go_simp
            have hb : Below (ww2).heap.size (ww2) ((ww2).alloc (.cells #[.int .i64 0, .slice none 0 0, .slice none 0 0, .int .i64 0] 40)) := more' (Below.refl _ _) _
            have hg : W3.heap.size ≤ (ww2).heap.size := HBD.out.size
            have HBD := Lib.hid (HBD.out.trans (hb.mono HBD.out.size))
            have P := Lib.hid (changesE.frame QX0.out (Same.of_below' hb)); clear QX0; have QX0 := P; clear P
            have P := Lib.hid (QX2.out.frame (Same.of_below' hb)); clear QX2; have QX2 := P; clear P
            have P := Lib.hid (entryE.frame QX3.out (Same.of_below' hb)); clear QX3; have QX3 := P; clear P
            have HA : Hid (Blk ((ww2).alloc (.cells #[.int .i64 0, .slice none 0 0, .slice none 0 0, .int .i64 0] 40)) (ww2).heap.size [.int .i64 0, .slice none 0 0, .slice none 0 0, .int .i64 0]) := Lib.hid (Blk.new _ _ _)
            clear hb
            clear hHeld
            refine hK.out _ _ ?_ (fun hHeld => ?_)
            · (try dsimp only)
              exact SK.out _ HBD.out
            clear hK K
            (try simp only [Act.put, List.setIfInBounds_toArray, List.set_cons_zero, List.set_cons_succ])
            refine wpAnyH_ready (rs := [7]) (by kernel_rfl) (by simp) ?_
            refine AllReadyH.cons (o := { dst := some 41, op := Op.call { callee := Callee.value (Operand.func 14), args := #[Operand.tmp 35, Operand.tmp 36, Operand.tmp 38, Operand.tmp 40], argTypes := #[29, 2, 42, 46] }, type := 40, pos := "exact.go:4568", after := #[{ on := 1, ground := Ground.data }, { on := 2, ground := Ground.data }, { on := 4, ground := Ground.data }, { on := 6, ground := Ground.data }, { on := 6, ground := Ground.chain }], guard := none }) rfl (fun K hK => ?_) (AllReadyH.nil)
            go_simp
            have hpl : W3.heap.size ≤ (((ww2).alloc (.cells #[.int .i64 0, .slice none 0 0, .slice none 0 0, .int .i64 0] 40))).heap.size := HBD.out.size
            have hgl := HA.out.lt
            refine (HS.out _ _ _ _ _ _ _ _ _ (changes_atp QX0.out) QX2.out (entry_atp QX3.out).1 (entry_atp QX3.out).2).mono ?_
            rintro e ww3 ⟨⟨u901, u902, rfl, q⟩, hb⟩
            have HBD := Lib.hid (HBD.out.trans (hb.mono HBD.out.size))
            have P := Lib.hid (HA.out.below hb); clear HA; have HA := P; clear P
            have QR := Lib.hid q; clear q hb
            have Z := changesOut_atp QR.out
            obtain ⟨pw901, cw901, rfl⟩ := Z.1.sl
            obtain ⟨pw902, cw902, rfl⟩ := Z.2.sl
            clear Z
            have ng : ¬ Fresh (((ww2).alloc (.cells #[.int .i64 0, .slice none 0 0, .slice none 0 0, .int .i64 0] 40))) ww3 ((ww2).heap.size) := by intro h; have := h.1; omega
            clear hHeld
            refine hK.out _ _ ?_ (fun hHeld => ?_)
            · (try dsimp only)
              exact SK.out _ HBD.out
            clear hK K
            (try simp only [Act.put, List.setIfInBounds_toArray, List.set_cons_zero, List.set_cons_succ])
            refine wpAnyH_ready (rs := [9]) (by kernel_rfl) (by simp) ?_
            refine AllReadyH.cons (o := { dst := none, op := Op.store 40 (Operand.tmp 10) (Operand.tmp 41), type := 0, pos := "exact.go:4568", after := #[{ on := 8, ground := Ground.data }, { on := 7, ground := Ground.data }, { on := 7, ground := Ground.chain }, { on := 0, ground := Ground.phase }, { on := 1, ground := Ground.phase }, { on := 2, ground := Ground.phase }, { on := 3, ground := Ground.phase }, { on := 4, ground := Ground.phase }, { on := 5, ground := Ground.phase }, { on := 6, ground := Ground.phase }, { on := 7, ground := Ground.phase }, { on := 8, ground := Ground.phase }], guard := none }) rfl (fun K hK => ?_) (AllReadyH.nil)
            have bx0 := HA.out.cell 0 rfl
            have bx1 := HA.out.cell 1 rfl
            have bx2 := HA.out.cell 2 rfl
            have bx3 := HA.out.cell 3 rfl
            have bf0 := HA.out.soft 0
            have bf1 := HA.out.soft 1
            have bf2 := HA.out.soft 2
            have bf3 := HA.out.soft 3
            go_simp
            clear bx0 bf0 bx1 bf1 bx2 bf2 bx3 bf3
            have HBD0 := HBD
            have HBD : Hid (Below W3.heap.size W3 (((((ww3).setCell ⟨(ww2).heap.size, 0, none⟩ (.int .i64 a900)).setCell ⟨(ww2).heap.size, 1, none⟩ (.slice pw901 a901.length cw901)).setCell ⟨(ww2).heap.size, 2, none⟩ (.slice pw902 a902.length cw902)).setCell ⟨(ww2).heap.size, 3, none⟩ (.int .i64 a903))) := Lib.hid ((((HBD.out.setCell (p := ⟨(ww2).heap.size, 0, none⟩) hg (.int .i64 a900)).setCell (p := ⟨(ww2).heap.size, 1, none⟩) hg (.slice pw901 a901.length cw901)).setCell (p := ⟨(ww2).heap.size, 2, none⟩) hg (.slice pw902 a902.length cw902)).setCell (p := ⟨(ww2).heap.size, 3, none⟩) hg (.int .i64 a903))
            clear hHeld
            refine hK.out _ _ ?_ (fun hHeld => ?_)
            · (try dsimp only)
              exact SK.out _ HBD.out
            clear hK K
            (try simp only [Act.put, List.setIfInBounds_toArray, List.set_cons_zero, List.set_cons_succ])
            refine wpAnyH_done (by kernel_rfl) ?_ _
            refine ⟨(ww2).heap.size, .agg #[.int .i64 a0, .slice o1 a1.length k1], .agg #[.int .i64 a0, .slice px1 a1.length cx1], .int .i64 n1, .slice o2 d2.length k2, .slice px2 d2.length cx2, .agg #[.slice o300 a300.length k300, .slice o301 a301.length k301], .agg #[.slice px300 a300.length cx300, .slice px301 a301.length cx301], .agg #[.int .i64 a900, .slice pw901 a901.length cw901, .slice pw902 a902.length cw902, .int .i64 a903], _, _, _, _, ?_, HBD.out, hg, ((((HA.out.set 0 (.int .i64 a900)).set 1 (.slice pw901 a901.length cw901)).set 2 (.slice pw902 a902.length cw902)).set 3 (.int .i64 a903)), changesOutE.wide (changesOutE.frame (changesOutE.frame (changesOutE.frame (changesOutE.frame QR.out (Same.set _ (g := (ww2).heap.size) 0 _ ng)) (Same.set _ (g := (ww2).heap.size) 1 _ ng)) (Same.set _ (g := (ww2).heap.size) 2 _ ng)) (Same.set _ (g := (ww2).heap.size) 3 _ ng)) (fun k hk => ⟨by have := hk.1; omega, by have h1 := hk.2; simp only [setCell_size, World.size_alloc]; omega⟩)⟩
            first | rfl | (simp only [Act.put, List.setIfInBounds_toArray, List.set_cons_zero, List.set_cons_succ]; done) | (simp only [Act.put, List.setIfInBounds_toArray, List.set_cons_zero, List.set_cons_succ]; rfl)
        · go_simp
          have hb : Below (ww1).heap.size (ww1) ((ww1).alloc (.cells #[.int .i64 0, .slice none 0 0, .slice none 0 0, .int .i64 0] 40)) := more' (Below.refl _ _) _
          have hg : W3.heap.size ≤ (ww1).heap.size := HBD.out.size
          have HBD := Lib.hid (HBD.out.trans (hb.mono HBD.out.size))
          have P := Lib.hid (changesE.frame QX0.out (Same.of_below' hb)); clear QX0; have QX0 := P; clear P
          have P := Lib.hid (QX2.out.frame (Same.of_below' hb)); clear QX2; have QX2 := P; clear P
          have HA : Hid (Blk ((ww1).alloc (.cells #[.int .i64 0, .slice none 0 0, .slice none 0 0, .int .i64 0] 40)) (ww1).heap.size [.int .i64 0, .slice none 0 0, .slice none 0 0, .int .i64 0]) := Lib.hid (Blk.new _ _ _)
          clear hb
          clear hHeld
          refine hK.out _ _ ?_ (fun hHeld => ?_)
          · (try dsimp only)
            exact SK.out _ HBD.out
          clear hK K
          (try simp only [Act.put, List.setIfInBounds_toArray, List.set_cons_zero, List.set_cons_succ])
          refine wpAnyH_ready (rs := [6]) (by kernel_rfl) (by simp) ?_
          refine AllReadyH.cons (o := { dst := some 40, op := Op.call { callee := Callee.value (Operand.func 16), args := #[Operand.tmp 39], argTypes := #[36] }, type := 46, pos := "exact.go:4568", after := #[{ on := 5, ground := Ground.data }, { on := 4, ground := Ground.chain }], guard := none }) rfl (fun K hK => ?_) (AllReadyH.nil)
          go_simp
          refine (HT3.out _ (B.out.trans (HBD.out.mono B.out.size))).mono ?_
          rintro e ww2 ⟨x300, x301, rfl, q, hb⟩
          have HBD := Lib.hid (HBD.out.trans (hb.mono HBD.out.size))
          have P := Lib.hid (changesE.frame QX0.out (Same.of_below' hb)); clear QX0; have QX0 := P; clear P
          have P := Lib.hid (QX2.out.frame (Same.of_below' hb)); clear QX2; have QX2 := P; clear P
          have P := Lib.hid (HA.out.below hb); clear HA; have HA := P; clear P
          have QX3 := Lib.hid (entryE.ownAt q); clear q hb
          have Z := entry_atp QX3.out
          obtain ⟨px300, cx300, rfl⟩ := Z.1.sl
          obtain ⟨px301, cx301, rfl⟩ := Z.2.sl
          clear Z
          clear hHeld
          refine hK.out _ _ ?_ (fun hHeld => ?_)
          · (try dsimp only)
            exact SK.out _ HBD.out
          clear hK K
          (try simp only [Act.put, List.setIfInBounds_toArray, List.set_cons_zero, List.set_cons_succ])
          refine wpAnyH_ready (rs := [7]) (by kernel_rfl) (by simp) ?_
          refine AllReadyH.cons (o := { dst := some 41, op := Op.call { callee := Callee.value (Operand.func 14), args := #[Operand.tmp 35, Operand.tmp 36, Operand.tmp 38, Operand.tmp 40], argTypes := #[29, 2, 42, 46] }, type := 40, pos := "exact.go:4568", after := #[{ on := 1, ground := Ground.data }, { on := 2, ground := Ground.data }, { on := 4, ground := Ground.data }, { on := 6, ground := Ground.data }, { on := 6, ground := Ground.chain }], guard := none }) rfl (fun K hK => ?_) (AllReadyH.nil)
          go_simp
          have hpl : W3.heap.size ≤ (ww2).heap.size := HBD.out.size
          have hgl := HA.out.lt
          refine (HS.out _ _ _ _ _ _ _ _ _ (changes_atp QX0.out) QX2.out (entry_atp QX3.out).1 (entry_atp QX3.out).2).mono ?_
          rintro e ww3 ⟨⟨u901, u902, rfl, q⟩, hb⟩
          have HBD := Lib.hid (HBD.out.trans (hb.mono HBD.out.size))
          have P := Lib.hid (HA.out.below hb); clear HA; have HA := P; clear P
          have QR := Lib.hid q; clear q hb
          have Z := changesOut_atp QR.out
          obtain ⟨pw901, cw901, rfl⟩ := Z.1.sl
          obtain ⟨pw902, cw902, rfl⟩ := Z.2.sl
          clear Z
          have ng : ¬ Fresh (ww2) ww3 ((ww1).heap.size) := by intro h; have := h.1; omega
          clear hHeld
          refine hK.out _ _ ?_ (fun hHeld => ?_)
          · (try dsimp only)
            exact SK.out _ HBD.out
          clear hK K
          (try simp only [Act.put, List.setIfInBounds_toArray, List.set_cons_zero, List.set_cons_succ])
          refine wpAnyH_ready (rs := [9]) (by kernel_rfl) (by simp) ?_
          refine AllReadyH.cons (o := { dst := none, op := Op.store 40 (Operand.tmp 10) (Operand.tmp 41), type := 0, pos := "exact.go:4568", after := #[{ on := 8, ground := Ground.data }, { on := 7, ground := Ground.data }, { on := 7, ground := Ground.chain }, { on := 0, ground := Ground.phase }, { on := 1, ground := Ground.phase }, { on := 2, ground := Ground.phase }, { on := 3, ground := Ground.phase }, { on := 4, ground := Ground.phase }, { on := 5, ground := Ground.phase }, { on := 6, ground := Ground.phase }, { on := 7, ground := Ground.phase }, { on := 8, ground := Ground.phase }], guard := none }) rfl (fun K hK => ?_) (AllReadyH.nil)
          have bx0 := HA.out.cell 0 rfl
          have bx1 := HA.out.cell 1 rfl
          have bx2 := HA.out.cell 2 rfl
          have bx3 := HA.out.cell 3 rfl
          have bf0 := HA.out.soft 0
          have bf1 := HA.out.soft 1
          have bf2 := HA.out.soft 2
          have bf3 := HA.out.soft 3
          go_simp
          clear bx0 bf0 bx1 bf1 bx2 bf2 bx3 bf3
          have HBD0 := HBD
          have HBD : Hid (Below W3.heap.size W3 (((((ww3).setCell ⟨(ww1).heap.size, 0, none⟩ (.int .i64 a900)).setCell ⟨(ww1).heap.size, 1, none⟩ (.slice pw901 a901.length cw901)).setCell ⟨(ww1).heap.size, 2, none⟩ (.slice pw902 a902.length cw902)).setCell ⟨(ww1).heap.size, 3, none⟩ (.int .i64 a903))) := Lib.hid ((((HBD.out.setCell (p := ⟨(ww1).heap.size, 0, none⟩) hg (.int .i64 a900)).setCell (p := ⟨(ww1).heap.size, 1, none⟩) hg (.slice pw901 a901.length cw901)).setCell (p := ⟨(ww1).heap.size, 2, none⟩) hg (.slice pw902 a902.length cw902)).setCell (p := ⟨(ww1).heap.size, 3, none⟩) hg (.int .i64 a903))
          clear hHeld
          refine hK.out _ _ ?_ (fun hHeld => ?_)
          · (try dsimp only)
            exact SK.out _ HBD.out
          clear hK K
          (try simp only [Act.put, List.setIfInBounds_toArray, List.set_cons_zero, List.set_cons_succ])
          refine wpAnyH_done (by kernel_rfl) ?_ _
          refine ⟨(ww1).heap.size, .agg #[.int .i64 a0, .slice o1 a1.length k1], .agg #[.int .i64 a0, .slice px1 a1.length cx1], .int .i64 n1, .slice o2 d2.length k2, .slice px2 d2.length cx2, .agg #[.slice o300 a300.length k300, .slice o301 a301.length k301], .agg #[.slice px300 a300.length cx300, .slice px301 a301.length cx301], .agg #[.int .i64 a900, .slice pw901 a901.length cw901, .slice pw902 a902.length cw902, .int .i64 a903], _, _, _, _, ?_, HBD.out, hg, ((((HA.out.set 0 (.int .i64 a900)).set 1 (.slice pw901 a901.length cw901)).set 2 (.slice pw902 a902.length cw902)).set 3 (.int .i64 a903)), changesOutE.wide (changesOutE.frame (changesOutE.frame (changesOutE.frame (changesOutE.frame QR.out (Same.set _ (g := (ww1).heap.size) 0 _ ng)) (Same.set _ (g := (ww1).heap.size) 1 _ ng)) (Same.set _ (g := (ww1).heap.size) 2 _ ng)) (Same.set _ (g := (ww1).heap.size) 3 _ ng)) (fun k hk => ⟨by have := hk.1; omega, by have h1 := hk.2; simp only [setCell_size, World.size_alloc]; omega⟩)⟩
          first | rfl | (simp only [Act.put, List.setIfInBounds_toArray, List.set_cons_zero, List.set_cons_succ]; done) | (simp only [Act.put, List.setIfInBounds_toArray, List.set_cons_zero, List.set_cons_succ]; rfl)
      · go_simp
        have hb : Below (ww0).heap.size (ww0) ((ww0).alloc (.cells #[.int .i64 0, .slice none 0 0, .slice none 0 0, .int .i64 0] 40)) := more' (Below.refl _ _) _
        have hg : W3.heap.size ≤ (ww0).heap.size := HBD.out.size
        have HBD := Lib.hid (HBD.out.trans (hb.mono HBD.out.size))
        have P := Lib.hid (changesE.frame QX0.out (Same.of_below' hb)); clear QX0; have QX0 := P; clear P
        have HA : Hid (Blk ((ww0).alloc (.cells #[.int .i64 0, .slice none 0 0, .slice none 0 0, .int .i64 0] 40)) (ww0).heap.size [.int .i64 0, .slice none 0 0, .slice none 0 0, .int .i64 0]) := Lib.hid (Blk.new _ _ _)
        clear hb
        clear hHeld
        refine hK.out _ _ ?_ (fun hHeld => ?_)
        · (try dsimp only)
          exact SK.out _ HBD.out
        clear hK K
        (try simp only [Act.put, List.setIfInBounds_toArray, List.set_cons_zero, List.set_cons_succ])
        refine wpAnyH_ready (rs := [4]) (by kernel_rfl) (by simp) ?_
        refine AllReadyH.cons (o := { dst := some 38, op := Op.call { callee := Callee.value (Operand.func 15), args := #[Operand.tmp 37], argTypes := #[33] }, type := 42, pos := "exact.go:4568", after := #[{ on := 3, ground := Ground.data }, { on := 1, ground := Ground.chain }], guard := none }) rfl (fun K hK => ?_) (AllReadyH.nil)
        go_simp
        refine (HT2.out _ (B.out.trans (HBD.out.mono B.out.size))).mono ?_
        rintro e ww1 ⟨x2, rfl, q, hb⟩
        have HBD := Lib.hid (HBD.out.trans (hb.mono HBD.out.size))
        have P := Lib.hid (changesE.frame QX0.out (Same.of_below' hb)); clear QX0; have QX0 := P; clear P
        have P := Lib.hid (HA.out.below hb); clear HA; have HA := P; clear P
        have QX2 := Lib.hid q.at; clear q hb
        obtain ⟨px2, cx2, rfl⟩ := QX2.out.sl
        clear hHeld
        refine hK.out _ _ ?_ (fun hHeld => ?_)
        · (try dsimp only)
          exact SK.out _ HBD.out
        clear hK K
        (try simp only [Act.put, List.setIfInBounds_toArray, List.set_cons_zero, List.set_cons_succ])
        refine wpAnyH_ready (rs := [6]) (by kernel_rfl) (by simp) ?_
        refine AllReadyH.cons (o := { dst := some 40, op := Op.call { callee := Callee.value (Operand.func 16), args := #[Operand.tmp 39], argTypes := #[36] }, type := 46, pos := "exact.go:4568", after := #[{ on := 5, ground := Ground.data }, { on := 4, ground := Ground.chain }], guard := none }) rfl (fun K hK => ?_) (AllReadyH.nil)
        go_simp
        refine (HT3.out _ (B.out.trans (HBD.out.mono B.out.size))).mono ?_
        rintro e ww2 ⟨x300, x301, rfl, q, hb⟩
        have HBD := Lib.hid (HBD.out.trans (hb.mono HBD.out.size))
        have P := Lib.hid (changesE.frame QX0.out (Same.of_below' hb)); clear QX0; have QX0 := P; clear P
        have P := Lib.hid (HA.out.below hb); clear HA; have HA := P; clear P
        have P := Lib.hid (QX2.out.frame (Same.of_below' hb)); clear QX2; have QX2 := P; clear P
        have QX3 := Lib.hid (entryE.ownAt q); clear q hb
        have Z := entry_atp QX3.out
        obtain ⟨px300, cx300, rfl⟩ := Z.1.sl
        obtain ⟨px301, cx301, rfl⟩ := Z.2.sl
        clear Z
        clear hHeld
        refine hK.out _ _ ?_ (fun hHeld => ?_)
        · (try dsimp only)
          exact SK.out _ HBD.out
        clear hK K
        (try simp only [Act.put, List.setIfInBounds_toArray, List.set_cons_zero, List.set_cons_succ])
        refine wpAnyH_ready (rs := [7]) (by kernel_rfl) (by simp) ?_
        refine AllReadyH.cons (o := { dst := some 41, op := Op.call { callee := Callee.value (Operand.func 14), args := #[Operand.tmp 35, Operand.tmp 36, Operand.tmp 38, Operand.tmp 40], argTypes := #[29, 2, 42, 46] }, type := 40, pos := "exact.go:4568", after := #[{ on := 1, ground := Ground.data }, { on := 2, ground := Ground.data }, { on := 4, ground := Ground.data }, { on := 6, ground := Ground.data }, { on := 6, ground := Ground.chain }], guard := none }) rfl (fun K hK => ?_) (AllReadyH.nil)
        go_simp
        have hpl : W3.heap.size ≤ (ww2).heap.size := HBD.out.size
        have hgl := HA.out.lt
        refine (HS.out _ _ _ _ _ _ _ _ _ (changes_atp QX0.out) QX2.out (entry_atp QX3.out).1 (entry_atp QX3.out).2).mono ?_
        rintro e ww3 ⟨⟨u901, u902, rfl, q⟩, hb⟩
        have HBD := Lib.hid (HBD.out.trans (hb.mono HBD.out.size))
        have P := Lib.hid (HA.out.below hb); clear HA; have HA := P; clear P
        have QR := Lib.hid q; clear q hb
        have Z := changesOut_atp QR.out
        obtain ⟨pw901, cw901, rfl⟩ := Z.1.sl
        obtain ⟨pw902, cw902, rfl⟩ := Z.2.sl
        clear Z
        have ng : ¬ Fresh (ww2) ww3 ((ww0).heap.size) := by intro h; have := h.1; omega
        clear hHeld
        refine hK.out _ _ ?_ (fun hHeld => ?_)
        · (try dsimp only)
          exact SK.out _ HBD.out
        clear hK K
        (try simp only [Act.put, List.setIfInBounds_toArray, List.set_cons_zero, List.set_cons_succ])
        refine wpAnyH_ready (rs := [9]) (by kernel_rfl) (by simp) ?_
        refine AllReadyH.cons (o := { dst := none, op := Op.store 40 (Operand.tmp 10) (Operand.tmp 41), type := 0, pos := "exact.go:4568", after := #[{ on := 8, ground := Ground.data }, { on := 7, ground := Ground.data }, { on := 7, ground := Ground.chain }, { on := 0, ground := Ground.phase }, { on := 1, ground := Ground.phase }, { on := 2, ground := Ground.phase }, { on := 3, ground := Ground.phase }, { on := 4, ground := Ground.phase }, { on := 5, ground := Ground.phase }, { on := 6, ground := Ground.phase }, { on := 7, ground := Ground.phase }, { on := 8, ground := Ground.phase }], guard := none }) rfl (fun K hK => ?_) (AllReadyH.nil)
        have bx0 := HA.out.cell 0 rfl
        have bx1 := HA.out.cell 1 rfl
        have bx2 := HA.out.cell 2 rfl
        have bx3 := HA.out.cell 3 rfl
        have bf0 := HA.out.soft 0
        have bf1 := HA.out.soft 1
        have bf2 := HA.out.soft 2
        have bf3 := HA.out.soft 3
        go_simp
        clear bx0 bf0 bx1 bf1 bx2 bf2 bx3 bf3
        have HBD0 := HBD
        have HBD : Hid (Below W3.heap.size W3 (((((ww3).setCell ⟨(ww0).heap.size, 0, none⟩ (.int .i64 a900)).setCell ⟨(ww0).heap.size, 1, none⟩ (.slice pw901 a901.length cw901)).setCell ⟨(ww0).heap.size, 2, none⟩ (.slice pw902 a902.length cw902)).setCell ⟨(ww0).heap.size, 3, none⟩ (.int .i64 a903))) := Lib.hid ((((HBD.out.setCell (p := ⟨(ww0).heap.size, 0, none⟩) hg (.int .i64 a900)).setCell (p := ⟨(ww0).heap.size, 1, none⟩) hg (.slice pw901 a901.length cw901)).setCell (p := ⟨(ww0).heap.size, 2, none⟩) hg (.slice pw902 a902.length cw902)).setCell (p := ⟨(ww0).heap.size, 3, none⟩) hg (.int .i64 a903))
        clear hHeld
        refine hK.out _ _ ?_ (fun hHeld => ?_)
        · (try dsimp only)
          exact SK.out _ HBD.out
        clear hK K
        (try simp only [Act.put, List.setIfInBounds_toArray, List.set_cons_zero, List.set_cons_succ])
        refine wpAnyH_done (by kernel_rfl) ?_ _
        refine ⟨(ww0).heap.size, .agg #[.int .i64 a0, .slice o1 a1.length k1], .agg #[.int .i64 a0, .slice px1 a1.length cx1], .int .i64 n1, .slice o2 d2.length k2, .slice px2 d2.length cx2, .agg #[.slice o300 a300.length k300, .slice o301 a301.length k301], .agg #[.slice px300 a300.length cx300, .slice px301 a301.length cx301], .agg #[.int .i64 a900, .slice pw901 a901.length cw901, .slice pw902 a902.length cw902, .int .i64 a903], _, _, _, _, ?_, HBD.out, hg, ((((HA.out.set 0 (.int .i64 a900)).set 1 (.slice pw901 a901.length cw901)).set 2 (.slice pw902 a902.length cw902)).set 3 (.int .i64 a903)), changesOutE.wide (changesOutE.frame (changesOutE.frame (changesOutE.frame (changesOutE.frame QR.out (Same.set _ (g := (ww0).heap.size) 0 _ ng)) (Same.set _ (g := (ww0).heap.size) 1 _ ng)) (Same.set _ (g := (ww0).heap.size) 2 _ ng)) (Same.set _ (g := (ww0).heap.size) 3 _ ng)) (fun k hk => ⟨by have := hk.1; omega, by have h1 := hk.2; simp only [setCell_size, World.size_alloc]; omega⟩)⟩
        first | rfl | (simp only [Act.put, List.setIfInBounds_toArray, List.set_cons_zero, List.set_cons_succ]; done) | (simp only [Act.put, List.setIfInBounds_toArray, List.set_cons_zero, List.set_cons_succ]; rfl)
    · go_simp
      have hb : Below (W3.drew).heap.size (W3.drew) ((W3.drew).alloc (.cells #[.int .i64 0, .slice none 0 0, .slice none 0 0, .int .i64 0] 40)) := more' (Below.refl _ _) _
      have hg : W3.heap.size ≤ W3.heap.size := HBD.out.size
      have HBD := Lib.hid (HBD.out.trans (hb.mono HBD.out.size))
      have HA : Hid (Blk ((W3.drew).alloc (.cells #[.int .i64 0, .slice none 0 0, .slice none 0 0, .int .i64 0] 40)) W3.heap.size [.int .i64 0, .slice none 0 0, .slice none 0 0, .int .i64 0]) := Lib.hid (Blk.new _ _ _)
      clear hb
      clear hHeld
      refine hK.out _ _ ?_ (fun hHeld => ?_)
      · (try dsimp only)
        exact SK.out _ HBD.out
      clear hK K
      (try simp only [Act.put, List.setIfInBounds_toArray, List.set_cons_zero, List.set_cons_succ])
      refine wpAnyH_ready (rs := [1]) (by kernel_rfl) (by simp) ?_
      refine AllReadyH.cons (o := { dst := some 35, op := Op.call { callee := Callee.value (Operand.func 9), args := #[Operand.tmp 34], argTypes := #[24] }, type := 29, pos := "exact.go:4568", after := #[{ on := 0, ground := Ground.data }], guard := none }) rfl (fun K hK => ?_) (AllReadyH.nil)
      go_simp
      refine (HT0.out _ (B.out.trans (HBD.out.mono B.out.size))).mono ?_
      rintro e ww0 ⟨x1, rfl, q, hb⟩
      have HBD := Lib.hid (HBD.out.trans (hb.mono HBD.out.size))
      have P := Lib.hid (HA.out.below hb); clear HA; have HA := P; clear P
      have QX0 := Lib.hid (changesE.ownAt q); clear q hb
      have Z := changes_atp QX0.out
      obtain ⟨px1, cx1, rfl⟩ := Z.sl
      clear Z
      clear hHeld
      refine hK.out _ _ ?_ (fun hHeld => ?_)
      · (try dsimp only)
        exact SK.out _ HBD.out
      clear hK K
      (try simp only [Act.put, List.setIfInBounds_toArray, List.set_cons_zero, List.set_cons_succ])
      refine wpAnyH_ready (rs := [4]) (by kernel_rfl) (by simp) ?_
      refine AllReadyH.cons (o := { dst := some 38, op := Op.call { callee := Callee.value (Operand.func 15), args := #[Operand.tmp 37], argTypes := #[33] }, type := 42, pos := "exact.go:4568", after := #[{ on := 3, ground := Ground.data }, { on := 1, ground := Ground.chain }], guard := none }) rfl (fun K hK => ?_) (AllReadyH.nil)
      go_simp
      refine (HT2.out _ (B.out.trans (HBD.out.mono B.out.size))).mono ?_
      rintro e ww1 ⟨x2, rfl, q, hb⟩
      have HBD := Lib.hid (HBD.out.trans (hb.mono HBD.out.size))
      have P := Lib.hid (HA.out.below hb); clear HA; have HA := P; clear P
      have P := Lib.hid (changesE.frame QX0.out (Same.of_below' hb)); clear QX0; have QX0 := P; clear P
      have QX2 := Lib.hid q.at; clear q hb
      obtain ⟨px2, cx2, rfl⟩ := QX2.out.sl
      clear hHeld
      refine hK.out _ _ ?_ (fun hHeld => ?_)
      · (try dsimp only)
        exact SK.out _ HBD.out
      clear hK K
      (try simp only [Act.put, List.setIfInBounds_toArray, List.set_cons_zero, List.set_cons_succ])
      refine wpAnyH_ready (rs := [6]) (by kernel_rfl) (by simp) ?_
      refine AllReadyH.cons (o := { dst := some 40, op := Op.call { callee := Callee.value (Operand.func 16), args := #[Operand.tmp 39], argTypes := #[36] }, type := 46, pos := "exact.go:4568", after := #[{ on := 5, ground := Ground.data }, { on := 4, ground := Ground.chain }], guard := none }) rfl (fun K hK => ?_) (AllReadyH.nil)
      go_simp
      refine (HT3.out _ (B.out.trans (HBD.out.mono B.out.size))).mono ?_
      rintro e ww2 ⟨x300, x301, rfl, q, hb⟩
      have HBD := Lib.hid (HBD.out.trans (hb.mono HBD.out.size))
      have P := Lib.hid (HA.out.below hb); clear HA; have HA := P; clear P
      have P := Lib.hid (changesE.frame QX0.out (Same.of_below' hb)); clear QX0; have QX0 := P; clear P
      have P := Lib.hid (QX2.out.frame (Same.of_below' hb)); clear QX2; have QX2 := P; clear P
      have QX3 := Lib.hid (entryE.ownAt q); clear q hb
      have Z := entry_atp QX3.out
      obtain ⟨px300, cx300, rfl⟩ := Z.1.sl
      obtain ⟨px301, cx301, rfl⟩ := Z.2.sl
      clear Z
      clear hHeld
      refine hK.out _ _ ?_ (fun hHeld => ?_)
      · (try dsimp only)
        exact SK.out _ HBD.out
      clear hK K
      (try simp only [Act.put, List.setIfInBounds_toArray, List.set_cons_zero, List.set_cons_succ])
      refine wpAnyH_ready (rs := [7]) (by kernel_rfl) (by simp) ?_
      refine AllReadyH.cons (o := { dst := some 41, op := Op.call { callee := Callee.value (Operand.func 14), args := #[Operand.tmp 35, Operand.tmp 36, Operand.tmp 38, Operand.tmp 40], argTypes := #[29, 2, 42, 46] }, type := 40, pos := "exact.go:4568", after := #[{ on := 1, ground := Ground.data }, { on := 2, ground := Ground.data }, { on := 4, ground := Ground.data }, { on := 6, ground := Ground.data }, { on := 6, ground := Ground.chain }], guard := none }) rfl (fun K hK => ?_) (AllReadyH.nil)
      go_simp
      have hpl : W3.heap.size ≤ (ww2).heap.size := HBD.out.size
      have hgl := HA.out.lt
      refine (HS.out _ _ _ _ _ _ _ _ _ (changes_atp QX0.out) QX2.out (entry_atp QX3.out).1 (entry_atp QX3.out).2).mono ?_
      rintro e ww3 ⟨⟨u901, u902, rfl, q⟩, hb⟩
      have HBD := Lib.hid (HBD.out.trans (hb.mono HBD.out.size))
      have P := Lib.hid (HA.out.below hb); clear HA; have HA := P; clear P
      have QR := Lib.hid q; clear q hb
      have Z := changesOut_atp QR.out
      obtain ⟨pw901, cw901, rfl⟩ := Z.1.sl
      obtain ⟨pw902, cw902, rfl⟩ := Z.2.sl
      clear Z
      have ng : ¬ Fresh (ww2) ww3 (W3.heap.size) := by intro h; have := h.1; omega
      clear hHeld
      refine hK.out _ _ ?_ (fun hHeld => ?_)
      · (try dsimp only)
        exact SK.out _ HBD.out
      clear hK K
      (try simp only [Act.put, List.setIfInBounds_toArray, List.set_cons_zero, List.set_cons_succ])
      refine wpAnyH_ready (rs := [9]) (by kernel_rfl) (by simp) ?_
      refine AllReadyH.cons (o := { dst := none, op := Op.store 40 (Operand.tmp 10) (Operand.tmp 41), type := 0, pos := "exact.go:4568", after := #[{ on := 8, ground := Ground.data }, { on := 7, ground := Ground.data }, { on := 7, ground := Ground.chain }, { on := 0, ground := Ground.phase }, { on := 1, ground := Ground.phase }, { on := 2, ground := Ground.phase }, { on := 3, ground := Ground.phase }, { on := 4, ground := Ground.phase }, { on := 5, ground := Ground.phase }, { on := 6, ground := Ground.phase }, { on := 7, ground := Ground.phase }, { on := 8, ground := Ground.phase }], guard := none }) rfl (fun K hK => ?_) (AllReadyH.nil)
      have bx0 := HA.out.cell 0 rfl
      have bx1 := HA.out.cell 1 rfl
      have bx2 := HA.out.cell 2 rfl
      have bx3 := HA.out.cell 3 rfl
      have bf0 := HA.out.soft 0
      have bf1 := HA.out.soft 1
      have bf2 := HA.out.soft 2
      have bf3 := HA.out.soft 3
      go_simp
      clear bx0 bf0 bx1 bf1 bx2 bf2 bx3 bf3
      have HBD0 := HBD
      have HBD : Hid (Below W3.heap.size W3 (((((ww3).setCell ⟨W3.heap.size, 0, none⟩ (.int .i64 a900)).setCell ⟨W3.heap.size, 1, none⟩ (.slice pw901 a901.length cw901)).setCell ⟨W3.heap.size, 2, none⟩ (.slice pw902 a902.length cw902)).setCell ⟨W3.heap.size, 3, none⟩ (.int .i64 a903))) := Lib.hid ((((HBD.out.setCell (p := ⟨W3.heap.size, 0, none⟩) hg (.int .i64 a900)).setCell (p := ⟨W3.heap.size, 1, none⟩) hg (.slice pw901 a901.length cw901)).setCell (p := ⟨W3.heap.size, 2, none⟩) hg (.slice pw902 a902.length cw902)).setCell (p := ⟨W3.heap.size, 3, none⟩) hg (.int .i64 a903))
      clear hHeld
      refine hK.out _ _ ?_ (fun hHeld => ?_)
      · (try dsimp only)
        exact SK.out _ HBD.out
      clear hK K
      (try simp only [Act.put, List.setIfInBounds_toArray, List.set_cons_zero, List.set_cons_succ])
      refine wpAnyH_done (by kernel_rfl) ?_ _
      refine ⟨W3.heap.size, .agg #[.int .i64 a0, .slice o1 a1.length k1], .agg #[.int .i64 a0, .slice px1 a1.length cx1], .int .i64 n1, .slice o2 d2.length k2, .slice px2 d2.length cx2, .agg #[.slice o300 a300.length k300, .slice o301 a301.length k301], .agg #[.slice px300 a300.length cx300, .slice px301 a301.length cx301], .agg #[.int .i64 a900, .slice pw901 a901.length cw901, .slice pw902 a902.length cw902, .int .i64 a903], _, _, _, _, ?_, HBD.out, hg, ((((HA.out.set 0 (.int .i64 a900)).set 1 (.slice pw901 a901.length cw901)).set 2 (.slice pw902 a902.length cw902)).set 3 (.int .i64 a903)), changesOutE.wide (changesOutE.frame (changesOutE.frame (changesOutE.frame (changesOutE.frame QR.out (Same.set _ (g := W3.heap.size) 0 _ ng)) (Same.set _ (g := W3.heap.size) 1 _ ng)) (Same.set _ (g := W3.heap.size) 2 _ ng)) (Same.set _ (g := W3.heap.size) 3 _ ng)) (fun k hk => ⟨by have := hk.1; omega, by have h1 := hk.2; simp only [setCell_size, World.size_alloc]; omega⟩)⟩
      first | rfl | (simp only [Act.put, List.setIfInBounds_toArray, List.set_cons_zero, List.set_cons_succ]; done) | (simp only [Act.put, List.setIfInBounds_toArray, List.set_cons_zero, List.set_cons_succ]; rfl)
  clear SK
  rintro a2 W4 ⟨gw, t0, t1, t2, t3, t4, t5, t6, t7, pw901, cw901, pw902, cw902, rfl, hb, hg, t, q⟩
  try simp only [Act.put, List.setIfInBounds_toArray, List.set_cons_zero, List.set_cons_succ]
  have P := Lib.hid (HP0.out.below hb); clear HP0; have HP0 := P; clear P
  have P := Lib.hid (HP3.out.below hb); clear HP3; have HP3 := P; clear P
  have B1 := Lib.hid (B.out.trans (hb.mono B.out.size)); clear B; have B := B1; clear B1
  have O6 := Lib.hid (hb.size)
  have O7 := Lib.hid (hg)
  have O8 := Lib.hid (t.lt)
  have HXw := Lib.hid t; have QRw := Lib.hid q; clear t q hb hg
  have pm0 := HP0.out.cell 0 rfl
  have pm1 := HP0.out.cell 1 rfl
  go_wp2_with fail
  clear pm0 pm1
  refine (HT0.out _ B.out).mono ?_
  rintro e W5 ⟨y1, rfl, q, hb⟩
  have P := Lib.hid (HP0.out.below hb); clear HP0; have HP0 := P; clear P
  have P := Lib.hid (HP3.out.below hb); clear HP3; have HP3 := P; clear P
  have P := Lib.hid (HXw.out.below hb); clear HXw; have HXw := P; clear P
  have P := Lib.hid (changesOutE.frame QRw.out (Same.of_below' hb)); clear QRw; have QRw := P; clear P
  have B1 := Lib.hid (B.out.trans (hb.mono B.out.size)); clear B; have B := B1; clear B1
  have O9 := Lib.hid (hb.size)
  have Qy0 := Lib.hid (changesE.ownAt q); have OY0 := Lib.hid q; clear q hb
  have Z := changes_atp Qy0.out
  obtain ⟨py1, cy1, rfl⟩ := Z.sl
  clear Z
  go_wp2_with fail
  refine calls_by (fun W => Below W5.heap.size W5 W ∧ Blk W W5.heap.size [.int .i64 a0, .slice py1 a1.length cy1]) ⟨more' (Below.refl _ _) _, Blk.new _ _ _⟩ ?_
  rintro V6 ⟨hb, t⟩
  have P := Lib.hid (HP0.out.below hb); clear HP0; have HP0 := P; clear P
  have P := Lib.hid (HP3.out.below hb); clear HP3; have HP3 := P; clear P
  have P := Lib.hid (HXw.out.below hb); clear HXw; have HXw := P; clear P
  have P := Lib.hid (changesOutE.frame QRw.out (Same.of_below' hb)); clear QRw; have QRw := P; clear P
  have P := Lib.hid (changesE.frame Qy0.out (Same.of_below' hb)); clear Qy0; have Qy0 := P; clear P
  have P := Lib.hid (changesE.ownFrame OY0.out (Same.of_below' hb)); clear OY0; have OY0 := P; clear P
  have B1 := Lib.hid (B.out.trans (hb.mono B.out.size)); clear B; have B := B1; clear B1
  have O10 := Lib.hid (hb.size)
  clear hb
  have HX0 := Lib.hid t; clear t
  have O11 := Lib.hid (HX0.out.lt)
  refine (HT2.out _ B.out).mono ?_
  rintro e W7 ⟨y2, rfl, q, hb⟩
  have P := Lib.hid (HP0.out.below hb); clear HP0; have HP0 := P; clear P
  have P := Lib.hid (HP3.out.below hb); clear HP3; have HP3 := P; clear P
  have P := Lib.hid (HXw.out.below hb); clear HXw; have HXw := P; clear P
  have P := Lib.hid (changesOutE.frame QRw.out (Same.of_below' hb)); clear QRw; have QRw := P; clear P
  have P := Lib.hid (changesE.frame Qy0.out (Same.of_below' hb)); clear Qy0; have Qy0 := P; clear P
  have P := Lib.hid (changesE.ownFrame OY0.out (Same.of_below' hb)); clear OY0; have OY0 := P; clear P
  have P := Lib.hid (HX0.out.below hb); clear HX0; have HX0 := P; clear P
  have B1 := Lib.hid (B.out.trans (hb.mono B.out.size)); clear B; have B := B1; clear B1
  have O12 := Lib.hid (hb.size)
  have Qy2 := Lib.hid q.at; have OY2 := Lib.hid q; clear q hb
  obtain ⟨py2, cy2, rfl⟩ := Qy2.out.sl
  have pm0 := HP3.out.cell 0 rfl
  have pm1 := HP3.out.cell 1 rfl
  go_wp2_with fail
  clear pm0 pm1
  refine (HT3.out _ B.out).mono ?_
  rintro e W8 ⟨y300, y301, rfl, q, hb⟩
  have P := Lib.hid (HP0.out.below hb); clear HP0; have HP0 := P; clear P
  have P := Lib.hid (HP3.out.below hb); clear HP3; have HP3 := P; clear P
  have P := Lib.hid (HXw.out.below hb); clear HXw; have HXw := P; clear P
  have P := Lib.hid (changesOutE.frame QRw.out (Same.of_below' hb)); clear QRw; have QRw := P; clear P
  have P := Lib.hid (changesE.frame Qy0.out (Same.of_below' hb)); clear Qy0; have Qy0 := P; clear P
  have P := Lib.hid (changesE.ownFrame OY0.out (Same.of_below' hb)); clear OY0; have OY0 := P; clear P
  have P := Lib.hid (HX0.out.below hb); clear HX0; have HX0 := P; clear P
  have P := Lib.hid (Qy2.out.frame (Same.of_below' hb)); clear Qy2; have Qy2 := P; clear P
  have P := Lib.hid (OY2.out.frame (Same.of_below' hb)); clear OY2; have OY2 := P; clear P
  have B1 := Lib.hid (B.out.trans (hb.mono B.out.size)); clear B; have B := B1; clear B1
  have O13 := Lib.hid (hb.size)
  have Qy3 := Lib.hid (entryE.ownAt q); have OY3 := Lib.hid q; clear q hb
  have Z := entry_atp Qy3.out
  obtain ⟨py300, cy300, rfl⟩ := Z.1.sl
  obtain ⟨py301, cy301, rfl⟩ := Z.2.sl
  clear Z
  have bm0 := (HXw.out.alloc (.cells #[.slice py300 a300.length cy300, .slice py301 a301.length cy301] 46)).cell 0 rfl
  have bm1 := (HXw.out.alloc (.cells #[.slice py300 a300.length cy300, .slice py301 a301.length cy301] 46)).cell 1 rfl
  have bm2 := (HXw.out.alloc (.cells #[.slice py300 a300.length cy300, .slice py301 a301.length cy301] 46)).cell 2 rfl
  have bm3 := (HXw.out.alloc (.cells #[.slice py300 a300.length cy300, .slice py301 a301.length cy301] 46)).cell 3 rfl
  have bm4 := (HX0.out.alloc (.cells #[.slice py300 a300.length cy300, .slice py301 a301.length cy301] 46)).cell 0 rfl
  have bm5 := (HX0.out.alloc (.cells #[.slice py300 a300.length cy300, .slice py301 a301.length cy301] 46)).cell 1 rfl
  go_wp2_with fail
  clear bm0 bm1 bm2 bm3 bm4 bm5
  refine calls_by (fun W => Below W8.heap.size W8 W ∧ Blk W W8.heap.size [.slice py300 a300.length cy300, .slice py301 a301.length cy301]) ⟨more' (Below.refl _ _) _, Blk.new _ _ _⟩ ?_
  rintro V8 ⟨hb, t⟩
  have P := Lib.hid (HP0.out.below hb); clear HP0; have HP0 := P; clear P
  have P := Lib.hid (HP3.out.below hb); clear HP3; have HP3 := P; clear P
  have P := Lib.hid (HXw.out.below hb); clear HXw; have HXw := P; clear P
  have P := Lib.hid (changesOutE.frame QRw.out (Same.of_below' hb)); clear QRw; have QRw := P; clear P
  have P := Lib.hid (changesE.frame Qy0.out (Same.of_below' hb)); clear Qy0; have Qy0 := P; clear P
  have P := Lib.hid (changesE.ownFrame OY0.out (Same.of_below' hb)); clear OY0; have OY0 := P; clear P
  have P := Lib.hid (HX0.out.below hb); clear HX0; have HX0 := P; clear P
  have P := Lib.hid (Qy2.out.frame (Same.of_below' hb)); clear Qy2; have Qy2 := P; clear P
  have P := Lib.hid (OY2.out.frame (Same.of_below' hb)); clear OY2; have OY2 := P; clear P
  have P := Lib.hid (entryE.frame Qy3.out (Same.of_below' hb)); clear Qy3; have Qy3 := P; clear P
  have P := Lib.hid (entryE.ownFrame OY3.out (Same.of_below' hb)); clear OY3; have OY3 := P; clear P
  have B1 := Lib.hid (B.out.trans (hb.mono B.out.size)); clear B; have B := B1; clear B1
  have O14 := Lib.hid (hb.size)
  clear hb
  have HX3 := Lib.hid t; clear t
  have O15 := Lib.hid (HX3.out.lt)
  refine (HI.out _ _ _ _ _ _ _ _ _ (changes_atp Qy0.out) Qy2.out (entry_atp Qy3.out).1 (entry_atp Qy3.out).2).mono ?_
  rintro e W9 ⟨⟨u901, u902, rfl, q⟩, hb⟩
  have P := Lib.hid (HP0.out.below hb); clear HP0; have HP0 := P; clear P
  have P := Lib.hid (HP3.out.below hb); clear HP3; have HP3 := P; clear P
  have P := Lib.hid (HXw.out.below hb); clear HXw; have HXw := P; clear P
  have P := Lib.hid (changesOutE.frame QRw.out (Same.of_below' hb)); clear QRw; have QRw := P; clear P
  have P := Lib.hid (changesE.frame Qy0.out (Same.of_below' hb)); clear Qy0; have Qy0 := P; clear P
  have P := Lib.hid (changesE.ownFrame OY0.out (Same.of_below' hb)); clear OY0; have OY0 := P; clear P
  have P := Lib.hid (HX0.out.below hb); clear HX0; have HX0 := P; clear P
  have P := Lib.hid (Qy2.out.frame (Same.of_below' hb)); clear Qy2; have Qy2 := P; clear P
  have P := Lib.hid (OY2.out.frame (Same.of_below' hb)); clear OY2; have OY2 := P; clear P
  have P := Lib.hid (entryE.frame Qy3.out (Same.of_below' hb)); clear Qy3; have Qy3 := P; clear P
  have P := Lib.hid (entryE.ownFrame OY3.out (Same.of_below' hb)); clear OY3; have OY3 := P; clear P
  have P := Lib.hid (HX3.out.below hb); clear HX3; have HX3 := P; clear P
  have B1 := Lib.hid (B.out.trans (hb.mono B.out.size)); clear B; have B := B1; clear B1
  have O16 := Lib.hid (hb.size)
  have OG := Lib.hid q; clear q hb
  have Z := changesOut_atp (changesOutE.ownAt OG.out)
  obtain ⟨pg901, cg901, rfl⟩ := Z.1.sl
  obtain ⟨pg902, cg902, rfl⟩ := Z.2.sl
  clear Z
  have bm0 := (HXw.out.alloc (.cells #[.int .i64 a900, .slice pg901 a901.length cg901, .slice pg902 a902.length cg902, .int .i64 a903] 40)).cell 0 rfl
  have bm1 := (HXw.out.alloc (.cells #[.int .i64 a900, .slice pg901 a901.length cg901, .slice pg902 a902.length cg902, .int .i64 a903] 40)).cell 1 rfl
  have bm2 := (HXw.out.alloc (.cells #[.int .i64 a900, .slice pg901 a901.length cg901, .slice pg902 a902.length cg902, .int .i64 a903] 40)).cell 2 rfl
  have bm3 := (HXw.out.alloc (.cells #[.int .i64 a900, .slice pg901 a901.length cg901, .slice pg902 a902.length cg902, .int .i64 a903] 40)).cell 3 rfl
  have bm4 := (HX0.out.alloc (.cells #[.int .i64 a900, .slice pg901 a901.length cg901, .slice pg902 a902.length cg902, .int .i64 a903] 40)).cell 0 rfl
  have bm5 := (HX0.out.alloc (.cells #[.int .i64 a900, .slice pg901 a901.length cg901, .slice pg902 a902.length cg902, .int .i64 a903] 40)).cell 1 rfl
  have bm6 := (HX3.out.alloc (.cells #[.int .i64 a900, .slice pg901 a901.length cg901, .slice pg902 a902.length cg902, .int .i64 a903] 40)).cell 0 rfl
  have bm7 := (HX3.out.alloc (.cells #[.int .i64 a900, .slice pg901 a901.length cg901, .slice pg902 a902.length cg902, .int .i64 a903] 40)).cell 1 rfl
  go_wp2_with fail
  clear bm0 bm1 bm2 bm3 bm4 bm5 bm6 bm7
  refine calls_by (fun W => Below W9.heap.size W9 W ∧ Blk W W9.heap.size [.int .i64 a900, .slice pg901 a901.length cg901, .slice pg902 a902.length cg902, .int .i64 a903]) ⟨more' (Below.refl _ _) _, Blk.new _ _ _⟩ ?_
  rintro V9 ⟨hb, t⟩
  have P := Lib.hid (HP0.out.below hb); clear HP0; have HP0 := P; clear P
  have P := Lib.hid (HP3.out.below hb); clear HP3; have HP3 := P; clear P
  have P := Lib.hid (HXw.out.below hb); clear HXw; have HXw := P; clear P
  have P := Lib.hid (changesOutE.frame QRw.out (Same.of_below' hb)); clear QRw; have QRw := P; clear P
  have P := Lib.hid (changesE.frame Qy0.out (Same.of_below' hb)); clear Qy0; have Qy0 := P; clear P
  have P := Lib.hid (changesE.ownFrame OY0.out (Same.of_below' hb)); clear OY0; have OY0 := P; clear P
  have P := Lib.hid (HX0.out.below hb); clear HX0; have HX0 := P; clear P
  have P := Lib.hid (Qy2.out.frame (Same.of_below' hb)); clear Qy2; have Qy2 := P; clear P
  have P := Lib.hid (OY2.out.frame (Same.of_below' hb)); clear OY2; have OY2 := P; clear P
  have P := Lib.hid (entryE.frame Qy3.out (Same.of_below' hb)); clear Qy3; have Qy3 := P; clear P
  have P := Lib.hid (entryE.ownFrame OY3.out (Same.of_below' hb)); clear OY3; have OY3 := P; clear P
  have P := Lib.hid (HX3.out.below hb); clear HX3; have HX3 := P; clear P
  have P := Lib.hid (changesOutE.ownFrame OG.out (Same.of_below' hb)); clear OG; have OG := P; clear P
  have B1 := Lib.hid (B.out.trans (hb.mono B.out.size)); clear B; have B := B1; clear B1
  have O17 := Lib.hid (hb.size)
  clear hb
  have O18 := Lib.hid (t.lt)
  have HXg := Lib.hid t; clear t
  refine (HQR.out _ _ _ _ _ _ _ (changesOut_atp (changesOutE.ownAt OG.out)).1 (changesOut_atp (changesOutE.ownAt OG.out)).2 (changesOut_atp QRw.out).1 (changesOut_atp QRw.out).2).mono ?_
  rintro e W10 ⟨rfl, hb⟩
  have P := Lib.hid (HP0.out.below hb); clear HP0; have HP0 := P; clear P
  have P := Lib.hid (HP3.out.below hb); clear HP3; have HP3 := P; clear P
  have P := Lib.hid (HXw.out.below hb); clear HXw; have HXw := P; clear P
  have P := Lib.hid (changesOutE.frame QRw.out (Same.of_below' hb)); clear QRw; have QRw := P; clear P
  have P := Lib.hid (changesE.frame Qy0.out (Same.of_below' hb)); clear Qy0; have Qy0 := P; clear P
  have P := Lib.hid (changesE.ownFrame OY0.out (Same.of_below' hb)); clear OY0; have OY0 := P; clear P
  have P := Lib.hid (HX0.out.below hb); clear HX0; have HX0 := P; clear P
  have P := Lib.hid (Qy2.out.frame (Same.of_below' hb)); clear Qy2; have Qy2 := P; clear P
  have P := Lib.hid (OY2.out.frame (Same.of_below' hb)); clear OY2; have OY2 := P; clear P
  have P := Lib.hid (entryE.frame Qy3.out (Same.of_below' hb)); clear Qy3; have Qy3 := P; clear P
  have P := Lib.hid (entryE.ownFrame OY3.out (Same.of_below' hb)); clear OY3; have OY3 := P; clear P
  have P := Lib.hid (HX3.out.below hb); clear HX3; have HX3 := P; clear P
  have P := Lib.hid (changesOutE.ownFrame OG.out (Same.of_below' hb)); clear OG; have OG := P; clear P
  have P := Lib.hid (HXg.out.below hb); clear HXg; have HXg := P; clear P
  have B1 := Lib.hid (B.out.trans (hb.mono B.out.size)); clear B; have B := B1; clear B1
  have O19 := Lib.hid (hb.size)
  clear hb
  go_wp2
  have hb : Below W10.heap.size W10 W10.drew := (Below.refl _ _).drew
  have SK : Hid (∀ Z' : World, Below W10.heap.size W10 Z' → Z'.cell? ⟨w.heap.size, 0, none⟩ = some (.int .i64 a0) ∧ Z'.cell? ⟨w.heap.size, 1, none⟩ = some (.slice o1 a1.length k1) ∧ Z'.cell? ⟨w.heap.size + 1, 0, none⟩ = some (.slice o300 a300.length k300) ∧ Z'.cell? ⟨w.heap.size + 1, 1, none⟩ = some (.slice o301 a301.length k301) ∧ Z'.cell? ⟨gw, 0, none⟩ = some (.int .i64 a900) ∧ Z'.cell? ⟨gw, 1, none⟩ = some (.slice pw901 a901.length cw901) ∧ Z'.cell? ⟨gw, 2, none⟩ = some (.slice pw902 a902.length cw902) ∧ Z'.cell? ⟨gw, 3, none⟩ = some (.int .i64 a903) ∧ Z'.cell? ⟨W5.heap.size, 0, none⟩ = some (.int .i64 a0) ∧ Z'.cell? ⟨W5.heap.size, 1, none⟩ = some (.slice py1 a1.length cy1) ∧ Z'.cell? ⟨W8.heap.size, 0, none⟩ = some (.slice py300 a300.length cy300) ∧ Z'.cell? ⟨W8.heap.size, 1, none⟩ = some (.slice py301 a301.length cy301) ∧ Z'.cell? ⟨W9.heap.size, 0, none⟩ = some (.int .i64 a900) ∧ Z'.cell? ⟨W9.heap.size, 1, none⟩ = some (.slice pg901 a901.length cg901) ∧ Z'.cell? ⟨W9.heap.size, 2, none⟩ = some (.slice pg902 a902.length cg902) ∧ Z'.cell? ⟨W9.heap.size, 3, none⟩ = some (.int .i64 a903)) := Lib.hid (fun Z' h => ⟨(HP0.out.below h).cell 0 rfl, (HP0.out.below h).cell 1 rfl, (HP3.out.below h).cell 0 rfl, (HP3.out.below h).cell 1 rfl, (HXw.out.below h).cell 0 rfl, (HXw.out.below h).cell 1 rfl, (HXw.out.below h).cell 2 rfl, (HXw.out.below h).cell 3 rfl, (HX0.out.below h).cell 0 rfl, (HX0.out.below h).cell 1 rfl, (HX3.out.below h).cell 0 rfl, (HX3.out.below h).cell 1 rfl, (HXg.out.below h).cell 0 rfl, (HXg.out.below h).cell 1 rfl, (HXg.out.below h).cell 2 rfl, (HXg.out.below h).cell 3 rfl⟩)
  have BD : Below W10.heap.size W10 W10.drew := hb
  have P := Lib.hid (HP0.out.below hb); clear HP0; have HP0 := P; clear P
  have P := Lib.hid (HP3.out.below hb); clear HP3; have HP3 := P; clear P
  have P := Lib.hid (HXw.out.below hb); clear HXw; have HXw := P; clear P
  have P := Lib.hid (changesOutE.frame QRw.out (Same.of_below' hb)); clear QRw; have QRw := P; clear P
  have P := Lib.hid (changesE.frame Qy0.out (Same.of_below' hb)); clear Qy0; have Qy0 := P; clear P
  have P := Lib.hid (changesE.ownFrame OY0.out (Same.of_below' hb)); clear OY0; have OY0 := P; clear P
  have P := Lib.hid (HX0.out.below hb); clear HX0; have HX0 := P; clear P
  have P := Lib.hid (Qy2.out.frame (Same.of_below' hb)); clear Qy2; have Qy2 := P; clear P
  have P := Lib.hid (OY2.out.frame (Same.of_below' hb)); clear OY2; have OY2 := P; clear P
  have P := Lib.hid (entryE.frame Qy3.out (Same.of_below' hb)); clear Qy3; have Qy3 := P; clear P
  have P := Lib.hid (entryE.ownFrame OY3.out (Same.of_below' hb)); clear OY3; have OY3 := P; clear P
  have P := Lib.hid (HX3.out.below hb); clear HX3; have HX3 := P; clear P
  have P := Lib.hid (changesOutE.ownFrame OG.out (Same.of_below' hb)); clear OG; have OG := P; clear P
  have P := Lib.hid (HXg.out.below hb); clear HXg; have HXg := P; clear P
  have B1 := Lib.hid (B.out.trans (hb.mono B.out.size)); clear B; have B := B1; clear B1
  have O20 := Lib.hid (hb.size)
  clear hb
  refine wp_region_held_drew (S := (fun Z' => Z'.cell? ⟨w.heap.size, 0, none⟩ = some (.int .i64 a0) ∧ Z'.cell? ⟨w.heap.size, 1, none⟩ = some (.slice o1 a1.length k1) ∧ Z'.cell? ⟨w.heap.size + 1, 0, none⟩ = some (.slice o300 a300.length k300) ∧ Z'.cell? ⟨w.heap.size + 1, 1, none⟩ = some (.slice o301 a301.length k301) ∧ Z'.cell? ⟨gw, 0, none⟩ = some (.int .i64 a900) ∧ Z'.cell? ⟨gw, 1, none⟩ = some (.slice pw901 a901.length cw901) ∧ Z'.cell? ⟨gw, 2, none⟩ = some (.slice pw902 a902.length cw902) ∧ Z'.cell? ⟨gw, 3, none⟩ = some (.int .i64 a903) ∧ Z'.cell? ⟨W5.heap.size, 0, none⟩ = some (.int .i64 a0) ∧ Z'.cell? ⟨W5.heap.size, 1, none⟩ = some (.slice py1 a1.length cy1) ∧ Z'.cell? ⟨W8.heap.size, 0, none⟩ = some (.slice py300 a300.length cy300) ∧ Z'.cell? ⟨W8.heap.size, 1, none⟩ = some (.slice py301 a301.length cy301) ∧ Z'.cell? ⟨W9.heap.size, 0, none⟩ = some (.int .i64 a900) ∧ Z'.cell? ⟨W9.heap.size, 1, none⟩ = some (.slice pg901 a901.length cg901) ∧ Z'.cell? ⟨W9.heap.size, 2, none⟩ = some (.slice pg902 a902.length cg902) ∧ Z'.cell? ⟨W9.heap.size, 3, none⟩ = some (.int .i64 a903))) (by kernel_rfl) ?_ (fun hHeld => ?_)
  · (try dsimp only)
    first | exact SK.out _ (by assumption) | exact SK.out _ BD
  refine wpAnyH_take (i := 0) (oi := { dst := some 57, op := Op.load 29 (Operand.tmp 11), type := 29, pos := "exact.go:4576", after := #[], guard := none }) (v := ?_) rfl (by kernel_rfl) (by kernel_rfl) (by kernel_rfl) (fun _ _ _ h => h) (Or.inl ⟨by rfl, ?_⟩) (by assumption) ?_
  rotate_left
  · intro w hSw; (try dsimp only at hSw); go_simp; (try with_reducible rfl)
  (try simp only [Act.put, List.setIfInBounds_toArray, List.set_cons_zero, List.set_cons_succ])
  refine wpAnyH_take (i := 1) (oi := { dst := some 58, op := Op.load 24 (Operand.tmp 4), type := 24, pos := "exact.go:4576", after := #[], guard := none }) (v := ?_) rfl (by kernel_rfl) (by kernel_rfl) (by kernel_rfl) (fun _ _ _ h => h) (Or.inl ⟨by rfl, ?_⟩) (by assumption) ?_
  rotate_left
  · intro w hSw; (try dsimp only at hSw); go_simp; (try with_reducible rfl)
  (try simp only [Act.put, List.setIfInBounds_toArray, List.set_cons_zero, List.set_cons_succ])
  refine wpAnyH_ready (rs := [2]) (by kernel_rfl) (by simp) ?_
  refine AllReadyH.cons (o := { dst := some 59, op := Op.call { callee := Callee.value (Operand.func 9), args := #[Operand.tmp 58], argTypes := #[24] }, type := 29, pos := "exact.go:4576", after := #[{ on := 1, ground := Ground.data }], guard := none }) rfl (fun K hK => ?_) (AllReadyH.nil)
  go_simp
  refine (HT0.out _ B.out).mono ?_
  rintro e W11 ⟨z1, rfl, q, hb⟩
  have BD := BD.trans (hb.mono BD.size)
  have P := Lib.hid (HP0.out.below hb); clear HP0; have HP0 := P; clear P
  have P := Lib.hid (HP3.out.below hb); clear HP3; have HP3 := P; clear P
  have P := Lib.hid (HXw.out.below hb); clear HXw; have HXw := P; clear P
  have P := Lib.hid (changesOutE.frame QRw.out (Same.of_below' hb)); clear QRw; have QRw := P; clear P
  have P := Lib.hid (changesE.frame Qy0.out (Same.of_below' hb)); clear Qy0; have Qy0 := P; clear P
  have P := Lib.hid (changesE.ownFrame OY0.out (Same.of_below' hb)); clear OY0; have OY0 := P; clear P
  have P := Lib.hid (HX0.out.below hb); clear HX0; have HX0 := P; clear P
  have P := Lib.hid (Qy2.out.frame (Same.of_below' hb)); clear Qy2; have Qy2 := P; clear P
  have P := Lib.hid (OY2.out.frame (Same.of_below' hb)); clear OY2; have OY2 := P; clear P
  have P := Lib.hid (entryE.frame Qy3.out (Same.of_below' hb)); clear Qy3; have Qy3 := P; clear P
  have P := Lib.hid (entryE.ownFrame OY3.out (Same.of_below' hb)); clear OY3; have OY3 := P; clear P
  have P := Lib.hid (HX3.out.below hb); clear HX3; have HX3 := P; clear P
  have P := Lib.hid (changesOutE.ownFrame OG.out (Same.of_below' hb)); clear OG; have OG := P; clear P
  have P := Lib.hid (HXg.out.below hb); clear HXg; have HXg := P; clear P
  have B1 := Lib.hid (B.out.trans (hb.mono B.out.size)); clear B; have B := B1; clear B1
  have O21 := Lib.hid (hb.size)
  have Qz0 := Lib.hid (changesE.ownAt q); clear q hb
  have Z := changes_atp Qz0.out
  obtain ⟨pz1, cz1, rfl⟩ := Z.sl
  clear Z
  clear hHeld
  refine hK.out _ _ ?_ (fun hHeld => ?_)
  · (try dsimp only)
    first | exact SK.out _ (by assumption) | exact SK.out _ BD
  clear hK K
  (try simp only [Act.put, List.setIfInBounds_toArray, List.set_cons_zero, List.set_cons_succ])
  refine wpAnyH_ready (rs := [3]) (by kernel_rfl) (by simp) ?_
  refine AllReadyH.cons (o := { dst := some 60, op := Op.call { callee := Callee.value (Operand.func 11), args := #[Operand.tmp 57, Operand.tmp 59], argTypes := #[29, 29] }, type := 4, pos := "exact.go:4576", after := #[{ on := 0, ground := Ground.data }, { on := 2, ground := Ground.data }, { on := 2, ground := Ground.chain }], guard := none }) rfl (fun K hK => ?_) (AllReadyH.nil)
  go_simp
  refine (HQ0.out _ _ _ _ _ (changes_atp Qy0.out) (changes_atp Qz0.out)).mono ?_
  rintro e W12 ⟨rfl, hb⟩
  have BD := BD.trans (hb.mono BD.size)
  have P := Lib.hid (HP0.out.below hb); clear HP0; have HP0 := P; clear P
  have P := Lib.hid (HP3.out.below hb); clear HP3; have HP3 := P; clear P
  have P := Lib.hid (HXw.out.below hb); clear HXw; have HXw := P; clear P
  have P := Lib.hid (changesOutE.frame QRw.out (Same.of_below' hb)); clear QRw; have QRw := P; clear P
  have P := Lib.hid (changesE.frame Qy0.out (Same.of_below' hb)); clear Qy0; have Qy0 := P; clear P
  have P := Lib.hid (changesE.ownFrame OY0.out (Same.of_below' hb)); clear OY0; have OY0 := P; clear P
  have P := Lib.hid (HX0.out.below hb); clear HX0; have HX0 := P; clear P
  have P := Lib.hid (Qy2.out.frame (Same.of_below' hb)); clear Qy2; have Qy2 := P; clear P
  have P := Lib.hid (OY2.out.frame (Same.of_below' hb)); clear OY2; have OY2 := P; clear P
  have P := Lib.hid (entryE.frame Qy3.out (Same.of_below' hb)); clear Qy3; have Qy3 := P; clear P
  have P := Lib.hid (entryE.ownFrame OY3.out (Same.of_below' hb)); clear OY3; have OY3 := P; clear P
  have P := Lib.hid (HX3.out.below hb); clear HX3; have HX3 := P; clear P
  have P := Lib.hid (changesOutE.ownFrame OG.out (Same.of_below' hb)); clear OG; have OG := P; clear P
  have P := Lib.hid (HXg.out.below hb); clear HXg; have HXg := P; clear P
  have P := Lib.hid (changesE.frame Qz0.out (Same.of_below' hb)); clear Qz0; have Qz0 := P; clear P
  have B1 := Lib.hid (B.out.trans (hb.mono B.out.size)); clear B; have B := B1; clear B1
  have O22 := Lib.hid (hb.size)
  clear hb
  clear hHeld
  refine hK.out _ _ ?_ (fun hHeld => ?_)
  · (try dsimp only)
    first | exact SK.out _ (by assumption) | exact SK.out _ BD
  clear hK K
  (try simp only [Act.put, List.setIfInBounds_toArray, List.set_cons_zero, List.set_cons_succ])
  refine wpAnyH_take (i := 4) (oi := { dst := some 61, op := Op.unOp UnOp.not 4 (Operand.tmp 60), type := 4, pos := "exact.go:4576", after := #[{ on := 3, ground := Ground.data }], guard := none }) (v := ?_) rfl (by kernel_rfl) (by kernel_rfl) (by kernel_rfl) (fun _ _ _ h => h) (Or.inl ⟨by rfl, ?_⟩) (by assumption) ?_
  rotate_left
  · intro w hSw; (try dsimp only at hSw); go_simp; (try with_reducible rfl)
  (try simp only [Act.put, List.setIfInBounds_toArray, List.set_cons_zero, List.set_cons_succ])
  refine wpAnyH_done (by kernel_rfl) ?_ _
  clear SK BD
  clear Qz0
  go_wp2_with fail
  refine (HT2.out _ B.out).mono ?_
  rintro e W13 ⟨z2, rfl, q, hb⟩
  have P := Lib.hid (HP0.out.below hb); clear HP0; have HP0 := P; clear P
  have P := Lib.hid (HP3.out.below hb); clear HP3; have HP3 := P; clear P
  have P := Lib.hid (HXw.out.below hb); clear HXw; have HXw := P; clear P
  have P := Lib.hid (changesOutE.frame QRw.out (Same.of_below' hb)); clear QRw; have QRw := P; clear P
  have P := Lib.hid (changesE.frame Qy0.out (Same.of_below' hb)); clear Qy0; have Qy0 := P; clear P
  have P := Lib.hid (changesE.ownFrame OY0.out (Same.of_below' hb)); clear OY0; have OY0 := P; clear P
  have P := Lib.hid (HX0.out.below hb); clear HX0; have HX0 := P; clear P
  have P := Lib.hid (Qy2.out.frame (Same.of_below' hb)); clear Qy2; have Qy2 := P; clear P
  have P := Lib.hid (OY2.out.frame (Same.of_below' hb)); clear OY2; have OY2 := P; clear P
  have P := Lib.hid (entryE.frame Qy3.out (Same.of_below' hb)); clear Qy3; have Qy3 := P; clear P
  have P := Lib.hid (entryE.ownFrame OY3.out (Same.of_below' hb)); clear OY3; have OY3 := P; clear P
  have P := Lib.hid (HX3.out.below hb); clear HX3; have HX3 := P; clear P
  have P := Lib.hid (changesOutE.ownFrame OG.out (Same.of_below' hb)); clear OG; have OG := P; clear P
  have P := Lib.hid (HXg.out.below hb); clear HXg; have HXg := P; clear P
  have B1 := Lib.hid (B.out.trans (hb.mono B.out.size)); clear B; have B := B1; clear B1
  have O23 := Lib.hid (hb.size)
  have Qz2 := Lib.hid q.at; clear q hb
  obtain ⟨pz2, cz2, rfl⟩ := Qz2.out.sl
  go_wp2_with fail
  refine (HQ2.out _ _ _ _ _ Qy2.out Qz2.out).mono ?_
  rintro e W14 ⟨rfl, hb⟩
  have P := Lib.hid (HP0.out.below hb); clear HP0; have HP0 := P; clear P
  have P := Lib.hid (HP3.out.below hb); clear HP3; have HP3 := P; clear P
  have P := Lib.hid (HXw.out.below hb); clear HXw; have HXw := P; clear P
  have P := Lib.hid (changesOutE.frame QRw.out (Same.of_below' hb)); clear QRw; have QRw := P; clear P
  have P := Lib.hid (changesE.frame Qy0.out (Same.of_below' hb)); clear Qy0; have Qy0 := P; clear P
  have P := Lib.hid (changesE.ownFrame OY0.out (Same.of_below' hb)); clear OY0; have OY0 := P; clear P
  have P := Lib.hid (HX0.out.below hb); clear HX0; have HX0 := P; clear P
  have P := Lib.hid (Qy2.out.frame (Same.of_below' hb)); clear Qy2; have Qy2 := P; clear P
  have P := Lib.hid (OY2.out.frame (Same.of_below' hb)); clear OY2; have OY2 := P; clear P
  have P := Lib.hid (entryE.frame Qy3.out (Same.of_below' hb)); clear Qy3; have Qy3 := P; clear P
  have P := Lib.hid (entryE.ownFrame OY3.out (Same.of_below' hb)); clear OY3; have OY3 := P; clear P
  have P := Lib.hid (HX3.out.below hb); clear HX3; have HX3 := P; clear P
  have P := Lib.hid (changesOutE.ownFrame OG.out (Same.of_below' hb)); clear OG; have OG := P; clear P
  have P := Lib.hid (HXg.out.below hb); clear HXg; have HXg := P; clear P
  have P := Lib.hid (Qz2.out.frame (Same.of_below' hb)); clear Qz2; have Qz2 := P; clear P
  have B1 := Lib.hid (B.out.trans (hb.mono B.out.size)); clear B; have B := B1; clear B1
  have O24 := Lib.hid (hb.size)
  clear hb
  clear Qz2
  go_wp2
  have hb : Below W14.heap.size W14 W14.drew := (Below.refl _ _).drew
  have SK : Hid (∀ Z' : World, Below W14.heap.size W14 Z' → Z'.cell? ⟨w.heap.size, 0, none⟩ = some (.int .i64 a0) ∧ Z'.cell? ⟨w.heap.size, 1, none⟩ = some (.slice o1 a1.length k1) ∧ Z'.cell? ⟨w.heap.size + 1, 0, none⟩ = some (.slice o300 a300.length k300) ∧ Z'.cell? ⟨w.heap.size + 1, 1, none⟩ = some (.slice o301 a301.length k301) ∧ Z'.cell? ⟨gw, 0, none⟩ = some (.int .i64 a900) ∧ Z'.cell? ⟨gw, 1, none⟩ = some (.slice pw901 a901.length cw901) ∧ Z'.cell? ⟨gw, 2, none⟩ = some (.slice pw902 a902.length cw902) ∧ Z'.cell? ⟨gw, 3, none⟩ = some (.int .i64 a903) ∧ Z'.cell? ⟨W5.heap.size, 0, none⟩ = some (.int .i64 a0) ∧ Z'.cell? ⟨W5.heap.size, 1, none⟩ = some (.slice py1 a1.length cy1) ∧ Z'.cell? ⟨W8.heap.size, 0, none⟩ = some (.slice py300 a300.length cy300) ∧ Z'.cell? ⟨W8.heap.size, 1, none⟩ = some (.slice py301 a301.length cy301) ∧ Z'.cell? ⟨W9.heap.size, 0, none⟩ = some (.int .i64 a900) ∧ Z'.cell? ⟨W9.heap.size, 1, none⟩ = some (.slice pg901 a901.length cg901) ∧ Z'.cell? ⟨W9.heap.size, 2, none⟩ = some (.slice pg902 a902.length cg902) ∧ Z'.cell? ⟨W9.heap.size, 3, none⟩ = some (.int .i64 a903)) := Lib.hid (fun Z' h => ⟨(HP0.out.below h).cell 0 rfl, (HP0.out.below h).cell 1 rfl, (HP3.out.below h).cell 0 rfl, (HP3.out.below h).cell 1 rfl, (HXw.out.below h).cell 0 rfl, (HXw.out.below h).cell 1 rfl, (HXw.out.below h).cell 2 rfl, (HXw.out.below h).cell 3 rfl, (HX0.out.below h).cell 0 rfl, (HX0.out.below h).cell 1 rfl, (HX3.out.below h).cell 0 rfl, (HX3.out.below h).cell 1 rfl, (HXg.out.below h).cell 0 rfl, (HXg.out.below h).cell 1 rfl, (HXg.out.below h).cell 2 rfl, (HXg.out.below h).cell 3 rfl⟩)
  have BD : Below W14.heap.size W14 W14.drew := hb
  have P := Lib.hid (HP0.out.below hb); clear HP0; have HP0 := P; clear P
  have P := Lib.hid (HP3.out.below hb); clear HP3; have HP3 := P; clear P
  have P := Lib.hid (HXw.out.below hb); clear HXw; have HXw := P; clear P
  have P := Lib.hid (changesOutE.frame QRw.out (Same.of_below' hb)); clear QRw; have QRw := P; clear P
  have P := Lib.hid (changesE.frame Qy0.out (Same.of_below' hb)); clear Qy0; have Qy0 := P; clear P
  have P := Lib.hid (changesE.ownFrame OY0.out (Same.of_below' hb)); clear OY0; have OY0 := P; clear P
  have P := Lib.hid (HX0.out.below hb); clear HX0; have HX0 := P; clear P
  have P := Lib.hid (Qy2.out.frame (Same.of_below' hb)); clear Qy2; have Qy2 := P; clear P
  have P := Lib.hid (OY2.out.frame (Same.of_below' hb)); clear OY2; have OY2 := P; clear P
  have P := Lib.hid (entryE.frame Qy3.out (Same.of_below' hb)); clear Qy3; have Qy3 := P; clear P
  have P := Lib.hid (entryE.ownFrame OY3.out (Same.of_below' hb)); clear OY3; have OY3 := P; clear P
  have P := Lib.hid (HX3.out.below hb); clear HX3; have HX3 := P; clear P
  have P := Lib.hid (changesOutE.ownFrame OG.out (Same.of_below' hb)); clear OG; have OG := P; clear P
  have P := Lib.hid (HXg.out.below hb); clear HXg; have HXg := P; clear P
  have B1 := Lib.hid (B.out.trans (hb.mono B.out.size)); clear B; have B := B1; clear B1
  have O25 := Lib.hid (hb.size)
  clear hb
  refine wp_region_held_drew (S := (fun Z' => Z'.cell? ⟨w.heap.size, 0, none⟩ = some (.int .i64 a0) ∧ Z'.cell? ⟨w.heap.size, 1, none⟩ = some (.slice o1 a1.length k1) ∧ Z'.cell? ⟨w.heap.size + 1, 0, none⟩ = some (.slice o300 a300.length k300) ∧ Z'.cell? ⟨w.heap.size + 1, 1, none⟩ = some (.slice o301 a301.length k301) ∧ Z'.cell? ⟨gw, 0, none⟩ = some (.int .i64 a900) ∧ Z'.cell? ⟨gw, 1, none⟩ = some (.slice pw901 a901.length cw901) ∧ Z'.cell? ⟨gw, 2, none⟩ = some (.slice pw902 a902.length cw902) ∧ Z'.cell? ⟨gw, 3, none⟩ = some (.int .i64 a903) ∧ Z'.cell? ⟨W5.heap.size, 0, none⟩ = some (.int .i64 a0) ∧ Z'.cell? ⟨W5.heap.size, 1, none⟩ = some (.slice py1 a1.length cy1) ∧ Z'.cell? ⟨W8.heap.size, 0, none⟩ = some (.slice py300 a300.length cy300) ∧ Z'.cell? ⟨W8.heap.size, 1, none⟩ = some (.slice py301 a301.length cy301) ∧ Z'.cell? ⟨W9.heap.size, 0, none⟩ = some (.int .i64 a900) ∧ Z'.cell? ⟨W9.heap.size, 1, none⟩ = some (.slice pg901 a901.length cg901) ∧ Z'.cell? ⟨W9.heap.size, 2, none⟩ = some (.slice pg902 a902.length cg902) ∧ Z'.cell? ⟨W9.heap.size, 3, none⟩ = some (.int .i64 a903))) (by kernel_rfl) ?_ (fun hHeld => ?_)
  · (try dsimp only)
    first | exact SK.out _ (by assumption) | exact SK.out _ BD
  refine wpAnyH_take (i := 0) (oi := { dst := some 67, op := Op.load 46 (Operand.tmp 13), type := 46, pos := "exact.go:4582", after := #[], guard := none }) (v := ?_) rfl (by kernel_rfl) (by kernel_rfl) (by kernel_rfl) (fun _ _ _ h => h) (Or.inl ⟨by rfl, ?_⟩) (by assumption) ?_
  rotate_left
  · intro w hSw; (try dsimp only at hSw); go_simp; (try with_reducible rfl)
  (try simp only [Act.put, List.setIfInBounds_toArray, List.set_cons_zero, List.set_cons_succ])
  refine wpAnyH_take (i := 1) (oi := { dst := some 68, op := Op.load 36 (Operand.tmp 7), type := 36, pos := "exact.go:4582", after := #[], guard := none }) (v := ?_) rfl (by kernel_rfl) (by kernel_rfl) (by kernel_rfl) (fun _ _ _ h => h) (Or.inl ⟨by rfl, ?_⟩) (by assumption) ?_
  rotate_left
  · intro w hSw; (try dsimp only at hSw); go_simp; (try with_reducible rfl)
  (try simp only [Act.put, List.setIfInBounds_toArray, List.set_cons_zero, List.set_cons_succ])
  refine wpAnyH_ready (rs := [2]) (by kernel_rfl) (by simp) ?_
  refine AllReadyH.cons (o := { dst := some 69, op := Op.call { callee := Callee.value (Operand.func 16), args := #[Operand.tmp 68], argTypes := #[36] }, type := 46, pos := "exact.go:4582", after := #[{ on := 1, ground := Ground.data }], guard := none }) rfl (fun K hK => ?_) (AllReadyH.nil)
  go_simp
  refine (HT3.out _ B.out).mono ?_
  rintro e W15 ⟨z300, z301, rfl, q, hb⟩
  have BD := BD.trans (hb.mono BD.size)
  have P := Lib.hid (HP0.out.below hb); clear HP0; have HP0 := P; clear P
  have P := Lib.hid (HP3.out.below hb); clear HP3; have HP3 := P; clear P
  have P := Lib.hid (HXw.out.below hb); clear HXw; have HXw := P; clear P
  have P := Lib.hid (changesOutE.frame QRw.out (Same.of_below' hb)); clear QRw; have QRw := P; clear P
  have P := Lib.hid (changesE.frame Qy0.out (Same.of_below' hb)); clear Qy0; have Qy0 := P; clear P
  have P := Lib.hid (changesE.ownFrame OY0.out (Same.of_below' hb)); clear OY0; have OY0 := P; clear P
  have P := Lib.hid (HX0.out.below hb); clear HX0; have HX0 := P; clear P
  have P := Lib.hid (Qy2.out.frame (Same.of_below' hb)); clear Qy2; have Qy2 := P; clear P
  have P := Lib.hid (OY2.out.frame (Same.of_below' hb)); clear OY2; have OY2 := P; clear P
  have P := Lib.hid (entryE.frame Qy3.out (Same.of_below' hb)); clear Qy3; have Qy3 := P; clear P
  have P := Lib.hid (entryE.ownFrame OY3.out (Same.of_below' hb)); clear OY3; have OY3 := P; clear P
  have P := Lib.hid (HX3.out.below hb); clear HX3; have HX3 := P; clear P
  have P := Lib.hid (changesOutE.ownFrame OG.out (Same.of_below' hb)); clear OG; have OG := P; clear P
  have P := Lib.hid (HXg.out.below hb); clear HXg; have HXg := P; clear P
  have B1 := Lib.hid (B.out.trans (hb.mono B.out.size)); clear B; have B := B1; clear B1
  have O26 := Lib.hid (hb.size)
  have Qz3 := Lib.hid (entryE.ownAt q); clear q hb
  have Z := entry_atp Qz3.out
  obtain ⟨pz300, cz300, rfl⟩ := Z.1.sl
  obtain ⟨pz301, cz301, rfl⟩ := Z.2.sl
  clear Z
  clear hHeld
  refine hK.out _ _ ?_ (fun hHeld => ?_)
  · (try dsimp only)
    first | exact SK.out _ (by assumption) | exact SK.out _ BD
  clear hK K
  (try simp only [Act.put, List.setIfInBounds_toArray, List.set_cons_zero, List.set_cons_succ])
  refine wpAnyH_ready (rs := [3]) (by kernel_rfl) (by simp) ?_
  refine AllReadyH.cons (o := { dst := some 70, op := Op.call { callee := Callee.value (Operand.func 20), args := #[Operand.tmp 67, Operand.tmp 69], argTypes := #[46, 46] }, type := 4, pos := "exact.go:4582", after := #[{ on := 0, ground := Ground.data }, { on := 2, ground := Ground.data }, { on := 2, ground := Ground.chain }], guard := none }) rfl (fun K hK => ?_) (AllReadyH.nil)
  go_simp
  refine (HQ3.out _ _ _ _ _ _ _ (entry_atp Qy3.out).1 (entry_atp Qy3.out).2 (entry_atp Qz3.out).1 (entry_atp Qz3.out).2).mono ?_
  rintro e W16 ⟨rfl, hb⟩
  have BD := BD.trans (hb.mono BD.size)
  have P := Lib.hid (HP0.out.below hb); clear HP0; have HP0 := P; clear P
  have P := Lib.hid (HP3.out.below hb); clear HP3; have HP3 := P; clear P
  have P := Lib.hid (HXw.out.below hb); clear HXw; have HXw := P; clear P
  have P := Lib.hid (changesOutE.frame QRw.out (Same.of_below' hb)); clear QRw; have QRw := P; clear P
  have P := Lib.hid (changesE.frame Qy0.out (Same.of_below' hb)); clear Qy0; have Qy0 := P; clear P
  have P := Lib.hid (changesE.ownFrame OY0.out (Same.of_below' hb)); clear OY0; have OY0 := P; clear P
  have P := Lib.hid (HX0.out.below hb); clear HX0; have HX0 := P; clear P
  have P := Lib.hid (Qy2.out.frame (Same.of_below' hb)); clear Qy2; have Qy2 := P; clear P
  have P := Lib.hid (OY2.out.frame (Same.of_below' hb)); clear OY2; have OY2 := P; clear P
  have P := Lib.hid (entryE.frame Qy3.out (Same.of_below' hb)); clear Qy3; have Qy3 := P; clear P
  have P := Lib.hid (entryE.ownFrame OY3.out (Same.of_below' hb)); clear OY3; have OY3 := P; clear P
  have P := Lib.hid (HX3.out.below hb); clear HX3; have HX3 := P; clear P
  have P := Lib.hid (changesOutE.ownFrame OG.out (Same.of_below' hb)); clear OG; have OG := P; clear P
  have P := Lib.hid (HXg.out.below hb); clear HXg; have HXg := P; clear P
  have P := Lib.hid (entryE.frame Qz3.out (Same.of_below' hb)); clear Qz3; have Qz3 := P; clear P
  have B1 := Lib.hid (B.out.trans (hb.mono B.out.size)); clear B; have B := B1; clear B1
  have O27 := Lib.hid (hb.size)
  clear hb
  clear hHeld
  refine hK.out _ _ ?_ (fun hHeld => ?_)
  · (try dsimp only)
    first | exact SK.out _ (by assumption) | exact SK.out _ BD
  clear hK K
  (try simp only [Act.put, List.setIfInBounds_toArray, List.set_cons_zero, List.set_cons_succ])
  refine wpAnyH_take (i := 4) (oi := { dst := some 71, op := Op.unOp UnOp.not 4 (Operand.tmp 70), type := 4, pos := "exact.go:4582", after := #[{ on := 3, ground := Ground.data }], guard := none }) (v := ?_) rfl (by kernel_rfl) (by kernel_rfl) (by kernel_rfl) (fun _ _ _ h => h) (Or.inl ⟨by rfl, ?_⟩) (by assumption) ?_
  rotate_left
  · intro w hSw; (try dsimp only at hSw); go_simp; (try with_reducible rfl)
  (try simp only [Act.put, List.setIfInBounds_toArray, List.set_cons_zero, List.set_cons_succ])
  refine wpAnyH_done (by kernel_rfl) ?_ _
  clear SK BD
  clear Qz3
  clear Qy0
  clear Qy2
  clear Qy3
  have bm0 := HXw.out.cell 0 rfl
  have bm1 := HXw.out.cell 1 rfl
  have bm2 := HXw.out.cell 2 rfl
  have bm3 := HXw.out.cell 3 rfl
  have bm4 := HX0.out.cell 0 rfl
  have bm5 := HX0.out.cell 1 rfl
  have bm6 := HX3.out.cell 0 rfl
  have bm7 := HX3.out.cell 1 rfl
  have bm8 := HXg.out.cell 0 rfl
  have bm9 := HXg.out.cell 1 rfl
  have bm10 := HXg.out.cell 2 rfl
  have bm11 := HXg.out.cell 3 rfl
  go_wp2_with fail
  clear bm0 bm1 bm2 bm3 bm4 bm5 bm6 bm7 bm8 bm9 bm10 bm11
  have mz : 0 + ((a1.length + szL changeE a1)) ≤ 1048576 := HZ0.out
  have mc1 := cnt_fit (e := changeE) a1 (by decide) (by omega)
  obtain ⟨S0, q0, i0, _⟩ := changes_op OY0.out
  refine (markChanges_fl a0 a1 _ S0 (1) _ q0 (by omega) (by omega)  (fun b h => by have := (i0 b h).2; have := O0.out; have := O1.out; have := O2.out; have := O3.out; have := O4.out; have := O5.out; have := O6.out; have := O7.out; have := O8.out; have := O9.out; have := O10.out; have := O11.out; have := O12.out; have := O13.out; have := O14.out; have := O15.out; have := O16.out; have := O17.out; have := O18.out; have := O19.out; have := O20.out; have := O21.out; have := O22.out; have := O23.out; have := O24.out; have := O25.out; have := O26.out; have := O27.out; omega) (by omega) (by omega)).mono ?_
  rintro e W17 ⟨rfl, _, ht⟩
  have ht := ht.wide (fun k z => by rcases z with z; exact i0 k z)
  clear mz q0 i0 
  have P := Lib.hid (HP0.out.turn ht (by rintro ⟨z3, z4⟩; have := O0.out; have := O1.out; have := O2.out; have := O3.out; have := O4.out; have := O5.out; have := O6.out; have := O7.out; have := O8.out; have := O9.out; have := O10.out; have := O11.out; have := O12.out; have := O13.out; have := O14.out; have := O15.out; have := O16.out; have := O17.out; have := O18.out; have := O19.out; have := O20.out; have := O21.out; have := O22.out; have := O23.out; have := O24.out; have := O25.out; have := O26.out; have := O27.out; omega)); clear HP0; have HP0 := P; clear P
  have P := Lib.hid (HP3.out.turn ht (by rintro ⟨z3, z4⟩; have := O0.out; have := O1.out; have := O2.out; have := O3.out; have := O4.out; have := O5.out; have := O6.out; have := O7.out; have := O8.out; have := O9.out; have := O10.out; have := O11.out; have := O12.out; have := O13.out; have := O14.out; have := O15.out; have := O16.out; have := O17.out; have := O18.out; have := O19.out; have := O20.out; have := O21.out; have := O22.out; have := O23.out; have := O24.out; have := O25.out; have := O26.out; have := O27.out; omega)); clear HP3; have HP3 := P; clear P
  have P := Lib.hid (HXw.out.turn ht (by rintro ⟨z3, z4⟩; have := O0.out; have := O1.out; have := O2.out; have := O3.out; have := O4.out; have := O5.out; have := O6.out; have := O7.out; have := O8.out; have := O9.out; have := O10.out; have := O11.out; have := O12.out; have := O13.out; have := O14.out; have := O15.out; have := O16.out; have := O17.out; have := O18.out; have := O19.out; have := O20.out; have := O21.out; have := O22.out; have := O23.out; have := O24.out; have := O25.out; have := O26.out; have := O27.out; omega)); clear HXw; have HXw := P; clear P
  have P := Lib.hid (changesOutE.frame QRw.out (ht.same (by rintro k ⟨z1, z2⟩ ⟨z3, z4⟩; have := O0.out; have := O1.out; have := O2.out; have := O3.out; have := O4.out; have := O5.out; have := O6.out; have := O7.out; have := O8.out; have := O9.out; have := O10.out; have := O11.out; have := O12.out; have := O13.out; have := O14.out; have := O15.out; have := O16.out; have := O17.out; have := O18.out; have := O19.out; have := O20.out; have := O21.out; have := O22.out; have := O23.out; have := O24.out; have := O25.out; have := O26.out; have := O27.out; omega))); clear QRw; have QRw := P; clear P
  have P := Lib.hid (HX0.out.turn ht (by rintro ⟨z3, z4⟩; have := O0.out; have := O1.out; have := O2.out; have := O3.out; have := O4.out; have := O5.out; have := O6.out; have := O7.out; have := O8.out; have := O9.out; have := O10.out; have := O11.out; have := O12.out; have := O13.out; have := O14.out; have := O15.out; have := O16.out; have := O17.out; have := O18.out; have := O19.out; have := O20.out; have := O21.out; have := O22.out; have := O23.out; have := O24.out; have := O25.out; have := O26.out; have := O27.out; omega)); clear HX0; have HX0 := P; clear P
  have P := Lib.hid (OY2.out.frame (ht.same (by rintro k ⟨z1, z2⟩ ⟨z3, z4⟩; have := O0.out; have := O1.out; have := O2.out; have := O3.out; have := O4.out; have := O5.out; have := O6.out; have := O7.out; have := O8.out; have := O9.out; have := O10.out; have := O11.out; have := O12.out; have := O13.out; have := O14.out; have := O15.out; have := O16.out; have := O17.out; have := O18.out; have := O19.out; have := O20.out; have := O21.out; have := O22.out; have := O23.out; have := O24.out; have := O25.out; have := O26.out; have := O27.out; omega))); clear OY2; have OY2 := P; clear P
  have P := Lib.hid (entryE.ownFrame OY3.out (ht.same (by rintro k ⟨z1, z2⟩ ⟨z3, z4⟩; have := O0.out; have := O1.out; have := O2.out; have := O3.out; have := O4.out; have := O5.out; have := O6.out; have := O7.out; have := O8.out; have := O9.out; have := O10.out; have := O11.out; have := O12.out; have := O13.out; have := O14.out; have := O15.out; have := O16.out; have := O17.out; have := O18.out; have := O19.out; have := O20.out; have := O21.out; have := O22.out; have := O23.out; have := O24.out; have := O25.out; have := O26.out; have := O27.out; omega))); clear OY3; have OY3 := P; clear P
  have P := Lib.hid (HX3.out.turn ht (by rintro ⟨z3, z4⟩; have := O0.out; have := O1.out; have := O2.out; have := O3.out; have := O4.out; have := O5.out; have := O6.out; have := O7.out; have := O8.out; have := O9.out; have := O10.out; have := O11.out; have := O12.out; have := O13.out; have := O14.out; have := O15.out; have := O16.out; have := O17.out; have := O18.out; have := O19.out; have := O20.out; have := O21.out; have := O22.out; have := O23.out; have := O24.out; have := O25.out; have := O26.out; have := O27.out; omega)); clear HX3; have HX3 := P; clear P
  have P := Lib.hid (changesOutE.ownFrame OG.out (ht.same (by rintro k ⟨z1, z2⟩ ⟨z3, z4⟩; have := O0.out; have := O1.out; have := O2.out; have := O3.out; have := O4.out; have := O5.out; have := O6.out; have := O7.out; have := O8.out; have := O9.out; have := O10.out; have := O11.out; have := O12.out; have := O13.out; have := O14.out; have := O15.out; have := O16.out; have := O17.out; have := O18.out; have := O19.out; have := O20.out; have := O21.out; have := O22.out; have := O23.out; have := O24.out; have := O25.out; have := O26.out; have := O27.out; omega))); clear OG; have OG := P; clear P
  have P := Lib.hid (HXg.out.turn ht (by rintro ⟨z3, z4⟩; have := O0.out; have := O1.out; have := O2.out; have := O3.out; have := O4.out; have := O5.out; have := O6.out; have := O7.out; have := O8.out; have := O9.out; have := O10.out; have := O11.out; have := O12.out; have := O13.out; have := O14.out; have := O15.out; have := O16.out; have := O17.out; have := O18.out; have := O19.out; have := O20.out; have := O21.out; have := O22.out; have := O23.out; have := O24.out; have := O25.out; have := O26.out; have := O27.out; omega)); clear HXg; have HXg := P; clear P
  have B1 := Lib.hid (ht.below B.out (by rintro k ⟨z3, z4⟩; have := O0.out; have := O1.out; have := O2.out; have := O3.out; have := O4.out; have := O5.out; have := O6.out; have := O7.out; have := O8.out; have := O9.out; have := O10.out; have := O11.out; have := O12.out; have := O13.out; have := O14.out; have := O15.out; have := O16.out; have := O17.out; have := O18.out; have := O19.out; have := O20.out; have := O21.out; have := O22.out; have := O23.out; have := O24.out; have := O25.out; have := O26.out; have := O27.out; omega)); clear B; have B := B1; clear B1
  have O28 := Lib.hid (ht.size)
  clear OY0 ht
  have bm0 := HXw.out.cell 0 rfl
  have bm1 := HXw.out.cell 1 rfl
  have bm2 := HXw.out.cell 2 rfl
  have bm3 := HXw.out.cell 3 rfl
  have bm4 := HX0.out.cell 0 rfl
  have bm5 := HX0.out.cell 1 rfl
  have bm6 := HX3.out.cell 0 rfl
  have bm7 := HX3.out.cell 1 rfl
  have bm8 := HXg.out.cell 0 rfl
  have bm9 := HXg.out.cell 1 rfl
  have bm10 := HXg.out.cell 2 rfl
  have bm11 := HXg.out.cell 3 rfl
  go_wp2_with fail
  clear bm0 bm1 bm2 bm3 bm4 bm5 bm6 bm7 bm8 bm9 bm10 bm11
  have mz := HZ2.out; have mc2 := cnt_fit (e := rdnE) d2 (by decide) mz
  refine (markRdnS_at _ d2 (1 + cntL changeE a1) _ OY2.out (by omega) (by omega) (by omega) (by omega)).mono ?_
  rintro e W18 ⟨rfl, _, ht⟩
  clear mz
  have P := Lib.hid (HP0.out.turn ht (by rintro ⟨z3, z4⟩; have := O0.out; have := O1.out; have := O2.out; have := O3.out; have := O4.out; have := O5.out; have := O6.out; have := O7.out; have := O8.out; have := O9.out; have := O10.out; have := O11.out; have := O12.out; have := O13.out; have := O14.out; have := O15.out; have := O16.out; have := O17.out; have := O18.out; have := O19.out; have := O20.out; have := O21.out; have := O22.out; have := O23.out; have := O24.out; have := O25.out; have := O26.out; have := O27.out; have := O28.out; omega)); clear HP0; have HP0 := P; clear P
  have P := Lib.hid (HP3.out.turn ht (by rintro ⟨z3, z4⟩; have := O0.out; have := O1.out; have := O2.out; have := O3.out; have := O4.out; have := O5.out; have := O6.out; have := O7.out; have := O8.out; have := O9.out; have := O10.out; have := O11.out; have := O12.out; have := O13.out; have := O14.out; have := O15.out; have := O16.out; have := O17.out; have := O18.out; have := O19.out; have := O20.out; have := O21.out; have := O22.out; have := O23.out; have := O24.out; have := O25.out; have := O26.out; have := O27.out; have := O28.out; omega)); clear HP3; have HP3 := P; clear P
  have P := Lib.hid (HXw.out.turn ht (by rintro ⟨z3, z4⟩; have := O0.out; have := O1.out; have := O2.out; have := O3.out; have := O4.out; have := O5.out; have := O6.out; have := O7.out; have := O8.out; have := O9.out; have := O10.out; have := O11.out; have := O12.out; have := O13.out; have := O14.out; have := O15.out; have := O16.out; have := O17.out; have := O18.out; have := O19.out; have := O20.out; have := O21.out; have := O22.out; have := O23.out; have := O24.out; have := O25.out; have := O26.out; have := O27.out; have := O28.out; omega)); clear HXw; have HXw := P; clear P
  have P := Lib.hid (changesOutE.frame QRw.out (ht.same (by rintro k ⟨z1, z2⟩ ⟨z3, z4⟩; have := O0.out; have := O1.out; have := O2.out; have := O3.out; have := O4.out; have := O5.out; have := O6.out; have := O7.out; have := O8.out; have := O9.out; have := O10.out; have := O11.out; have := O12.out; have := O13.out; have := O14.out; have := O15.out; have := O16.out; have := O17.out; have := O18.out; have := O19.out; have := O20.out; have := O21.out; have := O22.out; have := O23.out; have := O24.out; have := O25.out; have := O26.out; have := O27.out; have := O28.out; omega))); clear QRw; have QRw := P; clear P
  have P := Lib.hid (HX0.out.turn ht (by rintro ⟨z3, z4⟩; have := O0.out; have := O1.out; have := O2.out; have := O3.out; have := O4.out; have := O5.out; have := O6.out; have := O7.out; have := O8.out; have := O9.out; have := O10.out; have := O11.out; have := O12.out; have := O13.out; have := O14.out; have := O15.out; have := O16.out; have := O17.out; have := O18.out; have := O19.out; have := O20.out; have := O21.out; have := O22.out; have := O23.out; have := O24.out; have := O25.out; have := O26.out; have := O27.out; have := O28.out; omega)); clear HX0; have HX0 := P; clear P
  have P := Lib.hid (entryE.ownFrame OY3.out (ht.same (by rintro k ⟨z1, z2⟩ ⟨z3, z4⟩; have := O0.out; have := O1.out; have := O2.out; have := O3.out; have := O4.out; have := O5.out; have := O6.out; have := O7.out; have := O8.out; have := O9.out; have := O10.out; have := O11.out; have := O12.out; have := O13.out; have := O14.out; have := O15.out; have := O16.out; have := O17.out; have := O18.out; have := O19.out; have := O20.out; have := O21.out; have := O22.out; have := O23.out; have := O24.out; have := O25.out; have := O26.out; have := O27.out; have := O28.out; omega))); clear OY3; have OY3 := P; clear P
  have P := Lib.hid (HX3.out.turn ht (by rintro ⟨z3, z4⟩; have := O0.out; have := O1.out; have := O2.out; have := O3.out; have := O4.out; have := O5.out; have := O6.out; have := O7.out; have := O8.out; have := O9.out; have := O10.out; have := O11.out; have := O12.out; have := O13.out; have := O14.out; have := O15.out; have := O16.out; have := O17.out; have := O18.out; have := O19.out; have := O20.out; have := O21.out; have := O22.out; have := O23.out; have := O24.out; have := O25.out; have := O26.out; have := O27.out; have := O28.out; omega)); clear HX3; have HX3 := P; clear P
  have P := Lib.hid (changesOutE.ownFrame OG.out (ht.same (by rintro k ⟨z1, z2⟩ ⟨z3, z4⟩; have := O0.out; have := O1.out; have := O2.out; have := O3.out; have := O4.out; have := O5.out; have := O6.out; have := O7.out; have := O8.out; have := O9.out; have := O10.out; have := O11.out; have := O12.out; have := O13.out; have := O14.out; have := O15.out; have := O16.out; have := O17.out; have := O18.out; have := O19.out; have := O20.out; have := O21.out; have := O22.out; have := O23.out; have := O24.out; have := O25.out; have := O26.out; have := O27.out; have := O28.out; omega))); clear OG; have OG := P; clear P
  have P := Lib.hid (HXg.out.turn ht (by rintro ⟨z3, z4⟩; have := O0.out; have := O1.out; have := O2.out; have := O3.out; have := O4.out; have := O5.out; have := O6.out; have := O7.out; have := O8.out; have := O9.out; have := O10.out; have := O11.out; have := O12.out; have := O13.out; have := O14.out; have := O15.out; have := O16.out; have := O17.out; have := O18.out; have := O19.out; have := O20.out; have := O21.out; have := O22.out; have := O23.out; have := O24.out; have := O25.out; have := O26.out; have := O27.out; have := O28.out; omega)); clear HXg; have HXg := P; clear P
  have B1 := Lib.hid (ht.below B.out (by rintro k ⟨z3, z4⟩; have := O0.out; have := O1.out; have := O2.out; have := O3.out; have := O4.out; have := O5.out; have := O6.out; have := O7.out; have := O8.out; have := O9.out; have := O10.out; have := O11.out; have := O12.out; have := O13.out; have := O14.out; have := O15.out; have := O16.out; have := O17.out; have := O18.out; have := O19.out; have := O20.out; have := O21.out; have := O22.out; have := O23.out; have := O24.out; have := O25.out; have := O26.out; have := O27.out; have := O28.out; omega)); clear B; have B := B1; clear B1
  have O29 := Lib.hid (ht.size)
  clear OY2 ht
  have bm0 := HXw.out.cell 0 rfl
  have bm1 := HXw.out.cell 1 rfl
  have bm2 := HXw.out.cell 2 rfl
  have bm3 := HXw.out.cell 3 rfl
  have bm4 := HX0.out.cell 0 rfl
  have bm5 := HX0.out.cell 1 rfl
  have bm6 := HX3.out.cell 0 rfl
  have bm7 := HX3.out.cell 1 rfl
  have bm8 := HXg.out.cell 0 rfl
  have bm9 := HXg.out.cell 1 rfl
  have bm10 := HXg.out.cell 2 rfl
  have bm11 := HXg.out.cell 3 rfl
  go_wp2_with fail
  clear bm0 bm1 bm2 bm3 bm4 bm5 bm6 bm7 bm8 bm9 bm10 bm11
  have mz : (a300.length + szL rdnE a300) + ((a301.length + szL attrE a301)) ≤ 1048576 := HZ3.out
  have mc300 := cnt_fit (e := rdnE) a300 (by decide) (by omega)
  have mc301 := cnt_fit (e := attrE) a301 (by decide) (by omega)
  obtain ⟨S0, S1, q0, i0, q1, i1, d01, _⟩ := entry_op OY3.out
  refine (markEntry_fl a300 a301 _ _ S0 S1 (1 + cntL changeE a1 + cntL rdnE d2) _ q0 (by omega) (by omega) q1 (by omega) (by omega) d01 (fun b h => by have := (i0 b h).2; have := O0.out; have := O1.out; have := O2.out; have := O3.out; have := O4.out; have := O5.out; have := O6.out; have := O7.out; have := O8.out; have := O9.out; have := O10.out; have := O11.out; have := O12.out; have := O13.out; have := O14.out; have := O15.out; have := O16.out; have := O17.out; have := O18.out; have := O19.out; have := O20.out; have := O21.out; have := O22.out; have := O23.out; have := O24.out; have := O25.out; have := O26.out; have := O27.out; have := O28.out; have := O29.out; omega) (fun b h => by have := (i1 b h).2; have := O0.out; have := O1.out; have := O2.out; have := O3.out; have := O4.out; have := O5.out; have := O6.out; have := O7.out; have := O8.out; have := O9.out; have := O10.out; have := O11.out; have := O12.out; have := O13.out; have := O14.out; have := O15.out; have := O16.out; have := O17.out; have := O18.out; have := O19.out; have := O20.out; have := O21.out; have := O22.out; have := O23.out; have := O24.out; have := O25.out; have := O26.out; have := O27.out; have := O28.out; have := O29.out; omega) (by omega) (by omega)).mono ?_
  rintro e W19 ⟨rfl, _, _, ht⟩
  have ht := ht.wide (fun k z => by rcases z with z | z; exact i0 k z; exact i1 k z)
  clear mz q0 i0 q1 i1 d01
  have P := Lib.hid (HP0.out.turn ht (by rintro ⟨z3, z4⟩; have := O0.out; have := O1.out; have := O2.out; have := O3.out; have := O4.out; have := O5.out; have := O6.out; have := O7.out; have := O8.out; have := O9.out; have := O10.out; have := O11.out; have := O12.out; have := O13.out; have := O14.out; have := O15.out; have := O16.out; have := O17.out; have := O18.out; have := O19.out; have := O20.out; have := O21.out; have := O22.out; have := O23.out; have := O24.out; have := O25.out; have := O26.out; have := O27.out; have := O28.out; have := O29.out; omega)); clear HP0; have HP0 := P; clear P
  have P := Lib.hid (HP3.out.turn ht (by rintro ⟨z3, z4⟩; have := O0.out; have := O1.out; have := O2.out; have := O3.out; have := O4.out; have := O5.out; have := O6.out; have := O7.out; have := O8.out; have := O9.out; have := O10.out; have := O11.out; have := O12.out; have := O13.out; have := O14.out; have := O15.out; have := O16.out; have := O17.out; have := O18.out; have := O19.out; have := O20.out; have := O21.out; have := O22.out; have := O23.out; have := O24.out; have := O25.out; have := O26.out; have := O27.out; have := O28.out; have := O29.out; omega)); clear HP3; have HP3 := P; clear P
  have P := Lib.hid (HXw.out.turn ht (by rintro ⟨z3, z4⟩; have := O0.out; have := O1.out; have := O2.out; have := O3.out; have := O4.out; have := O5.out; have := O6.out; have := O7.out; have := O8.out; have := O9.out; have := O10.out; have := O11.out; have := O12.out; have := O13.out; have := O14.out; have := O15.out; have := O16.out; have := O17.out; have := O18.out; have := O19.out; have := O20.out; have := O21.out; have := O22.out; have := O23.out; have := O24.out; have := O25.out; have := O26.out; have := O27.out; have := O28.out; have := O29.out; omega)); clear HXw; have HXw := P; clear P
  have P := Lib.hid (changesOutE.frame QRw.out (ht.same (by rintro k ⟨z1, z2⟩ ⟨z3, z4⟩; have := O0.out; have := O1.out; have := O2.out; have := O3.out; have := O4.out; have := O5.out; have := O6.out; have := O7.out; have := O8.out; have := O9.out; have := O10.out; have := O11.out; have := O12.out; have := O13.out; have := O14.out; have := O15.out; have := O16.out; have := O17.out; have := O18.out; have := O19.out; have := O20.out; have := O21.out; have := O22.out; have := O23.out; have := O24.out; have := O25.out; have := O26.out; have := O27.out; have := O28.out; have := O29.out; omega))); clear QRw; have QRw := P; clear P
  have P := Lib.hid (HX0.out.turn ht (by rintro ⟨z3, z4⟩; have := O0.out; have := O1.out; have := O2.out; have := O3.out; have := O4.out; have := O5.out; have := O6.out; have := O7.out; have := O8.out; have := O9.out; have := O10.out; have := O11.out; have := O12.out; have := O13.out; have := O14.out; have := O15.out; have := O16.out; have := O17.out; have := O18.out; have := O19.out; have := O20.out; have := O21.out; have := O22.out; have := O23.out; have := O24.out; have := O25.out; have := O26.out; have := O27.out; have := O28.out; have := O29.out; omega)); clear HX0; have HX0 := P; clear P
  have P := Lib.hid (HX3.out.turn ht (by rintro ⟨z3, z4⟩; have := O0.out; have := O1.out; have := O2.out; have := O3.out; have := O4.out; have := O5.out; have := O6.out; have := O7.out; have := O8.out; have := O9.out; have := O10.out; have := O11.out; have := O12.out; have := O13.out; have := O14.out; have := O15.out; have := O16.out; have := O17.out; have := O18.out; have := O19.out; have := O20.out; have := O21.out; have := O22.out; have := O23.out; have := O24.out; have := O25.out; have := O26.out; have := O27.out; have := O28.out; have := O29.out; omega)); clear HX3; have HX3 := P; clear P
  have P := Lib.hid (changesOutE.ownFrame OG.out (ht.same (by rintro k ⟨z1, z2⟩ ⟨z3, z4⟩; have := O0.out; have := O1.out; have := O2.out; have := O3.out; have := O4.out; have := O5.out; have := O6.out; have := O7.out; have := O8.out; have := O9.out; have := O10.out; have := O11.out; have := O12.out; have := O13.out; have := O14.out; have := O15.out; have := O16.out; have := O17.out; have := O18.out; have := O19.out; have := O20.out; have := O21.out; have := O22.out; have := O23.out; have := O24.out; have := O25.out; have := O26.out; have := O27.out; have := O28.out; have := O29.out; omega))); clear OG; have OG := P; clear P
  have P := Lib.hid (HXg.out.turn ht (by rintro ⟨z3, z4⟩; have := O0.out; have := O1.out; have := O2.out; have := O3.out; have := O4.out; have := O5.out; have := O6.out; have := O7.out; have := O8.out; have := O9.out; have := O10.out; have := O11.out; have := O12.out; have := O13.out; have := O14.out; have := O15.out; have := O16.out; have := O17.out; have := O18.out; have := O19.out; have := O20.out; have := O21.out; have := O22.out; have := O23.out; have := O24.out; have := O25.out; have := O26.out; have := O27.out; have := O28.out; have := O29.out; omega)); clear HXg; have HXg := P; clear P
  have B1 := Lib.hid (ht.below B.out (by rintro k ⟨z3, z4⟩; have := O0.out; have := O1.out; have := O2.out; have := O3.out; have := O4.out; have := O5.out; have := O6.out; have := O7.out; have := O8.out; have := O9.out; have := O10.out; have := O11.out; have := O12.out; have := O13.out; have := O14.out; have := O15.out; have := O16.out; have := O17.out; have := O18.out; have := O19.out; have := O20.out; have := O21.out; have := O22.out; have := O23.out; have := O24.out; have := O25.out; have := O26.out; have := O27.out; have := O28.out; have := O29.out; omega)); clear B; have B := B1; clear B1
  have O30 := Lib.hid (ht.size)
  clear OY3 ht
  have hk : ¬ ((1 + cntL changeE a1 + cntL rdnE d2 + cntL rdnE a300 + cntL attrE a301 : Nat) : Int) < 0 := by omega
  have bm0 := HXw.out.cell 0 rfl
  have bm1 := HXw.out.cell 1 rfl
  have bm2 := HXw.out.cell 2 rfl
  have bm3 := HXw.out.cell 3 rfl
  have bm4 := HX0.out.cell 0 rfl
  have bm5 := HX0.out.cell 1 rfl
  have bm6 := HX3.out.cell 0 rfl
  have bm7 := HX3.out.cell 1 rfl
  have bm8 := HXg.out.cell 0 rfl
  have bm9 := HXg.out.cell 1 rfl
  have bm10 := HXg.out.cell 2 rfl
  have bm11 := HXg.out.cell 3 rfl
  go_wp2_with fail
  clear bm0 bm1 bm2 bm3 bm4 bm5 bm6 bm7 bm8 bm9 bm10 bm11
  refine (HQR.out _ _ _ _ _ _ _ (changesOut_atp (changesOutE.ownAt OG.out)).1 (changesOut_atp (changesOutE.ownAt OG.out)).2 (changesOut_atp QRw.out).1 (changesOut_atp QRw.out).2).mono ?_
  rintro e W20 ⟨rfl, hb⟩
  have P := Lib.hid (HP0.out.below hb); clear HP0; have HP0 := P; clear P
  have P := Lib.hid (HP3.out.below hb); clear HP3; have HP3 := P; clear P
  have P := Lib.hid (HXw.out.below hb); clear HXw; have HXw := P; clear P
  have P := Lib.hid (changesOutE.frame QRw.out (Same.of_below' hb)); clear QRw; have QRw := P; clear P
  have P := Lib.hid (HX0.out.below hb); clear HX0; have HX0 := P; clear P
  have P := Lib.hid (HX3.out.below hb); clear HX3; have HX3 := P; clear P
  have P := Lib.hid (changesOutE.ownFrame OG.out (Same.of_below' hb)); clear OG; have OG := P; clear P
  have P := Lib.hid (HXg.out.below hb); clear HXg; have HXg := P; clear P
  have B1 := Lib.hid (B.out.trans (hb.mono B.out.size)); clear B; have B := B1; clear B1
  have O31 := Lib.hid (hb.size)
  clear hb
  clear hk mc1 mc2 mc300 mc301
  have mz : (0 + ((a901.length + szL changeE a901))) + ((a902.length + szL changeE a902) + (0)) ≤ 1048576 := HRz.out
  have mc901 := cnt_fit (e := changeE) a901 (by decide) (by omega)
  have mc902 := cnt_fit (e := changeE) a902 (by decide) (by omega)
  have HH : Hid (∀ (Y : World) (S0 S1 : Bs), SlAt changeE S0 Y (mkAll changeE (1) a901) (.slice pg901 a901.length cg901) → SlAt changeE S1 Y (mkAll changeE (1 + cntL changeE a901) a902) (.slice pg902 a902.length cg902) → Calls Tryz.prog 25 #[.agg #[.int .i64 a900, .slice pg901 a901.length cg901, .slice pg902 a902.length cg902, .int .i64 a903], .int .i64 1] Y fun e w' => e = .returned (.int .i64 ((1 + cntL changeE a901 + cntL changeE a902 : Nat) : Int)) ∧ Below Y.heap.size Y w') := Lib.hid (fun Y S0 S1 h0 h1 => heldChangesOut_fl a900 a901 a902 a903 _ _ 1 Y h0 (by omega) (by omega) h1 (by omega) (by omega) (by omega) (by omega))
  have bm0 := HXw.out.cell 0 rfl
  have bm1 := HXw.out.cell 1 rfl
  have bm2 := HXw.out.cell 2 rfl
  have bm3 := HXw.out.cell 3 rfl
  have bm4 := HX0.out.cell 0 rfl
  have bm5 := HX0.out.cell 1 rfl
  have bm6 := HX3.out.cell 0 rfl
  have bm7 := HX3.out.cell 1 rfl
  have bm8 := HXg.out.cell 0 rfl
  have bm9 := HXg.out.cell 1 rfl
  have bm10 := HXg.out.cell 2 rfl
  have bm11 := HXg.out.cell 3 rfl
  go_wp2_with fail
  clear bm0 bm1 bm2 bm3 bm4 bm5 bm6 bm7 bm8 bm9 bm10 bm11
  obtain ⟨S0, S1, q0, i0, q1, i1, d01, _⟩ := changesOut_op OG.out
  refine (markChangesOut_fl a900 a901 a902 a903 _ _ S0 S1 1 _ q0 (by omega) (by omega) q1 (by omega) (by omega) d01 (fun b h => by have := (i0 b h).2; have := O0.out; have := O1.out; have := O2.out; have := O3.out; have := O4.out; have := O5.out; have := O6.out; have := O7.out; have := O8.out; have := O9.out; have := O10.out; have := O11.out; have := O12.out; have := O13.out; have := O14.out; have := O15.out; have := O16.out; have := O17.out; have := O18.out; have := O19.out; have := O20.out; have := O21.out; have := O22.out; have := O23.out; have := O24.out; have := O25.out; have := O26.out; have := O27.out; have := O28.out; have := O29.out; have := O30.out; have := O31.out; omega) (fun b h => by have := (i1 b h).2; have := O0.out; have := O1.out; have := O2.out; have := O3.out; have := O4.out; have := O5.out; have := O6.out; have := O7.out; have := O8.out; have := O9.out; have := O10.out; have := O11.out; have := O12.out; have := O13.out; have := O14.out; have := O15.out; have := O16.out; have := O17.out; have := O18.out; have := O19.out; have := O20.out; have := O21.out; have := O22.out; have := O23.out; have := O24.out; have := O25.out; have := O26.out; have := O27.out; have := O28.out; have := O29.out; have := O30.out; have := O31.out; omega) (by omega) (by omega)).mono ?_
  rintro e W21 ⟨rfl, r0, r1, ht⟩
  have QM0 := Lib.hid (r0.at.wide i0)
  have QM1 := Lib.hid (r1.at.wide i1)
  have ht := ht.wide (fun k z => by rcases z with z | z; exact i0 k z; exact i1 k z)
  have P := Lib.hid (HP0.out.turn ht (by rintro ⟨z3, z4⟩; have := O0.out; have := O1.out; have := O2.out; have := O3.out; have := O4.out; have := O5.out; have := O6.out; have := O7.out; have := O8.out; have := O9.out; have := O10.out; have := O11.out; have := O12.out; have := O13.out; have := O14.out; have := O15.out; have := O16.out; have := O17.out; have := O18.out; have := O19.out; have := O20.out; have := O21.out; have := O22.out; have := O23.out; have := O24.out; have := O25.out; have := O26.out; have := O27.out; have := O28.out; have := O29.out; have := O30.out; have := O31.out; omega)); clear HP0; have HP0 := P; clear P
  have P := Lib.hid (HP3.out.turn ht (by rintro ⟨z3, z4⟩; have := O0.out; have := O1.out; have := O2.out; have := O3.out; have := O4.out; have := O5.out; have := O6.out; have := O7.out; have := O8.out; have := O9.out; have := O10.out; have := O11.out; have := O12.out; have := O13.out; have := O14.out; have := O15.out; have := O16.out; have := O17.out; have := O18.out; have := O19.out; have := O20.out; have := O21.out; have := O22.out; have := O23.out; have := O24.out; have := O25.out; have := O26.out; have := O27.out; have := O28.out; have := O29.out; have := O30.out; have := O31.out; omega)); clear HP3; have HP3 := P; clear P
  have P := Lib.hid (HXw.out.turn ht (by rintro ⟨z3, z4⟩; have := O0.out; have := O1.out; have := O2.out; have := O3.out; have := O4.out; have := O5.out; have := O6.out; have := O7.out; have := O8.out; have := O9.out; have := O10.out; have := O11.out; have := O12.out; have := O13.out; have := O14.out; have := O15.out; have := O16.out; have := O17.out; have := O18.out; have := O19.out; have := O20.out; have := O21.out; have := O22.out; have := O23.out; have := O24.out; have := O25.out; have := O26.out; have := O27.out; have := O28.out; have := O29.out; have := O30.out; have := O31.out; omega)); clear HXw; have HXw := P; clear P
  have P := Lib.hid (changesOutE.frame QRw.out (ht.same (by rintro k ⟨z1, z2⟩ ⟨z3, z4⟩; have := O0.out; have := O1.out; have := O2.out; have := O3.out; have := O4.out; have := O5.out; have := O6.out; have := O7.out; have := O8.out; have := O9.out; have := O10.out; have := O11.out; have := O12.out; have := O13.out; have := O14.out; have := O15.out; have := O16.out; have := O17.out; have := O18.out; have := O19.out; have := O20.out; have := O21.out; have := O22.out; have := O23.out; have := O24.out; have := O25.out; have := O26.out; have := O27.out; have := O28.out; have := O29.out; have := O30.out; have := O31.out; omega))); clear QRw; have QRw := P; clear P
  have P := Lib.hid (HX0.out.turn ht (by rintro ⟨z3, z4⟩; have := O0.out; have := O1.out; have := O2.out; have := O3.out; have := O4.out; have := O5.out; have := O6.out; have := O7.out; have := O8.out; have := O9.out; have := O10.out; have := O11.out; have := O12.out; have := O13.out; have := O14.out; have := O15.out; have := O16.out; have := O17.out; have := O18.out; have := O19.out; have := O20.out; have := O21.out; have := O22.out; have := O23.out; have := O24.out; have := O25.out; have := O26.out; have := O27.out; have := O28.out; have := O29.out; have := O30.out; have := O31.out; omega)); clear HX0; have HX0 := P; clear P
  have P := Lib.hid (HX3.out.turn ht (by rintro ⟨z3, z4⟩; have := O0.out; have := O1.out; have := O2.out; have := O3.out; have := O4.out; have := O5.out; have := O6.out; have := O7.out; have := O8.out; have := O9.out; have := O10.out; have := O11.out; have := O12.out; have := O13.out; have := O14.out; have := O15.out; have := O16.out; have := O17.out; have := O18.out; have := O19.out; have := O20.out; have := O21.out; have := O22.out; have := O23.out; have := O24.out; have := O25.out; have := O26.out; have := O27.out; have := O28.out; have := O29.out; have := O30.out; have := O31.out; omega)); clear HX3; have HX3 := P; clear P
  have P := Lib.hid (HXg.out.turn ht (by rintro ⟨z3, z4⟩; have := O0.out; have := O1.out; have := O2.out; have := O3.out; have := O4.out; have := O5.out; have := O6.out; have := O7.out; have := O8.out; have := O9.out; have := O10.out; have := O11.out; have := O12.out; have := O13.out; have := O14.out; have := O15.out; have := O16.out; have := O17.out; have := O18.out; have := O19.out; have := O20.out; have := O21.out; have := O22.out; have := O23.out; have := O24.out; have := O25.out; have := O26.out; have := O27.out; have := O28.out; have := O29.out; have := O30.out; have := O31.out; omega)); clear HXg; have HXg := P; clear P
  have B1 := Lib.hid (ht.below B.out (by rintro k ⟨z3, z4⟩; have := O0.out; have := O1.out; have := O2.out; have := O3.out; have := O4.out; have := O5.out; have := O6.out; have := O7.out; have := O8.out; have := O9.out; have := O10.out; have := O11.out; have := O12.out; have := O13.out; have := O14.out; have := O15.out; have := O16.out; have := O17.out; have := O18.out; have := O19.out; have := O20.out; have := O21.out; have := O22.out; have := O23.out; have := O24.out; have := O25.out; have := O26.out; have := O27.out; have := O28.out; have := O29.out; have := O30.out; have := O31.out; omega)); clear B; have B := B1; clear B1
  have O32 := Lib.hid (ht.size)
  clear OG ht q0 i0 r0 q1 i1 r1 d01
  have hq1 : ¬ ((1 + cntL changeE a901 + cntL changeE a902 : Nat) : Int) < 0 := by omega
  generalize ((1 + cntL changeE a901 + cntL changeE a902 : Nat) : Int) = Q at *
  have hq2 : (Q != Q) = false := by simp
  clear mz mc901 mc902
  have bm0 := HXw.out.cell 0 rfl
  have bm1 := HXw.out.cell 1 rfl
  have bm2 := HXw.out.cell 2 rfl
  have bm3 := HXw.out.cell 3 rfl
  have bm4 := HX0.out.cell 0 rfl
  have bm5 := HX0.out.cell 1 rfl
  have bm6 := HX3.out.cell 0 rfl
  have bm7 := HX3.out.cell 1 rfl
  have bm8 := HXg.out.cell 0 rfl
  have bm9 := HXg.out.cell 1 rfl
  have bm10 := HXg.out.cell 2 rfl
  have bm11 := HXg.out.cell 3 rfl
  go_wp2_with fail
  clear bm0 bm1 bm2 bm3 bm4 bm5 bm6 bm7 bm8 bm9 bm10 bm11
  refine (HH.out _ _ _ QM0.out QM1.out).mono ?_
  rintro e W22 ⟨rfl, hb⟩
  have P := Lib.hid (HP0.out.below hb); clear HP0; have HP0 := P; clear P
  have P := Lib.hid (HP3.out.below hb); clear HP3; have HP3 := P; clear P
  have P := Lib.hid (HXw.out.below hb); clear HXw; have HXw := P; clear P
  have P := Lib.hid (changesOutE.frame QRw.out (Same.of_below' hb)); clear QRw; have QRw := P; clear P
  have P := Lib.hid (HX0.out.below hb); clear HX0; have HX0 := P; clear P
  have P := Lib.hid (HX3.out.below hb); clear HX3; have HX3 := P; clear P
  have P := Lib.hid (HXg.out.below hb); clear HXg; have HXg := P; clear P
  have P := Lib.hid (QM0.out.frame (Same.of_below' hb)); clear QM0; have QM0 := P; clear P
  have P := Lib.hid (QM1.out.frame (Same.of_below' hb)); clear QM1; have QM1 := P; clear P
  have B1 := Lib.hid (B.out.trans (hb.mono B.out.size)); clear B; have B := B1; clear B1
  have O33 := Lib.hid (hb.size)
  clear hb
  have bm0 := HXw.out.cell 0 rfl
  have bm1 := HXw.out.cell 1 rfl
  have bm2 := HXw.out.cell 2 rfl
  have bm3 := HXw.out.cell 3 rfl
  have bm4 := HX0.out.cell 0 rfl
  have bm5 := HX0.out.cell 1 rfl
  have bm6 := HX3.out.cell 0 rfl
  have bm7 := HX3.out.cell 1 rfl
  have bm8 := HXg.out.cell 0 rfl
  have bm9 := HXg.out.cell 1 rfl
  have bm10 := HXg.out.cell 2 rfl
  have bm11 := HXg.out.cell 3 rfl
  go_wp2
  clear bm0 bm1 bm2 bm3 bm4 bm5 bm6 bm7 bm8 bm9 bm10 bm11
  have SK : Hid (∀ Z' : World, Below W22.heap.size W22 Z' → Z'.cell? ⟨w.heap.size, 0, none⟩ = some (.int .i64 a0) ∧ Z'.cell? ⟨w.heap.size, 1, none⟩ = some (.slice o1 a1.length k1) ∧ Z'.cell? ⟨w.heap.size + 1, 0, none⟩ = some (.slice o300 a300.length k300) ∧ Z'.cell? ⟨w.heap.size + 1, 1, none⟩ = some (.slice o301 a301.length k301)) := Lib.hid (fun Z' h => ⟨(HP0.out.below h).cell 0 rfl, (HP0.out.below h).cell 1 rfl, (HP3.out.below h).cell 0 rfl, (HP3.out.below h).cell 1 rfl⟩)
  refine region_join (fun A0 a2 w2 => ∃ (g : Nat) (t0 t1 t2 t3 t4 t5 t6 t7 : Value) (ph901 : Option Addr) (ch901 : Nat) (ph902 : Option Addr) (ch902 : Nat), a2 = (((((((((A0.put (some 100) t0).put (some 101) t1).put (some 102) t2).put (some 103) t3).put (some 104) t4).put (some 105) t5).put (some 106) t6).put (some 107) t7).put (some 18) (.pointer (some ⟨g, 0, none⟩))) ∧ Below W22.heap.size W22 w2 ∧ W22.heap.size ≤ g ∧ Blk w2 g [.int .i64 a900, .slice ph901 a901.length ch901, .slice ph902 a902.length ch902, .int .i64 a903] ∧ changesOutE.At (Fresh W22 w2) w2 ((a900, a901), a902, a903) [.int .i64 a900, .slice ph901 a901.length ch901, .slice ph902 a902.length ch902, .int .i64 a903]) ?_ ?_
  · have HBD : Hid (Below W22.heap.size W22 W22.drew) := Lib.hid (Below.refl _ _).drew
    refine wp_region_held_drew (S := (fun Z' => Z'.cell? ⟨w.heap.size, 0, none⟩ = some (.int .i64 a0) ∧ Z'.cell? ⟨w.heap.size, 1, none⟩ = some (.slice o1 a1.length k1) ∧ Z'.cell? ⟨w.heap.size + 1, 0, none⟩ = some (.slice o300 a300.length k300) ∧ Z'.cell? ⟨w.heap.size + 1, 1, none⟩ = some (.slice o301 a301.length k301))) (by kernel_rfl) ?_ (fun hHeld => ?_)
    · (try dsimp only)
      exact SK.out _ HBD.out
    refine wpAnyH_take (i := 0) (oi := { dst := some 100, op := Op.load 24 (Operand.tmp 4), type := 24, pos := "exact.go:4602", after := #[], guard := none }) (v := ?_) rfl (by kernel_rfl) (by kernel_rfl) (by kernel_rfl) (fun _ _ _ h => h) (Or.inl ⟨by rfl, ?_⟩) (by assumption) ?_
    rotate_left
    · intro w hSw; (try dsimp only at hSw); go_simp; (try with_reducible rfl)
    (try simp only [Act.put, List.setIfInBounds_toArray, List.set_cons_zero, List.set_cons_succ])
    refine wpAnyH_take (i := 2) (oi := { dst := some 102, op := Op.move (Operand.tmp 1), type := 2, pos := "exact.go:4602", after := #[], guard := none }) (v := ?_) rfl (by kernel_rfl) (by kernel_rfl) (by kernel_rfl) (fun _ _ _ h => h) (Or.inl ⟨by rfl, ?_⟩) (by assumption) ?_
    rotate_left
    · intro w hSw; (try dsimp only at hSw); go_simp; (try with_reducible rfl)
    (try simp only [Act.put, List.setIfInBounds_toArray, List.set_cons_zero, List.set_cons_succ])
    refine wpAnyH_take (i := 3) (oi := { dst := some 103, op := Op.move (Operand.tmp 2), type := 33, pos := "exact.go:4602", after := #[], guard := none }) (v := ?_) rfl (by kernel_rfl) (by kernel_rfl) (by kernel_rfl) (fun _ _ _ h => h) (Or.inl ⟨by rfl, ?_⟩) (by assumption) ?_
    rotate_left
    · intro w hSw; (try dsimp only at hSw); go_simp; (try with_reducible rfl)
    (try simp only [Act.put, List.setIfInBounds_toArray, List.set_cons_zero, List.set_cons_succ])
    refine wpAnyH_take (i := 5) (oi := { dst := some 105, op := Op.load 36 (Operand.tmp 7), type := 36, pos := "exact.go:4602", after := #[], guard := none }) (v := ?_) rfl (by kernel_rfl) (by kernel_rfl) (by kernel_rfl) (fun _ _ _ h => h) (Or.inl ⟨by rfl, ?_⟩) (by assumption) ?_
    rotate_left
    · intro w hSw; (try dsimp only at hSw); go_simp; (try with_reducible rfl)
    (try simp only [Act.put, List.setIfInBounds_toArray, List.set_cons_zero, List.set_cons_succ])
    refine wpAnyH_ready (rs := [1, 8]) (by kernel_rfl) (by simp) ?_
    refine AllReadyH.cons (o := { dst := some 101, op := Op.call { callee := Callee.value (Operand.func 9), args := #[Operand.tmp 100], argTypes := #[24] }, type := 29, pos := "exact.go:4602", after := #[{ on := 0, ground := Ground.data }], guard := none }) rfl (fun K hK => ?_) (AllReadyH.cons (o := { dst := some 18, op := Op.alloc 40, type := 0, pos := "exact.go:4602", after := #[], guard := none }) rfl (fun K hK => ?_) (AllReadyH.nil))
    · go_simp
      refine (HT0.out _ (B.out.trans (HBD.out.mono B.out.size))).mono ?_
      rintro e wh0 ⟨x1, rfl, q, hb⟩
      have HBD := Lib.hid (HBD.out.trans (hb.mono HBD.out.size))
      have QX0 := Lib.hid (changesE.ownAt q); clear q hb
      have Z := changes_atp QX0.out
      obtain ⟨px1, cx1, rfl⟩ := Z.sl
      clear Z
      clear hHeld
      refine hK.out _ _ ?_ (fun hHeld => ?_)
      · (try dsimp only)
        exact SK.out _ HBD.out
      clear hK K
      (try simp only [Act.put, List.setIfInBounds_toArray, List.set_cons_zero, List.set_cons_succ])
      refine wpAnyH_ready (rs := [4, 8]) (by kernel_rfl) (by simp) ?_
      refine AllReadyH.cons (o := { dst := some 104, op := Op.call { callee := Callee.value (Operand.func 15), args := #[Operand.tmp 103], argTypes := #[33] }, type := 42, pos := "exact.go:4602", after := #[{ on := 3, ground := Ground.data }, { on := 1, ground := Ground.chain }], guard := none }) rfl (fun K hK => ?_) (AllReadyH.cons (o := { dst := some 18, op := Op.alloc 40, type := 0, pos := "exact.go:4602", after := #[], guard := none }) rfl (fun K hK => ?_) (AllReadyH.nil))
      · go_simp
        refine (HT2.out _ (B.out.trans (HBD.out.mono B.out.size))).mono ?_
        rintro e wh1 ⟨x2, rfl, q, hb⟩
        have HBD := Lib.hid (HBD.out.trans (hb.mono HBD.out.size))
        have P := Lib.hid (changesE.frame QX0.out (Same.of_below' hb)); clear QX0; have QX0 := P; clear P
        have QX2 := Lib.hid q.at; clear q hb
        obtain ⟨px2, cx2, rfl⟩ := QX2.out.sl
        clear hHeld
        refine hK.out _ _ ?_ (fun hHeld => ?_)
        · (try dsimp only)
          exact SK.out _ HBD.out
        clear hK K
        (try simp only [Act.put, List.setIfInBounds_toArray, List.set_cons_zero, List.set_cons_succ])
        refine wpAnyH_ready (rs := [6, 8]) (by kernel_rfl) (by simp) ?_
        refine AllReadyH.cons (o := { dst := some 106, op := Op.call { callee := Callee.value (Operand.func 16), args := #[Operand.tmp 105], argTypes := #[36] }, type := 46, pos := "exact.go:4602", after := #[{ on := 5, ground := Ground.data }, { on := 4, ground := Ground.chain }], guard := none }) rfl (fun K hK => ?_) (AllReadyH.cons (o := { dst := some 18, op := Op.alloc 40, type := 0, pos := "exact.go:4602", after := #[], guard := none }) rfl (fun K hK => ?_) (AllReadyH.nil))
        · go_simp
          refine (HT3.out _ (B.out.trans (HBD.out.mono B.out.size))).mono ?_
          rintro e wh2 ⟨x300, x301, rfl, q, hb⟩
          have HBD := Lib.hid (HBD.out.trans (hb.mono HBD.out.size))
          have P := Lib.hid (changesE.frame QX0.out (Same.of_below' hb)); clear QX0; have QX0 := P; clear P
          have P := Lib.hid (QX2.out.frame (Same.of_below' hb)); clear QX2; have QX2 := P; clear P
          have QX3 := Lib.hid (entryE.ownAt q); clear q hb
          have Z := entry_atp QX3.out
          obtain ⟨px300, cx300, rfl⟩ := Z.1.sl
          obtain ⟨px301, cx301, rfl⟩ := Z.2.sl
          clear Z
          clear hHeld
          refine hK.out _ _ ?_ (fun hHeld => ?_)
          · (try dsimp only)
            exact SK.out _ HBD.out
          clear hK K
          (try simp only [Act.put, List.setIfInBounds_toArray, List.set_cons_zero, List.set_cons_succ])
          refine wpAnyH_ready (rs := [7, 8]) (by kernel_rfl) (by simp) ?_
          refine AllReadyH.cons (o := { dst := some 107, op := Op.call { callee := Callee.value (Operand.func 17), args := #[Operand.tmp 101, Operand.tmp 102, Operand.tmp 104, Operand.tmp 106], argTypes := #[29, 2, 42, 46] }, type := 40, pos := "exact.go:4602", after := #[{ on := 1, ground := Ground.data }, { on := 2, ground := Ground.data }, { on := 4, ground := Ground.data }, { on := 6, ground := Ground.data }, { on := 6, ground := Ground.chain }], guard := none }) rfl (fun K hK => ?_) (AllReadyH.cons (o := { dst := some 18, op := Op.alloc 40, type := 0, pos := "exact.go:4602", after := #[], guard := none }) rfl (fun K hK => ?_) (AllReadyH.nil))
          · go_simp
            have hpl : W22.heap.size ≤ (wh2).heap.size := HBD.out.size
            refine (HI.out _ _ _ _ _ _ _ _ _ (changes_atp QX0.out) QX2.out (entry_atp QX3.out).1 (entry_atp QX3.out).2).mono ?_
            rintro e wh3 ⟨⟨u901, u902, rfl, q⟩, hb⟩
            have HBD := Lib.hid (HBD.out.trans (hb.mono HBD.out.size))
            have QR := Lib.hid (changesOutE.ownAt q); clear q hb
            have Z := changesOut_atp QR.out
            obtain ⟨ph901, ch901, rfl⟩ := Z.1.sl
            obtain ⟨ph902, ch902, rfl⟩ := Z.2.sl
            clear Z
            clear hHeld
            refine hK.out _ _ ?_ (fun hHeld => ?_)
            · (try dsimp only)
              exact SK.out _ HBD.out
            clear hK K
            (try simp only [Act.put, List.setIfInBounds_toArray, List.set_cons_zero, List.set_cons_succ])
            refine wpAnyH_ready (rs := [8]) (by kernel_rfl) (by simp) ?_
            refine AllReadyH.cons (o := { dst := some 18, op := Op.alloc 40, type := 0, pos := "exact.go:4602", after := #[], guard := none }) rfl (fun K hK => ?_) (AllReadyH.nil)
            go_simp
            have HBDp := HBD
            have QRp := QR
            have hb : Below (wh3).heap.size (wh3) ((wh3).alloc (.cells #[.int .i64 0, .slice none 0 0, .slice none 0 0, .int .i64 0] 40)) := more' (Below.refl _ _) _
            have hg : W22.heap.size ≤ (wh3).heap.size := HBD.out.size
            have HBD := Lib.hid (HBD.out.trans (hb.mono HBD.out.size))
            have P := Lib.hid (changesOutE.frame QR.out (Same.of_below' hb)); clear QR; have QR := P; clear P
            have HA : Hid (Blk ((wh3).alloc (.cells #[.int .i64 0, .slice none 0 0, .slice none 0 0, .int .i64 0] 40)) (wh3).heap.size [.int .i64 0, .slice none 0 0, .slice none 0 0, .int .i64 0]) := Lib.hid (Blk.new _ _ _)
            clear hb
            have ng : ¬ Fresh (wh2) wh3 ((wh3).heap.size) := by intro h; have := h.2; omega
            clear hHeld
            refine hK.out _ _ ?_ (fun hHeld => ?_)
            · (try dsimp only)
              exact SK.out _ HBD.out
            clear hK K
            (try simp only [Act.put, List.setIfInBounds_toArray, List.set_cons_zero, List.set_cons_succ])
            refine wpAnyH_ready (rs := [9]) (by kernel_rfl) (by simp) ?_
            refine AllReadyH.cons (o := { dst := none, op := Op.store 40 (Operand.tmp 18) (Operand.tmp 107), type := 0, pos := "exact.go:4602", after := #[{ on := 8, ground := Ground.data }, { on := 7, ground := Ground.data }, { on := 7, ground := Ground.chain }, { on := 0, ground := Ground.phase }, { on := 1, ground := Ground.phase }, { on := 2, ground := Ground.phase }, { on := 3, ground := Ground.phase }, { on := 4, ground := Ground.phase }, { on := 5, ground := Ground.phase }, { on := 6, ground := Ground.phase }, { on := 7, ground := Ground.phase }, { on := 8, ground := Ground.phase }], guard := none }) rfl (fun K hK => ?_) (AllReadyH.nil)
            go_simp
            have HBD : Hid (Below W22.heap.size W22 ((wh3).alloc (.cells #[.int .i64 a900, .slice ph901 a901.length ch901, .slice ph902 a902.length ch902, .int .i64 a903] 40))) := Lib.hid (more' HBDp.out _)
            clear hHeld
            refine hK.out _ _ ?_ (fun hHeld => ?_)
            · (try dsimp only)
              exact SK.out _ HBD.out
            clear hK K
            (try simp only [Act.put, List.setIfInBounds_toArray, List.set_cons_zero, List.set_cons_succ])
            refine wpAnyH_done (by kernel_rfl) ?_ _
            refine ⟨(wh3).heap.size, .agg #[.int .i64 a0, .slice o1 a1.length k1], .agg #[.int .i64 a0, .slice px1 a1.length cx1], .int .i64 n1, .slice o2 d2.length k2, .slice px2 d2.length cx2, .agg #[.slice o300 a300.length k300, .slice o301 a301.length k301], .agg #[.slice px300 a300.length cx300, .slice px301 a301.length cx301], .agg #[.int .i64 a900, .slice ph901 a901.length ch901, .slice ph902 a902.length ch902, .int .i64 a903], _, _, _, _, ?_, HBD.out, hg, Blk.new _ _ _, changesOutE.wide (changesOutE.frame QRp.out (Same.of_below' (more' (Below.refl _ _) _))) (fun k hk => ⟨by have := hk.1; omega, by have h1 := hk.2; simp only [World.size_alloc]; omega⟩)⟩
            first | rfl | (simp only [Act.put, List.setIfInBounds_toArray, List.set_cons_zero, List.set_cons_succ]; done) | (simp only [Act.put, List.setIfInBounds_toArray, List.set_cons_zero, List.set_cons_succ]; rfl)
          · go_simp
            have hb : Below (wh2).heap.size (wh2) ((wh2).alloc (.cells #[.int .i64 0, .slice none 0 0, .slice none 0 0, .int .i64 0] 40)) := more' (Below.refl _ _) _
            have hg : W22.heap.size ≤ (wh2).heap.size := HBD.out.size
            have HBD := Lib.hid (HBD.out.trans (hb.mono HBD.out.size))
            have P := Lib.hid (changesE.frame QX0.out (Same.of_below' hb)); clear QX0; have QX0 := P; clear P
            have P := Lib.hid (QX2.out.frame (Same.of_below' hb)); clear QX2; have QX2 := P; clear P
            have P := Lib.hid (entryE.frame QX3.out (Same.of_below' hb)); clear QX3; have QX3 := P; clear P
            have HA : Hid (Blk ((wh2).alloc (.cells #[.int .i64 0, .slice none 0 0, .slice none 0 0, .int .i64 0] 40)) (wh2).heap.size [.int .i64 0, .slice none 0 0, .slice none 0 0, .int .i64 0]) := Lib.hid (Blk.new _ _ _)
            clear hb
            clear hHeld
            refine hK.out _ _ ?_ (fun hHeld => ?_)
            · (try dsimp only)
              exact SK.out _ HBD.out
            clear hK K
            (try simp only [Act.put, List.setIfInBounds_toArray, List.set_cons_zero, List.set_cons_succ])
            refine wpAnyH_ready (rs := [7]) (by kernel_rfl) (by simp) ?_
            refine AllReadyH.cons (o := { dst := some 107, op := Op.call { callee := Callee.value (Operand.func 17), args := #[Operand.tmp 101, Operand.tmp 102, Operand.tmp 104, Operand.tmp 106], argTypes := #[29, 2, 42, 46] }, type := 40, pos := "exact.go:4602", after := #[{ on := 1, ground := Ground.data }, { on := 2, ground := Ground.data }, { on := 4, ground := Ground.data }, { on := 6, ground := Ground.data }, { on := 6, ground := Ground.chain }], guard := none }) rfl (fun K hK => ?_) (AllReadyH.nil)
            go_simp
            have hpl : W22.heap.size ≤ (((wh2).alloc (.cells #[.int .i64 0, .slice none 0 0, .slice none 0 0, .int .i64 0] 40))).heap.size := HBD.out.size
            have hgl := HA.out.lt
            refine (HI.out _ _ _ _ _ _ _ _ _ (changes_atp QX0.out) QX2.out (entry_atp QX3.out).1 (entry_atp QX3.out).2).mono ?_
            rintro e wh3 ⟨⟨u901, u902, rfl, q⟩, hb⟩
            have HBD := Lib.hid (HBD.out.trans (hb.mono HBD.out.size))
            have P := Lib.hid (HA.out.below hb); clear HA; have HA := P; clear P
            have QR := Lib.hid (changesOutE.ownAt q); clear q hb
            have Z := changesOut_atp QR.out
            obtain ⟨ph901, ch901, rfl⟩ := Z.1.sl
            obtain ⟨ph902, ch902, rfl⟩ := Z.2.sl
            clear Z
            have ng : ¬ Fresh (((wh2).alloc (.cells #[.int .i64 0, .slice none 0 0, .slice none 0 0, .int .i64 0] 40))) wh3 ((wh2).heap.size) := by intro h; have := h.1; omega
            clear hHeld
            refine hK.out _ _ ?_ (fun hHeld => ?_)
            · (try dsimp only)
              exact SK.out _ HBD.out
            clear hK K
            (try simp only [Act.put, List.setIfInBounds_toArray, List.set_cons_zero, List.set_cons_succ])
            refine wpAnyH_ready (rs := [9]) (by kernel_rfl) (by simp) ?_
            refine AllReadyH.cons (o := { dst := none, op := Op.store 40 (Operand.tmp 18) (Operand.tmp 107), type := 0, pos := "exact.go:4602", after := #[{ on := 8, ground := Ground.data }, { on := 7, ground := Ground.data }, { on := 7, ground := Ground.chain }, { on := 0, ground := Ground.phase }, { on := 1, ground := Ground.phase }, { on := 2, ground := Ground.phase }, { on := 3, ground := Ground.phase }, { on := 4, ground := Ground.phase }, { on := 5, ground := Ground.phase }, { on := 6, ground := Ground.phase }, { on := 7, ground := Ground.phase }, { on := 8, ground := Ground.phase }], guard := none }) rfl (fun K hK => ?_) (AllReadyH.nil)
            have bx0 := HA.out.cell 0 rfl
            have bx1 := HA.out.cell 1 rfl
            have bx2 := HA.out.cell 2 rfl
            have bx3 := HA.out.cell 3 rfl
            have bf0 := HA.out.soft 0
            have bf1 := HA.out.soft 1
            have bf2 := HA.out.soft 2
            have bf3 := HA.out.soft 3
            go_simp
            clear bx0 bf0 bx1 bf1 bx2 bf2 bx3 bf3
            have HBD0 := HBD
            have HBD : Hid (Below W22.heap.size W22 (((((wh3).setCell ⟨(wh2).heap.size, 0, none⟩ (.int .i64 a900)).setCell ⟨(wh2).heap.size, 1, none⟩ (.slice ph901 a901.length ch901)).setCell ⟨(wh2).heap.size, 2, none⟩ (.slice ph902 a902.length ch902)).setCell ⟨(wh2).heap.size, 3, none⟩ (.int .i64 a903))) := Lib.hid ((((HBD.out.setCell (p := ⟨(wh2).heap.size, 0, none⟩) hg (.int .i64 a900)).setCell (p := ⟨(wh2).heap.size, 1, none⟩) hg (.slice ph901 a901.length ch901)).setCell (p := ⟨(wh2).heap.size, 2, none⟩) hg (.slice ph902 a902.length ch902)).setCell (p := ⟨(wh2).heap.size, 3, none⟩) hg (.int .i64 a903))
            clear hHeld
            refine hK.out _ _ ?_ (fun hHeld => ?_)
            · (try dsimp only)
              exact SK.out _ HBD.out
            clear hK K
            (try simp only [Act.put, List.setIfInBounds_toArray, List.set_cons_zero, List.set_cons_succ])
            refine wpAnyH_done (by kernel_rfl) ?_ _
            refine ⟨(wh2).heap.size, .agg #[.int .i64 a0, .slice o1 a1.length k1], .agg #[.int .i64 a0, .slice px1 a1.length cx1], .int .i64 n1, .slice o2 d2.length k2, .slice px2 d2.length cx2, .agg #[.slice o300 a300.length k300, .slice o301 a301.length k301], .agg #[.slice px300 a300.length cx300, .slice px301 a301.length cx301], .agg #[.int .i64 a900, .slice ph901 a901.length ch901, .slice ph902 a902.length ch902, .int .i64 a903], _, _, _, _, ?_, HBD.out, hg, ((((HA.out.set 0 (.int .i64 a900)).set 1 (.slice ph901 a901.length ch901)).set 2 (.slice ph902 a902.length ch902)).set 3 (.int .i64 a903)), changesOutE.wide (changesOutE.frame (changesOutE.frame (changesOutE.frame (changesOutE.frame QR.out (Same.set _ (g := (wh2).heap.size) 0 _ ng)) (Same.set _ (g := (wh2).heap.size) 1 _ ng)) (Same.set _ (g := (wh2).heap.size) 2 _ ng)) (Same.set _ (g := (wh2).heap.size) 3 _ ng)) (fun k hk => ⟨by have := hk.1; omega, by have h1 := hk.2; simp only [setCell_size, World.size_alloc]; omega⟩)⟩
            first | rfl | (simp only [Act.put, List.setIfInBounds_toArray, List.set_cons_zero, List.set_cons_succ]; done) | (simp only [Act.put, List.setIfInBounds_toArray, List.set_cons_zero, List.set_cons_succ]; rfl)
        · go_simp
          have hb : Below (wh1).heap.size (wh1) ((wh1).alloc (.cells #[.int .i64 0, .slice none 0 0, .slice none 0 0, .int .i64 0] 40)) := more' (Below.refl _ _) _
          have hg : W22.heap.size ≤ (wh1).heap.size := HBD.out.size
          have HBD := Lib.hid (HBD.out.trans (hb.mono HBD.out.size))
          have P := Lib.hid (changesE.frame QX0.out (Same.of_below' hb)); clear QX0; have QX0 := P; clear P
          have P := Lib.hid (QX2.out.frame (Same.of_below' hb)); clear QX2; have QX2 := P; clear P
          have HA : Hid (Blk ((wh1).alloc (.cells #[.int .i64 0, .slice none 0 0, .slice none 0 0, .int .i64 0] 40)) (wh1).heap.size [.int .i64 0, .slice none 0 0, .slice none 0 0, .int .i64 0]) := Lib.hid (Blk.new _ _ _)
          clear hb
          clear hHeld
          refine hK.out _ _ ?_ (fun hHeld => ?_)
          · (try dsimp only)
            exact SK.out _ HBD.out
          clear hK K
          (try simp only [Act.put, List.setIfInBounds_toArray, List.set_cons_zero, List.set_cons_succ])
          refine wpAnyH_ready (rs := [6]) (by kernel_rfl) (by simp) ?_
          refine AllReadyH.cons (o := { dst := some 106, op := Op.call { callee := Callee.value (Operand.func 16), args := #[Operand.tmp 105], argTypes := #[36] }, type := 46, pos := "exact.go:4602", after := #[{ on := 5, ground := Ground.data }, { on := 4, ground := Ground.chain }], guard := none }) rfl (fun K hK => ?_) (AllReadyH.nil)
          go_simp
          refine (HT3.out _ (B.out.trans (HBD.out.mono B.out.size))).mono ?_
          rintro e wh2 ⟨x300, x301, rfl, q, hb⟩
          have HBD := Lib.hid (HBD.out.trans (hb.mono HBD.out.size))
          have P := Lib.hid (changesE.frame QX0.out (Same.of_below' hb)); clear QX0; have QX0 := P; clear P
          have P := Lib.hid (QX2.out.frame (Same.of_below' hb)); clear QX2; have QX2 := P; clear P
          have P := Lib.hid (HA.out.below hb); clear HA; have HA := P; clear P
          have QX3 := Lib.hid (entryE.ownAt q); clear q hb
          have Z := entry_atp QX3.out
          obtain ⟨px300, cx300, rfl⟩ := Z.1.sl
          obtain ⟨px301, cx301, rfl⟩ := Z.2.sl
          clear Z
          clear hHeld
          refine hK.out _ _ ?_ (fun hHeld => ?_)
          · (try dsimp only)
            exact SK.out _ HBD.out
          clear hK K
          (try simp only [Act.put, List.setIfInBounds_toArray, List.set_cons_zero, List.set_cons_succ])
          refine wpAnyH_ready (rs := [7]) (by kernel_rfl) (by simp) ?_
          refine AllReadyH.cons (o := { dst := some 107, op := Op.call { callee := Callee.value (Operand.func 17), args := #[Operand.tmp 101, Operand.tmp 102, Operand.tmp 104, Operand.tmp 106], argTypes := #[29, 2, 42, 46] }, type := 40, pos := "exact.go:4602", after := #[{ on := 1, ground := Ground.data }, { on := 2, ground := Ground.data }, { on := 4, ground := Ground.data }, { on := 6, ground := Ground.data }, { on := 6, ground := Ground.chain }], guard := none }) rfl (fun K hK => ?_) (AllReadyH.nil)
          go_simp
          have hpl : W22.heap.size ≤ (wh2).heap.size := HBD.out.size
          have hgl := HA.out.lt
          refine (HI.out _ _ _ _ _ _ _ _ _ (changes_atp QX0.out) QX2.out (entry_atp QX3.out).1 (entry_atp QX3.out).2).mono ?_
          rintro e wh3 ⟨⟨u901, u902, rfl, q⟩, hb⟩
          have HBD := Lib.hid (HBD.out.trans (hb.mono HBD.out.size))
          have P := Lib.hid (HA.out.below hb); clear HA; have HA := P; clear P
          have QR := Lib.hid (changesOutE.ownAt q); clear q hb
          have Z := changesOut_atp QR.out
          obtain ⟨ph901, ch901, rfl⟩ := Z.1.sl
          obtain ⟨ph902, ch902, rfl⟩ := Z.2.sl
          clear Z
          have ng : ¬ Fresh (wh2) wh3 ((wh1).heap.size) := by intro h; have := h.1; omega
          clear hHeld
          refine hK.out _ _ ?_ (fun hHeld => ?_)
          · (try dsimp only)
            exact SK.out _ HBD.out
          clear hK K
          (try simp only [Act.put, List.setIfInBounds_toArray, List.set_cons_zero, List.set_cons_succ])
          refine wpAnyH_ready (rs := [9]) (by kernel_rfl) (by simp) ?_
          refine AllReadyH.cons (o := { dst := none, op := Op.store 40 (Operand.tmp 18) (Operand.tmp 107), type := 0, pos := "exact.go:4602", after := #[{ on := 8, ground := Ground.data }, { on := 7, ground := Ground.data }, { on := 7, ground := Ground.chain }, { on := 0, ground := Ground.phase }, { on := 1, ground := Ground.phase }, { on := 2, ground := Ground.phase }, { on := 3, ground := Ground.phase }, { on := 4, ground := Ground.phase }, { on := 5, ground := Ground.phase }, { on := 6, ground := Ground.phase }, { on := 7, ground := Ground.phase }, { on := 8, ground := Ground.phase }], guard := none }) rfl (fun K hK => ?_) (AllReadyH.nil)
          have bx0 := HA.out.cell 0 rfl
          have bx1 := HA.out.cell 1 rfl
          have bx2 := HA.out.cell 2 rfl
          have bx3 := HA.out.cell 3 rfl
          have bf0 := HA.out.soft 0
          have bf1 := HA.out.soft 1
          have bf2 := HA.out.soft 2
          have bf3 := HA.out.soft 3
          go_simp
          clear bx0 bf0 bx1 bf1 bx2 bf2 bx3 bf3
          have HBD0 := HBD
          have HBD : Hid (Below W22.heap.size W22 (((((wh3).setCell ⟨(wh1).heap.size, 0, none⟩ (.int .i64 a900)).setCell ⟨(wh1).heap.size, 1, none⟩ (.slice ph901 a901.length ch901)).setCell ⟨(wh1).heap.size, 2, none⟩ (.slice ph902 a902.length ch902)).setCell ⟨(wh1).heap.size, 3, none⟩ (.int .i64 a903))) := Lib.hid ((((HBD.out.setCell (p := ⟨(wh1).heap.size, 0, none⟩) hg (.int .i64 a900)).setCell (p := ⟨(wh1).heap.size, 1, none⟩) hg (.slice ph901 a901.length ch901)).setCell (p := ⟨(wh1).heap.size, 2, none⟩) hg (.slice ph902 a902.length ch902)).setCell (p := ⟨(wh1).heap.size, 3, none⟩) hg (.int .i64 a903))
          clear hHeld
          refine hK.out _ _ ?_ (fun hHeld => ?_)
          · (try dsimp only)
            exact SK.out _ HBD.out
          clear hK K
          (try simp only [Act.put, List.setIfInBounds_toArray, List.set_cons_zero, List.set_cons_succ])
          refine wpAnyH_done (by kernel_rfl) ?_ _
          refine ⟨(wh1).heap.size, .agg #[.int .i64 a0, .slice o1 a1.length k1], .agg #[.int .i64 a0, .slice px1 a1.length cx1], .int .i64 n1, .slice o2 d2.length k2, .slice px2 d2.length cx2, .agg #[.slice o300 a300.length k300, .slice o301 a301.length k301], .agg #[.slice px300 a300.length cx300, .slice px301 a301.length cx301], .agg #[.int .i64 a900, .slice ph901 a901.length ch901, .slice ph902 a902.length ch902, .int .i64 a903], _, _, _, _, ?_, HBD.out, hg, ((((HA.out.set 0 (.int .i64 a900)).set 1 (.slice ph901 a901.length ch901)).set 2 (.slice ph902 a902.length ch902)).set 3 (.int .i64 a903)), changesOutE.wide (changesOutE.frame (changesOutE.frame (changesOutE.frame (changesOutE.frame QR.out (Same.set _ (g := (wh1).heap.size) 0 _ ng)) (Same.set _ (g := (wh1).heap.size) 1 _ ng)) (Same.set _ (g := (wh1).heap.size) 2 _ ng)) (Same.set _ (g := (wh1).heap.size) 3 _ ng)) (fun k hk => ⟨by have := hk.1; omega, by have h1 := hk.2; simp only [setCell_size, World.size_alloc]; omega⟩)⟩
          first | rfl | (simp only [Act.put, List.setIfInBounds_toArray, List.set_cons_zero, List.set_cons_succ]; done) | (simp only [Act.put, List.setIfInBounds_toArray, List.set_cons_zero, List.set_cons_succ]; rfl)
      · go_simp
        have hb : Below (wh0).heap.size (wh0) ((wh0).alloc (.cells #[.int .i64 0, .slice none 0 0, .slice none 0 0, .int .i64 0] 40)) := more' (Below.refl _ _) _
        have hg : W22.heap.size ≤ (wh0).heap.size := HBD.out.size
        have HBD := Lib.hid (HBD.out.trans (hb.mono HBD.out.size))
        have P := Lib.hid (changesE.frame QX0.out (Same.of_below' hb)); clear QX0; have QX0 := P; clear P
        have HA : Hid (Blk ((wh0).alloc (.cells #[.int .i64 0, .slice none 0 0, .slice none 0 0, .int .i64 0] 40)) (wh0).heap.size [.int .i64 0, .slice none 0 0, .slice none 0 0, .int .i64 0]) := Lib.hid (Blk.new _ _ _)
        clear hb
        clear hHeld
        refine hK.out _ _ ?_ (fun hHeld => ?_)
        · (try dsimp only)
          exact SK.out _ HBD.out
        clear hK K
        (try simp only [Act.put, List.setIfInBounds_toArray, List.set_cons_zero, List.set_cons_succ])
        refine wpAnyH_ready (rs := [4]) (by kernel_rfl) (by simp) ?_
        refine AllReadyH.cons (o := { dst := some 104, op := Op.call { callee := Callee.value (Operand.func 15), args := #[Operand.tmp 103], argTypes := #[33] }, type := 42, pos := "exact.go:4602", after := #[{ on := 3, ground := Ground.data }, { on := 1, ground := Ground.chain }], guard := none }) rfl (fun K hK => ?_) (AllReadyH.nil)
        go_simp
        refine (HT2.out _ (B.out.trans (HBD.out.mono B.out.size))).mono ?_
        rintro e wh1 ⟨x2, rfl, q, hb⟩
        have HBD := Lib.hid (HBD.out.trans (hb.mono HBD.out.size))
        have P := Lib.hid (changesE.frame QX0.out (Same.of_below' hb)); clear QX0; have QX0 := P; clear P
        have P := Lib.hid (HA.out.below hb); clear HA; have HA := P; clear P
        have QX2 := Lib.hid q.at; clear q hb
        obtain ⟨px2, cx2, rfl⟩ := QX2.out.sl
        clear hHeld
        refine hK.out _ _ ?_ (fun hHeld => ?_)
        · (try dsimp only)
          exact SK.out _ HBD.out
        clear hK K
        (try simp only [Act.put, List.setIfInBounds_toArray, List.set_cons_zero, List.set_cons_succ])
        refine wpAnyH_ready (rs := [6]) (by kernel_rfl) (by simp) ?_
        refine AllReadyH.cons (o := { dst := some 106, op := Op.call { callee := Callee.value (Operand.func 16), args := #[Operand.tmp 105], argTypes := #[36] }, type := 46, pos := "exact.go:4602", after := #[{ on := 5, ground := Ground.data }, { on := 4, ground := Ground.chain }], guard := none }) rfl (fun K hK => ?_) (AllReadyH.nil)
        go_simp
        refine (HT3.out _ (B.out.trans (HBD.out.mono B.out.size))).mono ?_
        rintro e wh2 ⟨x300, x301, rfl, q, hb⟩
        have HBD := Lib.hid (HBD.out.trans (hb.mono HBD.out.size))
        have P := Lib.hid (changesE.frame QX0.out (Same.of_below' hb)); clear QX0; have QX0 := P; clear P
        have P := Lib.hid (HA.out.below hb); clear HA; have HA := P; clear P
        have P := Lib.hid (QX2.out.frame (Same.of_below' hb)); clear QX2; have QX2 := P; clear P
        have QX3 := Lib.hid (entryE.ownAt q); clear q hb
        have Z := entry_atp QX3.out
        obtain ⟨px300, cx300, rfl⟩ := Z.1.sl
        obtain ⟨px301, cx301, rfl⟩ := Z.2.sl
        clear Z
        clear hHeld
        refine hK.out _ _ ?_ (fun hHeld => ?_)
        · (try dsimp only)
          exact SK.out _ HBD.out
        clear hK K
        (try simp only [Act.put, List.setIfInBounds_toArray, List.set_cons_zero, List.set_cons_succ])
        refine wpAnyH_ready (rs := [7]) (by kernel_rfl) (by simp) ?_
        refine AllReadyH.cons (o := { dst := some 107, op := Op.call { callee := Callee.value (Operand.func 17), args := #[Operand.tmp 101, Operand.tmp 102, Operand.tmp 104, Operand.tmp 106], argTypes := #[29, 2, 42, 46] }, type := 40, pos := "exact.go:4602", after := #[{ on := 1, ground := Ground.data }, { on := 2, ground := Ground.data }, { on := 4, ground := Ground.data }, { on := 6, ground := Ground.data }, { on := 6, ground := Ground.chain }], guard := none }) rfl (fun K hK => ?_) (AllReadyH.nil)
        go_simp
        have hpl : W22.heap.size ≤ (wh2).heap.size := HBD.out.size
        have hgl := HA.out.lt
        refine (HI.out _ _ _ _ _ _ _ _ _ (changes_atp QX0.out) QX2.out (entry_atp QX3.out).1 (entry_atp QX3.out).2).mono ?_
        rintro e wh3 ⟨⟨u901, u902, rfl, q⟩, hb⟩
        have HBD := Lib.hid (HBD.out.trans (hb.mono HBD.out.size))
        have P := Lib.hid (HA.out.below hb); clear HA; have HA := P; clear P
        have QR := Lib.hid (changesOutE.ownAt q); clear q hb
        have Z := changesOut_atp QR.out
        obtain ⟨ph901, ch901, rfl⟩ := Z.1.sl
        obtain ⟨ph902, ch902, rfl⟩ := Z.2.sl
        clear Z
        have ng : ¬ Fresh (wh2) wh3 ((wh0).heap.size) := by intro h; have := h.1; omega
        clear hHeld
        refine hK.out _ _ ?_ (fun hHeld => ?_)
        · (try dsimp only)
          exact SK.out _ HBD.out
        clear hK K
        (try simp only [Act.put, List.setIfInBounds_toArray, List.set_cons_zero, List.set_cons_succ])
        refine wpAnyH_ready (rs := [9]) (by kernel_rfl) (by simp) ?_
        refine AllReadyH.cons (o := { dst := none, op := Op.store 40 (Operand.tmp 18) (Operand.tmp 107), type := 0, pos := "exact.go:4602", after := #[{ on := 8, ground := Ground.data }, { on := 7, ground := Ground.data }, { on := 7, ground := Ground.chain }, { on := 0, ground := Ground.phase }, { on := 1, ground := Ground.phase }, { on := 2, ground := Ground.phase }, { on := 3, ground := Ground.phase }, { on := 4, ground := Ground.phase }, { on := 5, ground := Ground.phase }, { on := 6, ground := Ground.phase }, { on := 7, ground := Ground.phase }, { on := 8, ground := Ground.phase }], guard := none }) rfl (fun K hK => ?_) (AllReadyH.nil)
        have bx0 := HA.out.cell 0 rfl
        have bx1 := HA.out.cell 1 rfl
        have bx2 := HA.out.cell 2 rfl
        have bx3 := HA.out.cell 3 rfl
        have bf0 := HA.out.soft 0
        have bf1 := HA.out.soft 1
        have bf2 := HA.out.soft 2
        have bf3 := HA.out.soft 3
        go_simp
        clear bx0 bf0 bx1 bf1 bx2 bf2 bx3 bf3
        have HBD0 := HBD
        have HBD : Hid (Below W22.heap.size W22 (((((wh3).setCell ⟨(wh0).heap.size, 0, none⟩ (.int .i64 a900)).setCell ⟨(wh0).heap.size, 1, none⟩ (.slice ph901 a901.length ch901)).setCell ⟨(wh0).heap.size, 2, none⟩ (.slice ph902 a902.length ch902)).setCell ⟨(wh0).heap.size, 3, none⟩ (.int .i64 a903))) := Lib.hid ((((HBD.out.setCell (p := ⟨(wh0).heap.size, 0, none⟩) hg (.int .i64 a900)).setCell (p := ⟨(wh0).heap.size, 1, none⟩) hg (.slice ph901 a901.length ch901)).setCell (p := ⟨(wh0).heap.size, 2, none⟩) hg (.slice ph902 a902.length ch902)).setCell (p := ⟨(wh0).heap.size, 3, none⟩) hg (.int .i64 a903))
        clear hHeld
        refine hK.out _ _ ?_ (fun hHeld => ?_)
        · (try dsimp only)
          exact SK.out _ HBD.out
        clear hK K
        (try simp only [Act.put, List.setIfInBounds_toArray, List.set_cons_zero, List.set_cons_succ])
        refine wpAnyH_done (by kernel_rfl) ?_ _
        refine ⟨(wh0).heap.size, .agg #[.int .i64 a0, .slice o1 a1.length k1], .agg #[.int .i64 a0, .slice px1 a1.length cx1], .int .i64 n1, .slice o2 d2.length k2, .slice px2 d2.length cx2, .agg #[.slice o300 a300.length k300, .slice o301 a301.length k301], .agg #[.slice px300 a300.length cx300, .slice px301 a301.length cx301], .agg #[.int .i64 a900, .slice ph901 a901.length ch901, .slice ph902 a902.length ch902, .int .i64 a903], _, _, _, _, ?_, HBD.out, hg, ((((HA.out.set 0 (.int .i64 a900)).set 1 (.slice ph901 a901.length ch901)).set 2 (.slice ph902 a902.length ch902)).set 3 (.int .i64 a903)), changesOutE.wide (changesOutE.frame (changesOutE.frame (changesOutE.frame (changesOutE.frame QR.out (Same.set _ (g := (wh0).heap.size) 0 _ ng)) (Same.set _ (g := (wh0).heap.size) 1 _ ng)) (Same.set _ (g := (wh0).heap.size) 2 _ ng)) (Same.set _ (g := (wh0).heap.size) 3 _ ng)) (fun k hk => ⟨by have := hk.1; omega, by have h1 := hk.2; simp only [setCell_size, World.size_alloc]; omega⟩)⟩
        first | rfl | (simp only [Act.put, List.setIfInBounds_toArray, List.set_cons_zero, List.set_cons_succ]; done) | (simp only [Act.put, List.setIfInBounds_toArray, List.set_cons_zero, List.set_cons_succ]; rfl)
    · go_simp
      have hb : Below (W22.drew).heap.size (W22.drew) ((W22.drew).alloc (.cells #[.int .i64 0, .slice none 0 0, .slice none 0 0, .int .i64 0] 40)) := more' (Below.refl _ _) _
      have hg : W22.heap.size ≤ W22.heap.size := HBD.out.size
      have HBD := Lib.hid (HBD.out.trans (hb.mono HBD.out.size))
      have HA : Hid (Blk ((W22.drew).alloc (.cells #[.int .i64 0, .slice none 0 0, .slice none 0 0, .int .i64 0] 40)) W22.heap.size [.int .i64 0, .slice none 0 0, .slice none 0 0, .int .i64 0]) := Lib.hid (Blk.new _ _ _)
      clear hb
      clear hHeld
      refine hK.out _ _ ?_ (fun hHeld => ?_)
      · (try dsimp only)
        exact SK.out _ HBD.out
      clear hK K
      (try simp only [Act.put, List.setIfInBounds_toArray, List.set_cons_zero, List.set_cons_succ])
      refine wpAnyH_ready (rs := [1]) (by kernel_rfl) (by simp) ?_
      refine AllReadyH.cons (o := { dst := some 101, op := Op.call { callee := Callee.value (Operand.func 9), args := #[Operand.tmp 100], argTypes := #[24] }, type := 29, pos := "exact.go:4602", after := #[{ on := 0, ground := Ground.data }], guard := none }) rfl (fun K hK => ?_) (AllReadyH.nil)
      go_simp
      refine (HT0.out _ (B.out.trans (HBD.out.mono B.out.size))).mono ?_
      rintro e wh0 ⟨x1, rfl, q, hb⟩
      have HBD := Lib.hid (HBD.out.trans (hb.mono HBD.out.size))
      have P := Lib.hid (HA.out.below hb); clear HA; have HA := P; clear P
      have QX0 := Lib.hid (changesE.ownAt q); clear q hb
      have Z := changes_atp QX0.out
      obtain ⟨px1, cx1, rfl⟩ := Z.sl
      clear Z
      clear hHeld
      refine hK.out _ _ ?_ (fun hHeld => ?_)
      · (try dsimp only)
        exact SK.out _ HBD.out
      clear hK K
      (try simp only [Act.put, List.setIfInBounds_toArray, List.set_cons_zero, List.set_cons_succ])
      refine wpAnyH_ready (rs := [4]) (by kernel_rfl) (by simp) ?_
      refine AllReadyH.cons (o := { dst := some 104, op := Op.call { callee := Callee.value (Operand.func 15), args := #[Operand.tmp 103], argTypes := #[33] }, type := 42, pos := "exact.go:4602", after := #[{ on := 3, ground := Ground.data }, { on := 1, ground := Ground.chain }], guard := none }) rfl (fun K hK => ?_) (AllReadyH.nil)
      go_simp
      refine (HT2.out _ (B.out.trans (HBD.out.mono B.out.size))).mono ?_
      rintro e wh1 ⟨x2, rfl, q, hb⟩
      have HBD := Lib.hid (HBD.out.trans (hb.mono HBD.out.size))
      have P := Lib.hid (HA.out.below hb); clear HA; have HA := P; clear P
      have P := Lib.hid (changesE.frame QX0.out (Same.of_below' hb)); clear QX0; have QX0 := P; clear P
      have QX2 := Lib.hid q.at; clear q hb
      obtain ⟨px2, cx2, rfl⟩ := QX2.out.sl
      clear hHeld
      refine hK.out _ _ ?_ (fun hHeld => ?_)
      · (try dsimp only)
        exact SK.out _ HBD.out
      clear hK K
      (try simp only [Act.put, List.setIfInBounds_toArray, List.set_cons_zero, List.set_cons_succ])
      refine wpAnyH_ready (rs := [6]) (by kernel_rfl) (by simp) ?_
      refine AllReadyH.cons (o := { dst := some 106, op := Op.call { callee := Callee.value (Operand.func 16), args := #[Operand.tmp 105], argTypes := #[36] }, type := 46, pos := "exact.go:4602", after := #[{ on := 5, ground := Ground.data }, { on := 4, ground := Ground.chain }], guard := none }) rfl (fun K hK => ?_) (AllReadyH.nil)
      go_simp
      refine (HT3.out _ (B.out.trans (HBD.out.mono B.out.size))).mono ?_
      rintro e wh2 ⟨x300, x301, rfl, q, hb⟩
      have HBD := Lib.hid (HBD.out.trans (hb.mono HBD.out.size))
      have P := Lib.hid (HA.out.below hb); clear HA; have HA := P; clear P
      have P := Lib.hid (changesE.frame QX0.out (Same.of_below' hb)); clear QX0; have QX0 := P; clear P
      have P := Lib.hid (QX2.out.frame (Same.of_below' hb)); clear QX2; have QX2 := P; clear P
      have QX3 := Lib.hid (entryE.ownAt q); clear q hb
      have Z := entry_atp QX3.out
      obtain ⟨px300, cx300, rfl⟩ := Z.1.sl
      obtain ⟨px301, cx301, rfl⟩ := Z.2.sl
      clear Z
      clear hHeld
      refine hK.out _ _ ?_ (fun hHeld => ?_)
      · (try dsimp only)
        exact SK.out _ HBD.out
      clear hK K
      (try simp only [Act.put, List.setIfInBounds_toArray, List.set_cons_zero, List.set_cons_succ])
      refine wpAnyH_ready (rs := [7]) (by kernel_rfl) (by simp) ?_
      refine AllReadyH.cons (o := { dst := some 107, op := Op.call { callee := Callee.value (Operand.func 17), args := #[Operand.tmp 101, Operand.tmp 102, Operand.tmp 104, Operand.tmp 106], argTypes := #[29, 2, 42, 46] }, type := 40, pos := "exact.go:4602", after := #[{ on := 1, ground := Ground.data }, { on := 2, ground := Ground.data }, { on := 4, ground := Ground.data }, { on := 6, ground := Ground.data }, { on := 6, ground := Ground.chain }], guard := none }) rfl (fun K hK => ?_) (AllReadyH.nil)
      go_simp
      have hpl : W22.heap.size ≤ (wh2).heap.size := HBD.out.size
      have hgl := HA.out.lt
      refine (HI.out _ _ _ _ _ _ _ _ _ (changes_atp QX0.out) QX2.out (entry_atp QX3.out).1 (entry_atp QX3.out).2).mono ?_
      rintro e wh3 ⟨⟨u901, u902, rfl, q⟩, hb⟩
      have HBD := Lib.hid (HBD.out.trans (hb.mono HBD.out.size))
      have P := Lib.hid (HA.out.below hb); clear HA; have HA := P; clear P
      have QR := Lib.hid (changesOutE.ownAt q); clear q hb
      have Z := changesOut_atp QR.out
      obtain ⟨ph901, ch901, rfl⟩ := Z.1.sl
      obtain ⟨ph902, ch902, rfl⟩ := Z.2.sl
      clear Z
      have ng : ¬ Fresh (wh2) wh3 (W22.heap.size) := by intro h; have := h.1; omega
      clear hHeld
      refine hK.out _ _ ?_ (fun hHeld => ?_)
      · (try dsimp only)
        exact SK.out _ HBD.out
      clear hK K
      (try simp only [Act.put, List.setIfInBounds_toArray, List.set_cons_zero, List.set_cons_succ])
      refine wpAnyH_ready (rs := [9]) (by kernel_rfl) (by simp) ?_
      refine AllReadyH.cons (o := { dst := none, op := Op.store 40 (Operand.tmp 18) (Operand.tmp 107), type := 0, pos := "exact.go:4602", after := #[{ on := 8, ground := Ground.data }, { on := 7, ground := Ground.data }, { on := 7, ground := Ground.chain }, { on := 0, ground := Ground.phase }, { on := 1, ground := Ground.phase }, { on := 2, ground := Ground.phase }, { on := 3, ground := Ground.phase }, { on := 4, ground := Ground.phase }, { on := 5, ground := Ground.phase }, { on := 6, ground := Ground.phase }, { on := 7, ground := Ground.phase }, { on := 8, ground := Ground.phase }], guard := none }) rfl (fun K hK => ?_) (AllReadyH.nil)
      have bx0 := HA.out.cell 0 rfl
      have bx1 := HA.out.cell 1 rfl
      have bx2 := HA.out.cell 2 rfl
      have bx3 := HA.out.cell 3 rfl
      have bf0 := HA.out.soft 0
      have bf1 := HA.out.soft 1
      have bf2 := HA.out.soft 2
      have bf3 := HA.out.soft 3
      go_simp
      clear bx0 bf0 bx1 bf1 bx2 bf2 bx3 bf3
      have HBD0 := HBD
      have HBD : Hid (Below W22.heap.size W22 (((((wh3).setCell ⟨W22.heap.size, 0, none⟩ (.int .i64 a900)).setCell ⟨W22.heap.size, 1, none⟩ (.slice ph901 a901.length ch901)).setCell ⟨W22.heap.size, 2, none⟩ (.slice ph902 a902.length ch902)).setCell ⟨W22.heap.size, 3, none⟩ (.int .i64 a903))) := Lib.hid ((((HBD.out.setCell (p := ⟨W22.heap.size, 0, none⟩) hg (.int .i64 a900)).setCell (p := ⟨W22.heap.size, 1, none⟩) hg (.slice ph901 a901.length ch901)).setCell (p := ⟨W22.heap.size, 2, none⟩) hg (.slice ph902 a902.length ch902)).setCell (p := ⟨W22.heap.size, 3, none⟩) hg (.int .i64 a903))
      clear hHeld
      refine hK.out _ _ ?_ (fun hHeld => ?_)
      · (try dsimp only)
        exact SK.out _ HBD.out
      clear hK K
      (try simp only [Act.put, List.setIfInBounds_toArray, List.set_cons_zero, List.set_cons_succ])
      refine wpAnyH_done (by kernel_rfl) ?_ _
      refine ⟨W22.heap.size, .agg #[.int .i64 a0, .slice o1 a1.length k1], .agg #[.int .i64 a0, .slice px1 a1.length cx1], .int .i64 n1, .slice o2 d2.length k2, .slice px2 d2.length cx2, .agg #[.slice o300 a300.length k300, .slice o301 a301.length k301], .agg #[.slice px300 a300.length cx300, .slice px301 a301.length cx301], .agg #[.int .i64 a900, .slice ph901 a901.length ch901, .slice ph902 a902.length ch902, .int .i64 a903], _, _, _, _, ?_, HBD.out, hg, ((((HA.out.set 0 (.int .i64 a900)).set 1 (.slice ph901 a901.length ch901)).set 2 (.slice ph902 a902.length ch902)).set 3 (.int .i64 a903)), changesOutE.wide (changesOutE.frame (changesOutE.frame (changesOutE.frame (changesOutE.frame QR.out (Same.set _ (g := W22.heap.size) 0 _ ng)) (Same.set _ (g := W22.heap.size) 1 _ ng)) (Same.set _ (g := W22.heap.size) 2 _ ng)) (Same.set _ (g := W22.heap.size) 3 _ ng)) (fun k hk => ⟨by have := hk.1; omega, by have h1 := hk.2; simp only [setCell_size, World.size_alloc]; omega⟩)⟩
      first | rfl | (simp only [Act.put, List.setIfInBounds_toArray, List.set_cons_zero, List.set_cons_succ]; done) | (simp only [Act.put, List.setIfInBounds_toArray, List.set_cons_zero, List.set_cons_succ]; rfl)
  clear SK
  rintro a2 W23 ⟨gh, t0, t1, t2, t3, t4, t5, t6, t7, ph901, ch901, ph902, ch902, rfl, hb, hg, t, q⟩
  try simp only [Act.put, List.setIfInBounds_toArray, List.set_cons_zero, List.set_cons_succ]
  have P := Lib.hid (HP0.out.below hb); clear HP0; have HP0 := P; clear P
  have P := Lib.hid (HP3.out.below hb); clear HP3; have HP3 := P; clear P
  have P := Lib.hid (HXw.out.below hb); clear HXw; have HXw := P; clear P
  have P := Lib.hid (changesOutE.frame QRw.out (Same.of_below' hb)); clear QRw; have QRw := P; clear P
  have P := Lib.hid (HX0.out.below hb); clear HX0; have HX0 := P; clear P
  have P := Lib.hid (HX3.out.below hb); clear HX3; have HX3 := P; clear P
  have P := Lib.hid (HXg.out.below hb); clear HXg; have HXg := P; clear P
  have P := Lib.hid (QM0.out.frame (Same.of_below' hb)); clear QM0; have QM0 := P; clear P
  have P := Lib.hid (QM1.out.frame (Same.of_below' hb)); clear QM1; have QM1 := P; clear P
  have B1 := Lib.hid (B.out.trans (hb.mono B.out.size)); clear B; have B := B1; clear B1
  have O34 := Lib.hid (hb.size)
  have O35 := Lib.hid (hg)
  have O36 := Lib.hid (t.lt)
  have HXh := Lib.hid t; have QRh := Lib.hid q; clear t q hb hg
  have bm0 := HXw.out.cell 0 rfl
  have bm1 := HXw.out.cell 1 rfl
  have bm2 := HXw.out.cell 2 rfl
  have bm3 := HXw.out.cell 3 rfl
  have bm4 := HX0.out.cell 0 rfl
  have bm5 := HX0.out.cell 1 rfl
  have bm6 := HX3.out.cell 0 rfl
  have bm7 := HX3.out.cell 1 rfl
  have bm8 := HXg.out.cell 0 rfl
  have bm9 := HXg.out.cell 1 rfl
  have bm10 := HXg.out.cell 2 rfl
  have bm11 := HXg.out.cell 3 rfl
  have bm12 := HXh.out.cell 0 rfl
  have bm13 := HXh.out.cell 1 rfl
  have bm14 := HXh.out.cell 2 rfl
  have bm15 := HXh.out.cell 3 rfl
  go_wp2_with fail
  clear bm0 bm1 bm2 bm3 bm4 bm5 bm6 bm7 bm8 bm9 bm10 bm11 bm12 bm13 bm14 bm15
  refine (HQR.out _ _ _ _ _ _ _ (changesOut_atp QRh.out).1 (changesOut_atp QRh.out).2 (changesOut_atp QRw.out).1 (changesOut_atp QRw.out).2).mono ?_
  rintro e W24 ⟨rfl, hb⟩
  have P := Lib.hid (HP0.out.below hb); clear HP0; have HP0 := P; clear P
  have P := Lib.hid (HP3.out.below hb); clear HP3; have HP3 := P; clear P
  have P := Lib.hid (HXw.out.below hb); clear HXw; have HXw := P; clear P
  have P := Lib.hid (changesOutE.frame QRw.out (Same.of_below' hb)); clear QRw; have QRw := P; clear P
  have P := Lib.hid (HX0.out.below hb); clear HX0; have HX0 := P; clear P
  have P := Lib.hid (HX3.out.below hb); clear HX3; have HX3 := P; clear P
  have P := Lib.hid (HXg.out.below hb); clear HXg; have HXg := P; clear P
  have P := Lib.hid (QM0.out.frame (Same.of_below' hb)); clear QM0; have QM0 := P; clear P
  have P := Lib.hid (QM1.out.frame (Same.of_below' hb)); clear QM1; have QM1 := P; clear P
  have P := Lib.hid (HXh.out.below hb); clear HXh; have HXh := P; clear P
  have P := Lib.hid (changesOutE.frame QRh.out (Same.of_below' hb)); clear QRh; have QRh := P; clear P
  have B1 := Lib.hid (B.out.trans (hb.mono B.out.size)); clear B; have B := B1; clear B1
  have O37 := Lib.hid (hb.size)
  clear hb
  have bm0 := HXw.out.cell 0 rfl
  have bm1 := HXw.out.cell 1 rfl
  have bm2 := HXw.out.cell 2 rfl
  have bm3 := HXw.out.cell 3 rfl
  have bm4 := HX0.out.cell 0 rfl
  have bm5 := HX0.out.cell 1 rfl
  have bm6 := HX3.out.cell 0 rfl
  have bm7 := HX3.out.cell 1 rfl
  have bm8 := HXg.out.cell 0 rfl
  have bm9 := HXg.out.cell 1 rfl
  have bm10 := HXg.out.cell 2 rfl
  have bm11 := HXg.out.cell 3 rfl
  have bm12 := HXh.out.cell 0 rfl
  have bm13 := HXh.out.cell 1 rfl
  have bm14 := HXh.out.cell 2 rfl
  have bm15 := HXh.out.cell 3 rfl
  go_wp2_with fail
  clear bm0 bm1 bm2 bm3 bm4 bm5 bm6 bm7 bm8 bm9 bm10 bm11 bm12 bm13 bm14 bm15
  refine (HH.out _ _ _ QM0.out QM1.out).mono ?_
  rintro e W25 ⟨rfl, hb⟩
  have P := Lib.hid (HP0.out.below hb); clear HP0; have HP0 := P; clear P
  have P := Lib.hid (HP3.out.below hb); clear HP3; have HP3 := P; clear P
  have P := Lib.hid (HXw.out.below hb); clear HXw; have HXw := P; clear P
  have P := Lib.hid (changesOutE.frame QRw.out (Same.of_below' hb)); clear QRw; have QRw := P; clear P
  have P := Lib.hid (HX0.out.below hb); clear HX0; have HX0 := P; clear P
  have P := Lib.hid (HX3.out.below hb); clear HX3; have HX3 := P; clear P
  have P := Lib.hid (HXg.out.below hb); clear HXg; have HXg := P; clear P
  have P := Lib.hid (QM0.out.frame (Same.of_below' hb)); clear QM0; have QM0 := P; clear P
  have P := Lib.hid (QM1.out.frame (Same.of_below' hb)); clear QM1; have QM1 := P; clear P
  have P := Lib.hid (HXh.out.below hb); clear HXh; have HXh := P; clear P
  have P := Lib.hid (changesOutE.frame QRh.out (Same.of_below' hb)); clear QRh; have QRh := P; clear P
  have B1 := Lib.hid (B.out.trans (hb.mono B.out.size)); clear B; have B := B1; clear B1
  have O38 := Lib.hid (hb.size)
  clear hb
  go_wp2
  go_ret
  exact ⟨rfl, B.out⟩
end Go.Proofs.YtmanlnlhpgdbpaaGreat
