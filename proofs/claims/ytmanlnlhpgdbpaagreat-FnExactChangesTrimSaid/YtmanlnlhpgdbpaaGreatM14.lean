/- Merged texts: ChangesTrimW. -/
import Derived.Test.YtmanlnlhpgdbpaaGreatM11
import Derived.Test.YtmanlnlhpgdbpaaGreatM7
import Derived.Test.YtmanlnlhpgdbpaaGreatM12
import Derived.Test.YtmanlnlhpgdbpaaGreatM13
/- The law FnExactChangesTrim: its walk. -/
namespace Go.Proofs.YtmanlnlhpgdbpaaGreat
open Go.RowKit
attribute [local go_sem ↓] Go.wp_at_zero Go.wp_at_succ

set_option maxRecDepth 100000 in
set_option maxHeartbeats 4000000 in
theorem ChangesTrim_walk (a0 : Int) (a1 : (List ChangeT)) (v1 : Value) (n1 : Int) (w : World) (h0 : SlAt changeE (All w) w a1 v1) (f0 : changesE.long (a0, a1)) (f1 : -9223372036854775808 ≤ n1 ∧ n1 ≤ 9223372036854775807) :
    Calls Tryz.prog 6 #[.agg #[.int .i64 a0, v1], .int .i64 n1] w fun e w' => e = .returned (.bool true) ∧ Below w.heap.size w w' := by
  have HQ0 : Hid (changesE.sz (a0, a1) ≤ 1048576 → ∀ (Y : World) (S S' : Bs) (x1 u1 : Value), SlAt changeE S Y a1 x1 → SlAt changeE S' Y a1 u1 → Calls Tryz.prog 11 #[.agg #[.int .i64 a0, x1], .agg #[.int .i64 a0, u1]] Y fun e w' => e = .returned (.bool true) ∧ Below Y.heap.size Y w') := Lib.hid (fun z Y S S' x1 u1 g1 k1 => eqChanges_at Y a0 a1 x1 u1 Y (Below.refl _ _) g1 k1 z)
  have HS0 : Hid (∀ (l : Int) (W : World), Below w.heap.size w W → 0 ≤ l → l ≤ 1048576 → Calls Tryz.prog 7 #[.agg #[.int .i64 a0, v1], .int .i64 l] W fun e w' => e = .returned (.int .i64 (leftR (changesE.sz (a0, a1)) l)) ∧ Below W.heap.size W w') := Lib.hid (fun l W b p q => szChanges_at a0 a1 v1 l W (h0.frame (Same.of_below' b)) f0 p q)
  have HT0 : Hid (changesE.sz (a0, a1) ≤ 1048576 → ∀ Y : World, Below w.heap.size w Y → Calls Tryz.prog 9 #[.agg #[.int .i64 a0, v1]] Y fun e w' => ∃ u1, e = .returned (.agg #[.int .i64 a0, u1]) ∧ changesE.Own (Fresh Y w') w' (a0, a1) [.int .i64 a0, u1] ∧ Below Y.heap.size Y w') := Lib.hid (fun z Y b => toChanges_at a0 a1 v1 Y (h0.frame (Same.of_below' b)) z)
  have HSp : Hid (changesE.sz (a0, a1) ≤ 1048576 → ∀ (Y : World) (S0 : Bs) (u1 : Value), SlAt changeE S0 Y a1 u1 → Calls Tryz.prog 28 #[.agg #[.int .i64 a0, u1], .int .i64 n1] Y fun e w' => (∃ u901 u902 : Value, e = .returned (.agg #[.int .i64 (trimR a0 a1 n1).1.1, u901, u902, .int .i64 (trimR a0 a1 n1).2.2]) ∧ changesOutE.At (Fresh Y w') w' (trimR a0 a1 n1) [.int .i64 (trimR a0 a1 n1).1.1, u901, u902, .int .i64 (trimR a0 a1 n1).2.2]) ∧ Below Y.heap.size Y w') := Lib.hid (fun z0 Y S0 u1 h1 => SpecChangesTrim_any a0 n1 u1 a1 Y h1 (chsz z0) f1)
  have HIm : Hid (changesE.sz (a0, a1) ≤ 1048576 → ∀ (Y : World) (S0 : Bs) (u1 : Value), SlAt changeE S0 Y a1 u1 → Calls Tryz.prog 29 #[.agg #[.int .i64 a0, u1], .int .i64 n1] Y fun e w' => (∃ u901 u902 : Value, e = .returned (.agg #[.int .i64 (trimR a0 a1 n1).1.1, u901, u902, .int .i64 (trimR a0 a1 n1).2.2]) ∧ changesOutE.Own (Fresh Y w') w' (trimR a0 a1 n1) [.int .i64 (trimR a0 a1 n1).1.1, u901, u902, .int .i64 (trimR a0 a1 n1).2.2]) ∧ Below Y.heap.size Y w') := Lib.hid (fun z0 Y S0 u1 h1 => ChangesTrim_any a0 n1 u1 a1 Y h1 (chsz z0) f1)
  obtain ⟨o1, k1, rfl⟩ := h0.sl
  clear h0 f0
  go_enter Tryz.func6, Tryz.ntmps6
  go_wp2_with fail
  refine calls_by (fun W => Below w.heap.size w W ∧ Blk W (w.heap.size) [.int .i64 a0, .slice o1 a1.length k1]) ⟨more' (Below.refl _ _) _, Blk.new _ _ _⟩ ?_
  rintro W0 ⟨b0, t0⟩
  have B := Lib.hid b0; clear b0
  have HP0 := Lib.hid t0; clear t0
  refine (HS0.out (1048576) W0 B.out (by omega) (by omega)).mono ?_
  rintro e W1 ⟨rfl, hb⟩
  have P := Lib.hid (HP0.out.below hb); clear HP0; have HP0 := P; clear P
  have B1 := Lib.hid (B.out.trans (hb.mono B.out.size)); clear B; have B := B1; clear B1
  have O0 := Lib.hid (hb.size)
  clear hb HS0
  by_cases g0 : ((changesE.sz (a0, a1) : Nat) : Int) ≤ 1048576
  rotate_left
  · rw [leftR_neg g0]
    clear g0
    go_wp2
    go_ret
    exact ⟨rfl, B.out⟩
  rw [leftR_pos g0]
  have HZ0 : Hid (changesE.sz (a0, a1) ≤ 1048576) := Lib.hid (by omega)
  have p0 : (0 : Int) ≤ ((changesE.sz (a0, a1) : Nat) : Int) := by omega
  have c0 : ¬ 1048576 - ((changesE.sz (a0, a1) : Nat) : Int) < 0 := by omega
  generalize ((changesE.sz (a0, a1) : Nat) : Int) = t0 at *
  have HT := Lib.hid (HT0.out HZ0.out); clear HT0; have HT0 := HT; clear HT
  have HQ := Lib.hid (HQ0.out HZ0.out); clear HQ0; have HQ0 := HQ; clear HQ
  have HS := Lib.hid (HSp.out HZ0.out); have HI := Lib.hid (HIm.out HZ0.out); clear HSp HIm
  have O1 := Lib.hid (B.out.size)
  have O2 := Lib.hid (HP0.out.lt)
  have HRz : Hid (changesOutE.sz (trimR a0 a1 n1) ≤ 1048576) := Lib.hid (Nat.le_trans (trimR_sz a0 n1 a1) HZ0.out)
  generalize trimR a0 a1 n1 = R at *
  obtain ⟨⟨a900, a901⟩, a902, a903⟩ := R
  try dsimp only at HS HI
  have HQR : Hid (∀ (Y : World) (S S' : Bs) (x901 x902 u901 u902 : Value), SlAt changeE S Y a901 x901 → SlAt changeE S Y a902 x902 → SlAt changeE S' Y a901 u901 → SlAt changeE S' Y a902 u902 → Calls Tryz.prog 18 #[.agg #[.int .i64 a900, x901, x902, .int .i64 a903], .agg #[.int .i64 a900, u901, u902, .int .i64 a903]] Y fun e w' => e = .returned (.bool true) ∧ Below Y.heap.size Y w') := Lib.hid (fun Y S S' x901 x902 u901 u902 h901 h902 k901 k902 => eqChangesOut_at Y a900 a901 a902 a903 x901 x902 u901 u902 Y (Below.refl _ _) h901 h902 k901 k902 HRz.out)
  have pm0 := HP0.out.cell 0 rfl
  have pm1 := HP0.out.cell 1 rfl
  go_wp2_with fail
  clear pm0 pm1
  refine (HT0.out _ B.out).mono ?_
  rintro e W2 ⟨x1, rfl, q, hb⟩
  have P := Lib.hid (HP0.out.below hb); clear HP0; have HP0 := P; clear P
  have B1 := Lib.hid (B.out.trans (hb.mono B.out.size)); clear B; have B := B1; clear B1
  have O3 := Lib.hid (hb.size)
  have Qx0 := Lib.hid (changesE.ownAt q); clear q hb
  have Z := changes_atp Qx0.out
  obtain ⟨px1, cx1, rfl⟩ := Z.sl
  clear Z
  go_wp2_with fail
  refine (HS.out _ _ _ (changes_atp Qx0.out)).mono ?_
  rintro e W3 ⟨⟨u901, u902, rfl, q⟩, hb⟩
  clear Qx0
  have P := Lib.hid (HP0.out.below hb); clear HP0; have HP0 := P; clear P
  have B1 := Lib.hid (B.out.trans (hb.mono B.out.size)); clear B; have B := B1; clear B1
  have O4 := Lib.hid (hb.size)
  have QRw := Lib.hid q; clear q hb
  have Z := changesOut_atp QRw.out
  obtain ⟨pw901, cw901, rfl⟩ := Z.1.sl
  obtain ⟨pw902, cw902, rfl⟩ := Z.2.sl
  clear Z
  have pm0 := (HP0.out.alloc (.cells #[.int .i64 a900, .slice pw901 a901.length cw901, .slice pw902 a902.length cw902, .int .i64 a903] 40)).cell 0 rfl
  have pm1 := (HP0.out.alloc (.cells #[.int .i64 a900, .slice pw901 a901.length cw901, .slice pw902 a902.length cw902, .int .i64 a903] 40)).cell 1 rfl
  go_wp2_with fail
  clear pm0 pm1
  refine calls_by (fun W => Below W3.heap.size W3 W ∧ Blk W W3.heap.size [.int .i64 a900, .slice pw901 a901.length cw901, .slice pw902 a902.length cw902, .int .i64 a903]) ⟨more' (Below.refl _ _) _, Blk.new _ _ _⟩ ?_
  rintro V4 ⟨hb, t⟩
  have P := Lib.hid (HP0.out.below hb); clear HP0; have HP0 := P; clear P
  have P := Lib.hid (changesOutE.frame QRw.out (Same.of_below' hb)); clear QRw; have QRw := P; clear P
  have B1 := Lib.hid (B.out.trans (hb.mono B.out.size)); clear B; have B := B1; clear B1
  have O5 := Lib.hid (hb.size)
  clear hb
  have O6 := Lib.hid (t.lt)
  have HXw := Lib.hid t; clear t
  refine (HT0.out _ B.out).mono ?_
  rintro e W5 ⟨y1, rfl, q, hb⟩
  have P := Lib.hid (HP0.out.below hb); clear HP0; have HP0 := P; clear P
  have P := Lib.hid (changesOutE.frame QRw.out (Same.of_below' hb)); clear QRw; have QRw := P; clear P
  have P := Lib.hid (HXw.out.below hb); clear HXw; have HXw := P; clear P
  have B1 := Lib.hid (B.out.trans (hb.mono B.out.size)); clear B; have B := B1; clear B1
  have O7 := Lib.hid (hb.size)
  have Qy0 := Lib.hid (changesE.ownAt q); have OY0 := Lib.hid q; clear q hb
  have Z := changes_atp Qy0.out
  obtain ⟨py1, cy1, rfl⟩ := Z.sl
  clear Z
  have bm0 := HXw.out.cell 0 rfl
  have bm1 := HXw.out.cell 1 rfl
  have bm2 := HXw.out.cell 2 rfl
  have bm3 := HXw.out.cell 3 rfl
  go_wp2_with fail
  clear bm0 bm1 bm2 bm3
  refine calls_by (fun W => Below W5.heap.size W5 W ∧ Blk W W5.heap.size [.int .i64 a0, .slice py1 a1.length cy1]) ⟨more' (Below.refl _ _) _, Blk.new _ _ _⟩ ?_
  rintro V5 ⟨hb, t⟩
  have P := Lib.hid (HP0.out.below hb); clear HP0; have HP0 := P; clear P
  have P := Lib.hid (changesOutE.frame QRw.out (Same.of_below' hb)); clear QRw; have QRw := P; clear P
  have P := Lib.hid (HXw.out.below hb); clear HXw; have HXw := P; clear P
  have P := Lib.hid (changesE.frame Qy0.out (Same.of_below' hb)); clear Qy0; have Qy0 := P; clear P
  have P := Lib.hid (changesE.ownFrame OY0.out (Same.of_below' hb)); clear OY0; have OY0 := P; clear P
  have B1 := Lib.hid (B.out.trans (hb.mono B.out.size)); clear B; have B := B1; clear B1
  have O8 := Lib.hid (hb.size)
  clear hb
  have HX0 := Lib.hid t; clear t
  have O9 := Lib.hid (HX0.out.lt)
  refine (HI.out _ _ _ (changes_atp Qy0.out)).mono ?_
  rintro e W6 ⟨⟨u901, u902, rfl, q⟩, hb⟩
  have P := Lib.hid (HP0.out.below hb); clear HP0; have HP0 := P; clear P
  have P := Lib.hid (changesOutE.frame QRw.out (Same.of_below' hb)); clear QRw; have QRw := P; clear P
  have P := Lib.hid (HXw.out.below hb); clear HXw; have HXw := P; clear P
  have P := Lib.hid (changesE.frame Qy0.out (Same.of_below' hb)); clear Qy0; have Qy0 := P; clear P
  have P := Lib.hid (changesE.ownFrame OY0.out (Same.of_below' hb)); clear OY0; have OY0 := P; clear P
  have P := Lib.hid (HX0.out.below hb); clear HX0; have HX0 := P; clear P
  have B1 := Lib.hid (B.out.trans (hb.mono B.out.size)); clear B; have B := B1; clear B1
  have O10 := Lib.hid (hb.size)
  have OG := Lib.hid q; clear q hb
  have Z := changesOut_atp (changesOutE.ownAt OG.out)
  obtain ⟨pg901, cg901, rfl⟩ := Z.1.sl
  obtain ⟨pg902, cg902, rfl⟩ := Z.2.sl
  clear Z
  have bm0 := (HXw.out.alloc (.cells #[.int .i64 a900, .slice pg901 a901.length cg901, .slice pg902 a902.length cg902, .int .i64 a903] 40)).cell 0 rfl
  have bm1 := (HXw.out.alloc (.cells #[.int .i64 a900, .slice pg901 a901.length cg901, .slice pg902 a902.length cg902, .int .i64 a903] 40)).cell 1 rfl
  have bm2 := (HXw.out.alloc (.cells #[.int .i64 a900, .slice pg901 a901.length cg901, .slice pg902 a902.length cg902, .int .i64 a903] 40)).cell 2 rfl
  have bm3 := (HXw.out.alloc (.cells #[.int .i64 a900, .slice pg901 a901.length cg901, .slice pg902 a902.length cg902, .int .i64 a903] 40)).cell 3 rfl
  have bm4 := (HX0.out.alloc (.cells #[.int .i64 a900, .slice pg901 a901.length cg901, .slice pg902 a902.length cg902, .int .i64 a903] 40)).cell 0 rfl
  have bm5 := (HX0.out.alloc (.cells #[.int .i64 a900, .slice pg901 a901.length cg901, .slice pg902 a902.length cg902, .int .i64 a903] 40)).cell 1 rfl
  go_wp2_with fail
  clear bm0 bm1 bm2 bm3 bm4 bm5
  refine calls_by (fun W => Below W6.heap.size W6 W ∧ Blk W W6.heap.size [.int .i64 a900, .slice pg901 a901.length cg901, .slice pg902 a902.length cg902, .int .i64 a903]) ⟨more' (Below.refl _ _) _, Blk.new _ _ _⟩ ?_
  rintro V6 ⟨hb, t⟩
  have P := Lib.hid (HP0.out.below hb); clear HP0; have HP0 := P; clear P
  have P := Lib.hid (changesOutE.frame QRw.out (Same.of_below' hb)); clear QRw; have QRw := P; clear P
  have P := Lib.hid (HXw.out.below hb); clear HXw; have HXw := P; clear P
  have P := Lib.hid (changesE.frame Qy0.out (Same.of_below' hb)); clear Qy0; have Qy0 := P; clear P
  have P := Lib.hid (changesE.ownFrame OY0.out (Same.of_below' hb)); clear OY0; have OY0 := P; clear P
  have P := Lib.hid (HX0.out.below hb); clear HX0; have HX0 := P; clear P
  have P := Lib.hid (changesOutE.ownFrame OG.out (Same.of_below' hb)); clear OG; have OG := P; clear P
  have B1 := Lib.hid (B.out.trans (hb.mono B.out.size)); clear B; have B := B1; clear B1
  have O11 := Lib.hid (hb.size)
  clear hb
  have O12 := Lib.hid (t.lt)
  have HXg := Lib.hid t; clear t
  refine (HQR.out _ _ _ _ _ _ _ (changesOut_atp (changesOutE.ownAt OG.out)).1 (changesOut_atp (changesOutE.ownAt OG.out)).2 (changesOut_atp QRw.out).1 (changesOut_atp QRw.out).2).mono ?_
  rintro e W7 ⟨rfl, hb⟩
  have P := Lib.hid (HP0.out.below hb); clear HP0; have HP0 := P; clear P
  have P := Lib.hid (changesOutE.frame QRw.out (Same.of_below' hb)); clear QRw; have QRw := P; clear P
  have P := Lib.hid (HXw.out.below hb); clear HXw; have HXw := P; clear P
  have P := Lib.hid (changesE.frame Qy0.out (Same.of_below' hb)); clear Qy0; have Qy0 := P; clear P
  have P := Lib.hid (changesE.ownFrame OY0.out (Same.of_below' hb)); clear OY0; have OY0 := P; clear P
  have P := Lib.hid (HX0.out.below hb); clear HX0; have HX0 := P; clear P
  have P := Lib.hid (changesOutE.ownFrame OG.out (Same.of_below' hb)); clear OG; have OG := P; clear P
  have P := Lib.hid (HXg.out.below hb); clear HXg; have HXg := P; clear P
  have B1 := Lib.hid (B.out.trans (hb.mono B.out.size)); clear B; have B := B1; clear B1
  have O13 := Lib.hid (hb.size)
  clear hb
  go_wp2
  have hb : Below W7.heap.size W7 W7.drew := (Below.refl _ _).drew
  have SK : Hid (∀ Z' : World, Below W7.heap.size W7 Z' → Z'.cell? ⟨w.heap.size, 0, none⟩ = some (.int .i64 a0) ∧ Z'.cell? ⟨w.heap.size, 1, none⟩ = some (.slice o1 a1.length k1) ∧ Z'.cell? ⟨W3.heap.size, 0, none⟩ = some (.int .i64 a900) ∧ Z'.cell? ⟨W3.heap.size, 1, none⟩ = some (.slice pw901 a901.length cw901) ∧ Z'.cell? ⟨W3.heap.size, 2, none⟩ = some (.slice pw902 a902.length cw902) ∧ Z'.cell? ⟨W3.heap.size, 3, none⟩ = some (.int .i64 a903) ∧ Z'.cell? ⟨W5.heap.size, 0, none⟩ = some (.int .i64 a0) ∧ Z'.cell? ⟨W5.heap.size, 1, none⟩ = some (.slice py1 a1.length cy1) ∧ Z'.cell? ⟨W6.heap.size, 0, none⟩ = some (.int .i64 a900) ∧ Z'.cell? ⟨W6.heap.size, 1, none⟩ = some (.slice pg901 a901.length cg901) ∧ Z'.cell? ⟨W6.heap.size, 2, none⟩ = some (.slice pg902 a902.length cg902) ∧ Z'.cell? ⟨W6.heap.size, 3, none⟩ = some (.int .i64 a903)) := Lib.hid (fun Z' h => ⟨(HP0.out.below h).cell 0 rfl, (HP0.out.below h).cell 1 rfl, (HXw.out.below h).cell 0 rfl, (HXw.out.below h).cell 1 rfl, (HXw.out.below h).cell 2 rfl, (HXw.out.below h).cell 3 rfl, (HX0.out.below h).cell 0 rfl, (HX0.out.below h).cell 1 rfl, (HXg.out.below h).cell 0 rfl, (HXg.out.below h).cell 1 rfl, (HXg.out.below h).cell 2 rfl, (HXg.out.below h).cell 3 rfl⟩)
  have BD : Below W7.heap.size W7 W7.drew := hb
  have P := Lib.hid (HP0.out.below hb); clear HP0; have HP0 := P; clear P
  have P := Lib.hid (changesOutE.frame QRw.out (Same.of_below' hb)); clear QRw; have QRw := P; clear P
  have P := Lib.hid (HXw.out.below hb); clear HXw; have HXw := P; clear P
  have P := Lib.hid (changesE.frame Qy0.out (Same.of_below' hb)); clear Qy0; have Qy0 := P; clear P
  have P := Lib.hid (changesE.ownFrame OY0.out (Same.of_below' hb)); clear OY0; have OY0 := P; clear P
  have P := Lib.hid (HX0.out.below hb); clear HX0; have HX0 := P; clear P
  have P := Lib.hid (changesOutE.ownFrame OG.out (Same.of_below' hb)); clear OG; have OG := P; clear P
  have P := Lib.hid (HXg.out.below hb); clear HXg; have HXg := P; clear P
  have B1 := Lib.hid (B.out.trans (hb.mono B.out.size)); clear B; have B := B1; clear B1
  have O14 := Lib.hid (hb.size)
  clear hb
  refine wp_region_held_drew (S := (fun Z' => Z'.cell? ⟨w.heap.size, 0, none⟩ = some (.int .i64 a0) ∧ Z'.cell? ⟨w.heap.size, 1, none⟩ = some (.slice o1 a1.length k1) ∧ Z'.cell? ⟨W3.heap.size, 0, none⟩ = some (.int .i64 a900) ∧ Z'.cell? ⟨W3.heap.size, 1, none⟩ = some (.slice pw901 a901.length cw901) ∧ Z'.cell? ⟨W3.heap.size, 2, none⟩ = some (.slice pw902 a902.length cw902) ∧ Z'.cell? ⟨W3.heap.size, 3, none⟩ = some (.int .i64 a903) ∧ Z'.cell? ⟨W5.heap.size, 0, none⟩ = some (.int .i64 a0) ∧ Z'.cell? ⟨W5.heap.size, 1, none⟩ = some (.slice py1 a1.length cy1) ∧ Z'.cell? ⟨W6.heap.size, 0, none⟩ = some (.int .i64 a900) ∧ Z'.cell? ⟨W6.heap.size, 1, none⟩ = some (.slice pg901 a901.length cg901) ∧ Z'.cell? ⟨W6.heap.size, 2, none⟩ = some (.slice pg902 a902.length cg902) ∧ Z'.cell? ⟨W6.heap.size, 3, none⟩ = some (.int .i64 a903))) (by kernel_rfl) ?_ (fun hHeld => ?_)
  · (try dsimp only)
    first | exact SK.out _ (by assumption) | exact SK.out _ BD
  refine wpAnyH_take (i := 0) (oi := { dst := some 31, op := Op.load 29 (Operand.tmp 7), type := 29, pos := "exact.go:4676", after := #[], guard := none }) (v := ?_) rfl (by kernel_rfl) (by kernel_rfl) (by kernel_rfl) (fun _ _ _ h => h) (Or.inl ⟨by rfl, ?_⟩) (by assumption) ?_
  rotate_left
  · intro w hSw; (try dsimp only at hSw); go_simp; (try with_reducible rfl)
  (try simp only [Act.put, List.setIfInBounds_toArray, List.set_cons_zero, List.set_cons_succ])
  refine wpAnyH_take (i := 1) (oi := { dst := some 32, op := Op.load 24 (Operand.tmp 2), type := 24, pos := "exact.go:4676", after := #[], guard := none }) (v := ?_) rfl (by kernel_rfl) (by kernel_rfl) (by kernel_rfl) (fun _ _ _ h => h) (Or.inl ⟨by rfl, ?_⟩) (by assumption) ?_
  rotate_left
  · intro w hSw; (try dsimp only at hSw); go_simp; (try with_reducible rfl)
  (try simp only [Act.put, List.setIfInBounds_toArray, List.set_cons_zero, List.set_cons_succ])
  refine wpAnyH_ready (rs := [2]) (by kernel_rfl) (by simp) ?_
  refine AllReadyH.cons (o := { dst := some 33, op := Op.call { callee := Callee.value (Operand.func 9), args := #[Operand.tmp 32], argTypes := #[24] }, type := 29, pos := "exact.go:4676", after := #[{ on := 1, ground := Ground.data }], guard := none }) rfl (fun K hK => ?_) (AllReadyH.nil)
  go_simp
  refine (HT0.out _ B.out).mono ?_
  rintro e W8 ⟨z1, rfl, q, hb⟩
  have BD := BD.trans (hb.mono BD.size)
  have P := Lib.hid (HP0.out.below hb); clear HP0; have HP0 := P; clear P
  have P := Lib.hid (changesOutE.frame QRw.out (Same.of_below' hb)); clear QRw; have QRw := P; clear P
  have P := Lib.hid (HXw.out.below hb); clear HXw; have HXw := P; clear P
  have P := Lib.hid (changesE.frame Qy0.out (Same.of_below' hb)); clear Qy0; have Qy0 := P; clear P
  have P := Lib.hid (changesE.ownFrame OY0.out (Same.of_below' hb)); clear OY0; have OY0 := P; clear P
  have P := Lib.hid (HX0.out.below hb); clear HX0; have HX0 := P; clear P
  have P := Lib.hid (changesOutE.ownFrame OG.out (Same.of_below' hb)); clear OG; have OG := P; clear P
  have P := Lib.hid (HXg.out.below hb); clear HXg; have HXg := P; clear P
  have B1 := Lib.hid (B.out.trans (hb.mono B.out.size)); clear B; have B := B1; clear B1
  have O15 := Lib.hid (hb.size)
  have Qz0 := Lib.hid (changesE.ownAt q); clear q hb
  have Z := changes_atp Qz0.out
  obtain ⟨pz1, cz1, rfl⟩ := Z.sl
  clear Z
  clear hHeld
  refine hK.out _ _ ?_ (fun hHeld => ?_)
  · (try dsimp only)
    first | exact SK.out _ (by assumption) | exact SK.out _ BD
  clear hK K
  (try simp only [Act.put, List.setIfInBounds_toArray, List.set_cons_zero, List.set_cons_succ])
  refine wpAnyH_ready (rs := [3]) (by kernel_rfl) (by simp) ?_
  refine AllReadyH.cons (o := { dst := some 34, op := Op.call { callee := Callee.value (Operand.func 11), args := #[Operand.tmp 31, Operand.tmp 33], argTypes := #[29, 29] }, type := 4, pos := "exact.go:4676", after := #[{ on := 0, ground := Ground.data }, { on := 2, ground := Ground.data }, { on := 2, ground := Ground.chain }], guard := none }) rfl (fun K hK => ?_) (AllReadyH.nil)
  go_simp
  refine (HQ0.out _ _ _ _ _ (changes_atp Qy0.out) (changes_atp Qz0.out)).mono ?_
  rintro e W9 ⟨rfl, hb⟩
  have BD := BD.trans (hb.mono BD.size)
  have P := Lib.hid (HP0.out.below hb); clear HP0; have HP0 := P; clear P
  have P := Lib.hid (changesOutE.frame QRw.out (Same.of_below' hb)); clear QRw; have QRw := P; clear P
  have P := Lib.hid (HXw.out.below hb); clear HXw; have HXw := P; clear P
  have P := Lib.hid (changesE.frame Qy0.out (Same.of_below' hb)); clear Qy0; have Qy0 := P; clear P
  have P := Lib.hid (changesE.ownFrame OY0.out (Same.of_below' hb)); clear OY0; have OY0 := P; clear P
  have P := Lib.hid (HX0.out.below hb); clear HX0; have HX0 := P; clear P
  have P := Lib.hid (changesOutE.ownFrame OG.out (Same.of_below' hb)); clear OG; have OG := P; clear P
  have P := Lib.hid (HXg.out.below hb); clear HXg; have HXg := P; clear P
  have P := Lib.hid (changesE.frame Qz0.out (Same.of_below' hb)); clear Qz0; have Qz0 := P; clear P
  have B1 := Lib.hid (B.out.trans (hb.mono B.out.size)); clear B; have B := B1; clear B1
  have O16 := Lib.hid (hb.size)
  clear hb
  clear hHeld
  refine hK.out _ _ ?_ (fun hHeld => ?_)
  · (try dsimp only)
    first | exact SK.out _ (by assumption) | exact SK.out _ BD
  clear hK K
  (try simp only [Act.put, List.setIfInBounds_toArray, List.set_cons_zero, List.set_cons_succ])
  refine wpAnyH_take (i := 4) (oi := { dst := some 35, op := Op.unOp UnOp.not 4 (Operand.tmp 34), type := 4, pos := "exact.go:4676", after := #[{ on := 3, ground := Ground.data }], guard := none }) (v := ?_) rfl (by kernel_rfl) (by kernel_rfl) (by kernel_rfl) (fun _ _ _ h => h) (Or.inl ⟨by rfl, ?_⟩) (by assumption) ?_
  rotate_left
  · intro w hSw; (try dsimp only at hSw); go_simp; (try with_reducible rfl)
  (try simp only [Act.put, List.setIfInBounds_toArray, List.set_cons_zero, List.set_cons_succ])
  refine wpAnyH_done (by kernel_rfl) ?_ _
  clear SK BD
  clear Qz0
  clear Qy0
  have bm0 := HXw.out.cell 0 rfl
  have bm1 := HXw.out.cell 1 rfl
  have bm2 := HXw.out.cell 2 rfl
  have bm3 := HXw.out.cell 3 rfl
  have bm4 := HX0.out.cell 0 rfl
  have bm5 := HX0.out.cell 1 rfl
  have bm6 := HXg.out.cell 0 rfl
  have bm7 := HXg.out.cell 1 rfl
  have bm8 := HXg.out.cell 2 rfl
  have bm9 := HXg.out.cell 3 rfl
  go_wp2_with fail
  clear bm0 bm1 bm2 bm3 bm4 bm5 bm6 bm7 bm8 bm9
  have mz : 0 + ((a1.length + szL changeE a1)) ≤ 1048576 := HZ0.out
  have mc1 := cnt_fit (e := changeE) a1 (by decide) (by omega)
  obtain ⟨S0, q0, i0, _⟩ := changes_op OY0.out
  refine (markChanges_fl a0 a1 _ S0 (1) _ q0 (by omega) (by omega)  (fun b h => by have := (i0 b h).2; have := O0.out; have := O1.out; have := O2.out; have := O3.out; have := O4.out; have := O5.out; have := O6.out; have := O7.out; have := O8.out; have := O9.out; have := O10.out; have := O11.out; have := O12.out; have := O13.out; have := O14.out; have := O15.out; have := O16.out; omega) (by omega) (by omega)).mono ?_
  rintro e W10 ⟨rfl, _, ht⟩
  have ht := ht.wide (fun k z => by rcases z with z; exact i0 k z)
  clear mz q0 i0 
  have P := Lib.hid (HP0.out.turn ht (by rintro ⟨z3, z4⟩; have := O0.out; have := O1.out; have := O2.out; have := O3.out; have := O4.out; have := O5.out; have := O6.out; have := O7.out; have := O8.out; have := O9.out; have := O10.out; have := O11.out; have := O12.out; have := O13.out; have := O14.out; have := O15.out; have := O16.out; omega)); clear HP0; have HP0 := P; clear P
  have P := Lib.hid (changesOutE.frame QRw.out (ht.same (by rintro k ⟨z1, z2⟩ ⟨z3, z4⟩; have := O0.out; have := O1.out; have := O2.out; have := O3.out; have := O4.out; have := O5.out; have := O6.out; have := O7.out; have := O8.out; have := O9.out; have := O10.out; have := O11.out; have := O12.out; have := O13.out; have := O14.out; have := O15.out; have := O16.out; omega))); clear QRw; have QRw := P; clear P
  have P := Lib.hid (HXw.out.turn ht (by rintro ⟨z3, z4⟩; have := O0.out; have := O1.out; have := O2.out; have := O3.out; have := O4.out; have := O5.out; have := O6.out; have := O7.out; have := O8.out; have := O9.out; have := O10.out; have := O11.out; have := O12.out; have := O13.out; have := O14.out; have := O15.out; have := O16.out; omega)); clear HXw; have HXw := P; clear P
  have P := Lib.hid (HX0.out.turn ht (by rintro ⟨z3, z4⟩; have := O0.out; have := O1.out; have := O2.out; have := O3.out; have := O4.out; have := O5.out; have := O6.out; have := O7.out; have := O8.out; have := O9.out; have := O10.out; have := O11.out; have := O12.out; have := O13.out; have := O14.out; have := O15.out; have := O16.out; omega)); clear HX0; have HX0 := P; clear P
  have P := Lib.hid (changesOutE.ownFrame OG.out (ht.same (by rintro k ⟨z1, z2⟩ ⟨z3, z4⟩; have := O0.out; have := O1.out; have := O2.out; have := O3.out; have := O4.out; have := O5.out; have := O6.out; have := O7.out; have := O8.out; have := O9.out; have := O10.out; have := O11.out; have := O12.out; have := O13.out; have := O14.out; have := O15.out; have := O16.out; omega))); clear OG; have OG := P; clear P
  have P := Lib.hid (HXg.out.turn ht (by rintro ⟨z3, z4⟩; have := O0.out; have := O1.out; have := O2.out; have := O3.out; have := O4.out; have := O5.out; have := O6.out; have := O7.out; have := O8.out; have := O9.out; have := O10.out; have := O11.out; have := O12.out; have := O13.out; have := O14.out; have := O15.out; have := O16.out; omega)); clear HXg; have HXg := P; clear P
  have B1 := Lib.hid (ht.below B.out (by rintro k ⟨z3, z4⟩; have := O0.out; have := O1.out; have := O2.out; have := O3.out; have := O4.out; have := O5.out; have := O6.out; have := O7.out; have := O8.out; have := O9.out; have := O10.out; have := O11.out; have := O12.out; have := O13.out; have := O14.out; have := O15.out; have := O16.out; omega)); clear B; have B := B1; clear B1
  have O17 := Lib.hid (ht.size)
  clear OY0 ht
  have hk : ¬ ((1 + cntL changeE a1 : Nat) : Int) < 0 := by omega
  have bm0 := HXw.out.cell 0 rfl
  have bm1 := HXw.out.cell 1 rfl
  have bm2 := HXw.out.cell 2 rfl
  have bm3 := HXw.out.cell 3 rfl
  have bm4 := HX0.out.cell 0 rfl
  have bm5 := HX0.out.cell 1 rfl
  have bm6 := HXg.out.cell 0 rfl
  have bm7 := HXg.out.cell 1 rfl
  have bm8 := HXg.out.cell 2 rfl
  have bm9 := HXg.out.cell 3 rfl
  go_wp2_with fail
  clear bm0 bm1 bm2 bm3 bm4 bm5 bm6 bm7 bm8 bm9
  refine (HQR.out _ _ _ _ _ _ _ (changesOut_atp (changesOutE.ownAt OG.out)).1 (changesOut_atp (changesOutE.ownAt OG.out)).2 (changesOut_atp QRw.out).1 (changesOut_atp QRw.out).2).mono ?_
  rintro e W11 ⟨rfl, hb⟩
  have P := Lib.hid (HP0.out.below hb); clear HP0; have HP0 := P; clear P
  have P := Lib.hid (changesOutE.frame QRw.out (Same.of_below' hb)); clear QRw; have QRw := P; clear P
  have P := Lib.hid (HXw.out.below hb); clear HXw; have HXw := P; clear P
  have P := Lib.hid (HX0.out.below hb); clear HX0; have HX0 := P; clear P
  have P := Lib.hid (changesOutE.ownFrame OG.out (Same.of_below' hb)); clear OG; have OG := P; clear P
  have P := Lib.hid (HXg.out.below hb); clear HXg; have HXg := P; clear P
  have B1 := Lib.hid (B.out.trans (hb.mono B.out.size)); clear B; have B := B1; clear B1
  have O18 := Lib.hid (hb.size)
  clear hb
  clear hk mc1
  have mz : (0 + ((a901.length + szL changeE a901))) + ((a902.length + szL changeE a902) + (0)) ≤ 1048576 := HRz.out
  have mc901 := cnt_fit (e := changeE) a901 (by decide) (by omega)
  have mc902 := cnt_fit (e := changeE) a902 (by decide) (by omega)
  have HH : Hid (∀ (Y : World) (S0 S1 : Bs), SlAt changeE S0 Y (mkAll changeE (1) a901) (.slice pg901 a901.length cg901) → SlAt changeE S1 Y (mkAll changeE (1 + cntL changeE a901) a902) (.slice pg902 a902.length cg902) → Calls Tryz.prog 25 #[.agg #[.int .i64 a900, .slice pg901 a901.length cg901, .slice pg902 a902.length cg902, .int .i64 a903], .int .i64 1] Y fun e w' => e = .returned (.int .i64 ((1 + cntL changeE a901 + cntL changeE a902 : Nat) : Int)) ∧ Below Y.heap.size Y w') := Lib.hid (fun Y S0 S1 h0 h1 => heldChangesOut_fl a900 a901 a902 a903 _ _ 1 Y h0 (by omega) (by omega) h1 (by omega) (by omega) (by omega) (by omega))
  have bm0 := HXw.out.cell 0 rfl
  have bm1 := HXw.out.cell 1 rfl
  have bm2 := HXw.out.cell 2 rfl
  have bm3 := HXw.out.cell 3 rfl
  have bm4 := HX0.out.cell 0 rfl
  have bm5 := HX0.out.cell 1 rfl
  have bm6 := HXg.out.cell 0 rfl
  have bm7 := HXg.out.cell 1 rfl
  have bm8 := HXg.out.cell 2 rfl
  have bm9 := HXg.out.cell 3 rfl
  go_wp2_with fail
  clear bm0 bm1 bm2 bm3 bm4 bm5 bm6 bm7 bm8 bm9
  obtain ⟨S0, S1, q0, i0, q1, i1, d01, _⟩ := changesOut_op OG.out
  refine (markChangesOut_fl a900 a901 a902 a903 _ _ S0 S1 1 _ q0 (by omega) (by omega) q1 (by omega) (by omega) d01 (fun b h => by have := (i0 b h).2; have := O0.out; have := O1.out; have := O2.out; have := O3.out; have := O4.out; have := O5.out; have := O6.out; have := O7.out; have := O8.out; have := O9.out; have := O10.out; have := O11.out; have := O12.out; have := O13.out; have := O14.out; have := O15.out; have := O16.out; have := O17.out; have := O18.out; omega) (fun b h => by have := (i1 b h).2; have := O0.out; have := O1.out; have := O2.out; have := O3.out; have := O4.out; have := O5.out; have := O6.out; have := O7.out; have := O8.out; have := O9.out; have := O10.out; have := O11.out; have := O12.out; have := O13.out; have := O14.out; have := O15.out; have := O16.out; have := O17.out; have := O18.out; omega) (by omega) (by omega)).mono ?_
  rintro e W12 ⟨rfl, r0, r1, ht⟩
  have QM0 := Lib.hid (r0.at.wide i0)
  have QM1 := Lib.hid (r1.at.wide i1)
  have ht := ht.wide (fun k z => by rcases z with z | z; exact i0 k z; exact i1 k z)
  have P := Lib.hid (HP0.out.turn ht (by rintro ⟨z3, z4⟩; have := O0.out; have := O1.out; have := O2.out; have := O3.out; have := O4.out; have := O5.out; have := O6.out; have := O7.out; have := O8.out; have := O9.out; have := O10.out; have := O11.out; have := O12.out; have := O13.out; have := O14.out; have := O15.out; have := O16.out; have := O17.out; have := O18.out; omega)); clear HP0; have HP0 := P; clear P
  have P := Lib.hid (changesOutE.frame QRw.out (ht.same (by rintro k ⟨z1, z2⟩ ⟨z3, z4⟩; have := O0.out; have := O1.out; have := O2.out; have := O3.out; have := O4.out; have := O5.out; have := O6.out; have := O7.out; have := O8.out; have := O9.out; have := O10.out; have := O11.out; have := O12.out; have := O13.out; have := O14.out; have := O15.out; have := O16.out; have := O17.out; have := O18.out; omega))); clear QRw; have QRw := P; clear P
  have P := Lib.hid (HXw.out.turn ht (by rintro ⟨z3, z4⟩; have := O0.out; have := O1.out; have := O2.out; have := O3.out; have := O4.out; have := O5.out; have := O6.out; have := O7.out; have := O8.out; have := O9.out; have := O10.out; have := O11.out; have := O12.out; have := O13.out; have := O14.out; have := O15.out; have := O16.out; have := O17.out; have := O18.out; omega)); clear HXw; have HXw := P; clear P
  have P := Lib.hid (HX0.out.turn ht (by rintro ⟨z3, z4⟩; have := O0.out; have := O1.out; have := O2.out; have := O3.out; have := O4.out; have := O5.out; have := O6.out; have := O7.out; have := O8.out; have := O9.out; have := O10.out; have := O11.out; have := O12.out; have := O13.out; have := O14.out; have := O15.out; have := O16.out; have := O17.out; have := O18.out; omega)); clear HX0; have HX0 := P; clear P
  have P := Lib.hid (HXg.out.turn ht (by rintro ⟨z3, z4⟩; have := O0.out; have := O1.out; have := O2.out; have := O3.out; have := O4.out; have := O5.out; have := O6.out; have := O7.out; have := O8.out; have := O9.out; have := O10.out; have := O11.out; have := O12.out; have := O13.out; have := O14.out; have := O15.out; have := O16.out; have := O17.out; have := O18.out; omega)); clear HXg; have HXg := P; clear P
  have B1 := Lib.hid (ht.below B.out (by rintro k ⟨z3, z4⟩; have := O0.out; have := O1.out; have := O2.out; have := O3.out; have := O4.out; have := O5.out; have := O6.out; have := O7.out; have := O8.out; have := O9.out; have := O10.out; have := O11.out; have := O12.out; have := O13.out; have := O14.out; have := O15.out; have := O16.out; have := O17.out; have := O18.out; omega)); clear B; have B := B1; clear B1
  have O19 := Lib.hid (ht.size)
  clear OG ht q0 i0 r0 q1 i1 r1 d01
  have hq1 : ¬ ((1 + cntL changeE a901 + cntL changeE a902 : Nat) : Int) < 0 := by omega
  generalize ((1 + cntL changeE a901 + cntL changeE a902 : Nat) : Int) = Q at *
  have hq2 : (Q != Q) = false := by simp
  clear mz mc901 mc902
  have bm0 := HXw.out.cell 0 rfl
  have bm1 := HXw.out.cell 1 rfl
  have bm2 := HXw.out.cell 2 rfl
  have bm3 := HXw.out.cell 3 rfl
  have bm4 := HX0.out.cell 0 rfl
  have bm5 := HX0.out.cell 1 rfl
  have bm6 := HXg.out.cell 0 rfl
  have bm7 := HXg.out.cell 1 rfl
  have bm8 := HXg.out.cell 2 rfl
  have bm9 := HXg.out.cell 3 rfl
  go_wp2_with fail
  clear bm0 bm1 bm2 bm3 bm4 bm5 bm6 bm7 bm8 bm9
  refine (HH.out _ _ _ QM0.out QM1.out).mono ?_
  rintro e W13 ⟨rfl, hb⟩
  have P := Lib.hid (HP0.out.below hb); clear HP0; have HP0 := P; clear P
  have P := Lib.hid (changesOutE.frame QRw.out (Same.of_below' hb)); clear QRw; have QRw := P; clear P
  have P := Lib.hid (HXw.out.below hb); clear HXw; have HXw := P; clear P
  have P := Lib.hid (HX0.out.below hb); clear HX0; have HX0 := P; clear P
  have P := Lib.hid (HXg.out.below hb); clear HXg; have HXg := P; clear P
  have P := Lib.hid (QM0.out.frame (Same.of_below' hb)); clear QM0; have QM0 := P; clear P
  have P := Lib.hid (QM1.out.frame (Same.of_below' hb)); clear QM1; have QM1 := P; clear P
  have B1 := Lib.hid (B.out.trans (hb.mono B.out.size)); clear B; have B := B1; clear B1
  have O20 := Lib.hid (hb.size)
  clear hb
  have pm0 := HP0.out.cell 0 rfl
  have pm1 := HP0.out.cell 1 rfl
  go_wp2_with fail
  clear pm0 pm1
  refine (HT0.out _ B.out).mono ?_
  rintro e W14 ⟨x1, rfl, q, hb⟩
  have P := Lib.hid (HP0.out.below hb); clear HP0; have HP0 := P; clear P
  have P := Lib.hid (changesOutE.frame QRw.out (Same.of_below' hb)); clear QRw; have QRw := P; clear P
  have P := Lib.hid (HXw.out.below hb); clear HXw; have HXw := P; clear P
  have P := Lib.hid (HX0.out.below hb); clear HX0; have HX0 := P; clear P
  have P := Lib.hid (HXg.out.below hb); clear HXg; have HXg := P; clear P
  have P := Lib.hid (QM0.out.frame (Same.of_below' hb)); clear QM0; have QM0 := P; clear P
  have P := Lib.hid (QM1.out.frame (Same.of_below' hb)); clear QM1; have QM1 := P; clear P
  have B1 := Lib.hid (B.out.trans (hb.mono B.out.size)); clear B; have B := B1; clear B1
  have O21 := Lib.hid (hb.size)
  have Qx0 := Lib.hid (changesE.ownAt q); clear q hb
  have Z := changes_atp Qx0.out
  obtain ⟨px1, cx1, rfl⟩ := Z.sl
  clear Z
  have bm0 := HXw.out.cell 0 rfl
  have bm1 := HXw.out.cell 1 rfl
  have bm2 := HXw.out.cell 2 rfl
  have bm3 := HXw.out.cell 3 rfl
  have bm4 := HX0.out.cell 0 rfl
  have bm5 := HX0.out.cell 1 rfl
  have bm6 := HXg.out.cell 0 rfl
  have bm7 := HXg.out.cell 1 rfl
  have bm8 := HXg.out.cell 2 rfl
  have bm9 := HXg.out.cell 3 rfl
  go_wp2_with fail
  clear bm0 bm1 bm2 bm3 bm4 bm5 bm6 bm7 bm8 bm9
  refine (HI.out _ _ _ (changes_atp Qx0.out)).mono ?_
  rintro e W15 ⟨⟨u901, u902, rfl, q⟩, hb⟩
  clear Qx0
  have P := Lib.hid (HP0.out.below hb); clear HP0; have HP0 := P; clear P
  have P := Lib.hid (changesOutE.frame QRw.out (Same.of_below' hb)); clear QRw; have QRw := P; clear P
  have P := Lib.hid (HXw.out.below hb); clear HXw; have HXw := P; clear P
  have P := Lib.hid (HX0.out.below hb); clear HX0; have HX0 := P; clear P
  have P := Lib.hid (HXg.out.below hb); clear HXg; have HXg := P; clear P
  have P := Lib.hid (QM0.out.frame (Same.of_below' hb)); clear QM0; have QM0 := P; clear P
  have P := Lib.hid (QM1.out.frame (Same.of_below' hb)); clear QM1; have QM1 := P; clear P
  have B1 := Lib.hid (B.out.trans (hb.mono B.out.size)); clear B; have B := B1; clear B1
  have O22 := Lib.hid (hb.size)
  have QRh := Lib.hid (changesOutE.ownAt q); clear q hb
  have Z := changesOut_atp QRh.out
  obtain ⟨ph901, ch901, rfl⟩ := Z.1.sl
  obtain ⟨ph902, ch902, rfl⟩ := Z.2.sl
  clear Z
  have bm0 := (HXw.out.alloc (.cells #[.int .i64 a900, .slice ph901 a901.length ch901, .slice ph902 a902.length ch902, .int .i64 a903] 40)).cell 0 rfl
  have bm1 := (HXw.out.alloc (.cells #[.int .i64 a900, .slice ph901 a901.length ch901, .slice ph902 a902.length ch902, .int .i64 a903] 40)).cell 1 rfl
  have bm2 := (HXw.out.alloc (.cells #[.int .i64 a900, .slice ph901 a901.length ch901, .slice ph902 a902.length ch902, .int .i64 a903] 40)).cell 2 rfl
  have bm3 := (HXw.out.alloc (.cells #[.int .i64 a900, .slice ph901 a901.length ch901, .slice ph902 a902.length ch902, .int .i64 a903] 40)).cell 3 rfl
  have bm4 := (HX0.out.alloc (.cells #[.int .i64 a900, .slice ph901 a901.length ch901, .slice ph902 a902.length ch902, .int .i64 a903] 40)).cell 0 rfl
  have bm5 := (HX0.out.alloc (.cells #[.int .i64 a900, .slice ph901 a901.length ch901, .slice ph902 a902.length ch902, .int .i64 a903] 40)).cell 1 rfl
  have bm6 := (HXg.out.alloc (.cells #[.int .i64 a900, .slice ph901 a901.length ch901, .slice ph902 a902.length ch902, .int .i64 a903] 40)).cell 0 rfl
  have bm7 := (HXg.out.alloc (.cells #[.int .i64 a900, .slice ph901 a901.length ch901, .slice ph902 a902.length ch902, .int .i64 a903] 40)).cell 1 rfl
  have bm8 := (HXg.out.alloc (.cells #[.int .i64 a900, .slice ph901 a901.length ch901, .slice ph902 a902.length ch902, .int .i64 a903] 40)).cell 2 rfl
  have bm9 := (HXg.out.alloc (.cells #[.int .i64 a900, .slice ph901 a901.length ch901, .slice ph902 a902.length ch902, .int .i64 a903] 40)).cell 3 rfl
  go_wp2_with fail
  clear bm0 bm1 bm2 bm3 bm4 bm5 bm6 bm7 bm8 bm9
  refine calls_by (fun W => Below W15.heap.size W15 W ∧ Blk W W15.heap.size [.int .i64 a900, .slice ph901 a901.length ch901, .slice ph902 a902.length ch902, .int .i64 a903]) ⟨more' (Below.refl _ _) _, Blk.new _ _ _⟩ ?_
  rintro V15 ⟨hb, t⟩
  have P := Lib.hid (HP0.out.below hb); clear HP0; have HP0 := P; clear P
  have P := Lib.hid (changesOutE.frame QRw.out (Same.of_below' hb)); clear QRw; have QRw := P; clear P
  have P := Lib.hid (HXw.out.below hb); clear HXw; have HXw := P; clear P
  have P := Lib.hid (HX0.out.below hb); clear HX0; have HX0 := P; clear P
  have P := Lib.hid (HXg.out.below hb); clear HXg; have HXg := P; clear P
  have P := Lib.hid (QM0.out.frame (Same.of_below' hb)); clear QM0; have QM0 := P; clear P
  have P := Lib.hid (QM1.out.frame (Same.of_below' hb)); clear QM1; have QM1 := P; clear P
  have P := Lib.hid (changesOutE.frame QRh.out (Same.of_below' hb)); clear QRh; have QRh := P; clear P
  have B1 := Lib.hid (B.out.trans (hb.mono B.out.size)); clear B; have B := B1; clear B1
  have O23 := Lib.hid (hb.size)
  clear hb
  have O24 := Lib.hid (t.lt)
  have HXh := Lib.hid t; clear t
  refine (HQR.out _ _ _ _ _ _ _ (changesOut_atp QRh.out).1 (changesOut_atp QRh.out).2 (changesOut_atp QRw.out).1 (changesOut_atp QRw.out).2).mono ?_
  rintro e W16 ⟨rfl, hb⟩
  have P := Lib.hid (HP0.out.below hb); clear HP0; have HP0 := P; clear P
  have P := Lib.hid (changesOutE.frame QRw.out (Same.of_below' hb)); clear QRw; have QRw := P; clear P
  have P := Lib.hid (HXw.out.below hb); clear HXw; have HXw := P; clear P
  have P := Lib.hid (HX0.out.below hb); clear HX0; have HX0 := P; clear P
  have P := Lib.hid (HXg.out.below hb); clear HXg; have HXg := P; clear P
  have P := Lib.hid (QM0.out.frame (Same.of_below' hb)); clear QM0; have QM0 := P; clear P
  have P := Lib.hid (QM1.out.frame (Same.of_below' hb)); clear QM1; have QM1 := P; clear P
  have P := Lib.hid (changesOutE.frame QRh.out (Same.of_below' hb)); clear QRh; have QRh := P; clear P
  have P := Lib.hid (HXh.out.below hb); clear HXh; have HXh := P; clear P
  have B1 := Lib.hid (B.out.trans (hb.mono B.out.size)); clear B; have B := B1; clear B1
  have O25 := Lib.hid (hb.size)
  clear hb
  have bm0 := HXw.out.cell 0 rfl
  have bm1 := HXw.out.cell 1 rfl
  have bm2 := HXw.out.cell 2 rfl
  have bm3 := HXw.out.cell 3 rfl
  have bm4 := HX0.out.cell 0 rfl
  have bm5 := HX0.out.cell 1 rfl
  have bm6 := HXg.out.cell 0 rfl
  have bm7 := HXg.out.cell 1 rfl
  have bm8 := HXg.out.cell 2 rfl
  have bm9 := HXg.out.cell 3 rfl
  have bm10 := HXh.out.cell 0 rfl
  have bm11 := HXh.out.cell 1 rfl
  have bm12 := HXh.out.cell 2 rfl
  have bm13 := HXh.out.cell 3 rfl
  go_wp2_with fail
  clear bm0 bm1 bm2 bm3 bm4 bm5 bm6 bm7 bm8 bm9 bm10 bm11 bm12 bm13
  refine (HH.out _ _ _ QM0.out QM1.out).mono ?_
  rintro e W17 ⟨rfl, hb⟩
  have P := Lib.hid (HP0.out.below hb); clear HP0; have HP0 := P; clear P
  have P := Lib.hid (changesOutE.frame QRw.out (Same.of_below' hb)); clear QRw; have QRw := P; clear P
  have P := Lib.hid (HXw.out.below hb); clear HXw; have HXw := P; clear P
  have P := Lib.hid (HX0.out.below hb); clear HX0; have HX0 := P; clear P
  have P := Lib.hid (HXg.out.below hb); clear HXg; have HXg := P; clear P
  have P := Lib.hid (QM0.out.frame (Same.of_below' hb)); clear QM0; have QM0 := P; clear P
  have P := Lib.hid (QM1.out.frame (Same.of_below' hb)); clear QM1; have QM1 := P; clear P
  have P := Lib.hid (changesOutE.frame QRh.out (Same.of_below' hb)); clear QRh; have QRh := P; clear P
  have P := Lib.hid (HXh.out.below hb); clear HXh; have HXh := P; clear P
  have B1 := Lib.hid (B.out.trans (hb.mono B.out.size)); clear B; have B := B1; clear B1
  have O26 := Lib.hid (hb.size)
  clear hb
  go_wp2
  go_ret
  exact ⟨rfl, B.out⟩
end Go.Proofs.YtmanlnlhpgdbpaaGreat
