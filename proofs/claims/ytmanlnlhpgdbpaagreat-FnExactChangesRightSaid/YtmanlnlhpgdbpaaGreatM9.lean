/- Merged texts: toChange, toChanges, eqRdn, eqString, eqAttr, eqEntry, eqChange, eqChanges, ChangesRightW, Opn. -/
import Derived.Test.YtmanlnlhpgdbpaaGreatM2
import Derived.Test.YtmanlnlhpgdbpaaGreatM3
import Derived.Laws.MakeOwn
import Derived.Test.YtmanlnlhpgdbpaaGreatM8
import Derived.SliceStrings
import Derived.Test.YtmanlnlhpgdbpaaGreatM1
import Derived.Test.YtmanlnlhpgdbpaaGreatM6
import Derived.Test.YtmanlnlhpgdbpaaGreatRows
/- The helpers of the laws: copies. -/
namespace Go.Proofs.YtmanlnlhpgdbpaaGreat
open Go.RowKit
attribute [local go_sem ↓] Go.wp_at_zero Go.wp_at_succ

theorem Tryz.infoTChange : (Tryz.prog.info? 61).map (fun i => (i.zero, i.size, i.bytes)) = some (some (.agg #[.int .i64 0, .int .i64 0, .string ByteArray.empty, .slice none 0 0, .slice none 0 0]), 5, 80) := by kernel_rfl
theorem mkChange (n : Nat) (hn : n ≤ 1048576) (W : World) : ∃ C : Array Value, C.size = n * 5 ∧
    (Instr.makeSlice 27 (.int .i64 (n : Int)) (.int .i64 (n : Int))).run Tryz.prog W = .ok (.slice (some ⟨W.heap.size, 0, none⟩) n n) (W.alloc (.cells C 61)) := by
  obtain ⟨i0, hi, hz0, hz1, hz2⟩ := info_parts Tryz.infoTChange
  have := run_make (P := Tryz.prog) W 27 61 i0 _ Tryz.underlying27 hi hz0 .i64 .i64 (n : Int) (n : Int) (by omega) (by omega) (by rw [hz2]; omega) (by omega)
  rw [hz1] at this
  refine ⟨madeCells (Value.cells (.agg #[.int .i64 0, .int .i64 0, .string ByteArray.empty, .slice none 0 0, .slice none 0 0])) (n * 5), size_madeCells _ _, ?_⟩
  simpa using this
set_option maxRecDepth 100000 in
set_option maxHeartbeats 4000000 in
theorem toChange_at {S : Bs} (a0 : Int) (a1 : Int) (a2 : ByteArray) (a3 : (List RdnT)) (a4 : (List AttrT)) (v3 v4 : Value) (w : World) (h3 : SlAt rdnE S w a3 v3) (h4 : SlAt attrE S w a4 v4) (hz : changeE.sz (a0, a1, a2, (a3, a4)) ≤ 1048576) :
    Calls Tryz.prog 66 #[.agg #[.int .i64 a0, .int .i64 a1, .string a2, v3, v4]] w fun e w' => ∃ u3 u4, e = .returned (.agg #[.int .i64 a0, .int .i64 a1, .string a2, u3, u4]) ∧ changeE.Own (Fresh w w') w' (a0, a1, a2, (a3, a4)) [.int .i64 a0, .int .i64 a1, .string a2, u3, u4] ∧ Below w.heap.size w w' := by
  have HE : changeE.sz (a0, a1, a2, (a3, a4)) = 0 + (0 + (a2.size + (entryE.sz (a3, a4)))) := rfl
  rw [HE] at hz
  have C3 : Hid (∀ W : World, Below w.heap.size w W → Calls Tryz.prog 16 #[.agg #[v3, v4]] W fun e w' => ∃ u3 u4, e = .returned (.agg #[u3, u4]) ∧ entryE.Own (Fresh W w') w' (a3, a4) [u3, u4] ∧ Below W.heap.size W w') := Lib.hid (fun W b => toEntry_at a3 a4 v3 v4 W (h3.frame (Same.of_below' b)) (h4.frame (Same.of_below' b)) (by omega))
  obtain ⟨o3, k3, rfl⟩ := h3.sl
  obtain ⟨o4, k4, rfl⟩ := h4.sl
  clear hz HE h3 h4
  go_enter Tryz.func66, Tryz.ntmps66
  go_wp2_with fail
  refine calls_by (fun W => Below w.heap.size w W ∧ Blk W w.heap.size [.int .i64 a0, .int .i64 a1, .string a2, .slice o3 a3.length k3, .slice o4 a4.length k4] ∧ Blk W (w.heap.size + 1) [.int .i64 0, .int .i64 0, .string ⟨#[]⟩, .slice none 0 0, .slice none 0 0] ∧ Blk W (w.heap.size + 1 + 1) [.int .i64 a0, .int .i64 a1, .string a2, .slice none 0 0, .slice none 0 0]) ⟨more' (more' (more' (Below.refl _ _) _) _) _, ((Blk.new _ _ _).alloc _).alloc _, (blk_at _ _ _ (by simp)).alloc _, blk_at _ _ _ (by simp)⟩ ?_
  rintro W0 ⟨b0, t0, r0, s0⟩
  have hn : w.heap.size + 1 + 1 < W0.heap.size := s0.lt
  refine (C3.out W0 b0).mono ?_
  rintro e y1 ⟨u3, u4, rfl, q3, hb⟩
  obtain ⟨Z3, Z4, r3_, i3_, r4_, i4_, d3_4, _⟩ := entry_op q3
  obtain ⟨p3, j3, rfl⟩ := r3_.at.sl
  obtain ⟨p4, j4, rfl⟩ := r4_.at.sl
  have T := Lib.hid (t0.below hb); have Rr := Lib.hid (r0.below hb); have U := Lib.hid (s0.below hb); have B := Lib.hid (b0.trans (hb.mono b0.size)); have hs1 := hb.size
  have Q3 := Lib.hid r3_
  have Q4 := Lib.hid r4_
  clear t0 r0 s0 b0 hb q3 C3
  clear r3_ r4_
  have m0 := T.out.cell 0 rfl
  have c0 := U.out.cell 0 rfl
  have f0 := U.out.soft 0
  have m1 := T.out.cell 1 rfl
  have c1 := U.out.cell 1 rfl
  have f1 := U.out.soft 1
  have m2 := T.out.cell 2 rfl
  have c2 := U.out.cell 2 rfl
  have f2 := U.out.soft 2
  have m3 := T.out.cell 3 rfl
  have c3 := U.out.cell 3 rfl
  have f3 := U.out.soft 3
  have m4 := T.out.cell 4 rfl
  have c4 := U.out.cell 4 rfl
  have f4 := U.out.soft 4
  have TE := (((((((Rr.out.far (R := w.heap.size + 1 + 1) (j := 3) (by omega) (.slice p3 a3.length j3)).far (R := w.heap.size + 1 + 1) (j := 4) (by omega) (.slice p4 a4.length j4)).set 0 (.int .i64 a0)).set 1 (.int .i64 a1)).set 2 (.string a2)).set 3 (.slice p3 a3.length j3)).set 4 (.slice p4 a4.length j4))
  have d0 := Rr.out.cell 0 rfl
  have g0 := Rr.out.soft 0
  have k100 := TE.cell 0 rfl
  have d1 := Rr.out.cell 1 rfl
  have g1 := Rr.out.soft 1
  have k101 := TE.cell 1 rfl
  have d2 := Rr.out.cell 2 rfl
  have g2 := Rr.out.soft 2
  have k102 := TE.cell 2 rfl
  have d3 := Rr.out.cell 3 rfl
  have g3 := Rr.out.soft 3
  have k103 := TE.cell 3 rfl
  have d4 := Rr.out.cell 4 rfl
  have g4 := Rr.out.soft 4
  have k104 := TE.cell 4 rfl
  clear TE
  go_wp2_with fail
  refine bodyPost_ret (v := .agg #[.int .i64 a0, .int .i64 a1, .string a2, .slice p3 a3.length j3, .slice p4 a4.length j4]) (by simp [results, Tryz.results66, go_sem, k100, k101, k102, k103, k104]) rfl ⟨_, _, rfl, ?_, ?_⟩
  · exact change_pack a0 a1 a2 a3 a4 _ _ Z3 Z4 ⟨(((((((Q3.out.frame (Same.set _ _ _ (by intro h; have := (i3_ _ h).1; omega))).frame (Same.set _ _ _ (by intro h; have := (i3_ _ h).1; omega))).frame (Same.set _ _ _ (by intro h; have := (i3_ _ h).1; omega))).frame (Same.set _ _ _ (by intro h; have := (i3_ _ h).1; omega))).frame (Same.set _ _ _ (by intro h; have := (i3_ _ h).1; omega))).frame (Same.set _ _ _ (by intro h; have := (i3_ _ h).1; omega))).frame (Same.set _ _ _ (by intro h; have := (i3_ _ h).1; omega))), (fun k z => ⟨by have := (i3_ k z).1; omega, by have := (i3_ k z).2; show _ < (World.heap _).size; simp only [setCell_size]; omega⟩), (((((((Q4.out.frame (Same.set _ _ _ (by intro h; have := (i4_ _ h).1; omega))).frame (Same.set _ _ _ (by intro h; have := (i4_ _ h).1; omega))).frame (Same.set _ _ _ (by intro h; have := (i4_ _ h).1; omega))).frame (Same.set _ _ _ (by intro h; have := (i4_ _ h).1; omega))).frame (Same.set _ _ _ (by intro h; have := (i4_ _ h).1; omega))).frame (Same.set _ _ _ (by intro h; have := (i4_ _ h).1; omega))).frame (Same.set _ _ _ (by intro h; have := (i4_ _ h).1; omega))), (fun k z => ⟨by have := (i4_ k z).1; omega, by have := (i4_ k z).2; show _ < (World.heap _).size; simp only [setCell_size]; omega⟩), d3_4, trivial⟩
  · exact (((((((B.out.setCell (p := ⟨w.heap.size + 1 + 1, 3, none⟩) (by show w.heap.size ≤ w.heap.size + 1 + 1; omega) _).setCell (p := ⟨w.heap.size + 1 + 1, 4, none⟩) (by show w.heap.size ≤ w.heap.size + 1 + 1; omega) _).setCell (p := ⟨w.heap.size + 1, 0, none⟩) (by show w.heap.size ≤ w.heap.size + 1; omega) _).setCell (p := ⟨w.heap.size + 1, 1, none⟩) (by show w.heap.size ≤ w.heap.size + 1; omega) _).setCell (p := ⟨w.heap.size + 1, 2, none⟩) (by show w.heap.size ≤ w.heap.size + 1; omega) _).setCell (p := ⟨w.heap.size + 1, 3, none⟩) (by show w.heap.size ≤ w.heap.size + 1; omega) _).setCell (p := ⟨w.heap.size + 1, 4, none⟩) (by show w.heap.size ≤ w.heap.size + 1; omega) _)
set_option maxRecDepth 100000 in
set_option maxHeartbeats 4000000 in
theorem toChangeS_at {S : Bs} (v : Value) (d : List ChangeT) (w : World) (hd : SlAt changeE S w d v) (hz : d.length + szL changeE d ≤ 1048576) :
    Calls Tryz.prog 34 #[v] w fun e w' => ∃ u, e = .returned u ∧ SlOwn changeE (Fresh w w') w' d u ∧ Below w.heap.size w w' := by
  obtain ⟨ao, cap, rfl⟩ := hd.sl
  have HD := Lib.hid hd; clear hd
  have HL := Lib.hid hz
  have hl : d.length ≤ 1048576 := by omega
  clear hz
  obtain ⟨C, hC, hmk⟩ := mkChange d.length hl w
  have HC := Lib.hid hC; clear hC
  go_enter Tryz.func34, Tryz.ntmps34
  go_wp2
  clear hmk
  go_loopw [4] (fun i wr => ∃ k : Nat, k ≤ d.length ∧ i = .int .i64 k ∧ Build changeE wr w.heap.size d.length (d.take k) ∧ Below w.heap.size w wr) (fun i _ => d.length - (intOf i).toNat)
  case atStart => exact ⟨0, Nat.zero_le _, rfl, Build.new _ _ _ _ HC.out, (Below.refl _ _).alloc (Nat.le_refl _) _⟩
  case round =>
    obtain ⟨k, hk, rfl, hR, hbel⟩ := hrel
    have HR := Lib.hid hR; clear hR
    have hsz := hbel.size
    by_cases hlt : k < d.length
    · obtain ⟨b, off, a0, a1, a2, a3, a4, v3, v4, rfl, _, hb0, hx, ⟨hc0, hc1, hc2, hc3, hc4⟩, s3, s4, _⟩ := change_row (HD.out.frame (Same.of_below' hbel)) hlt
      have HT : Hid (d.take (k + 1) = d.take k ++ [(a0, a1, a2, (a3, a4))]) := Lib.hid (by rw [List.take_succ_eq_append_getElem hlt, hx])
      have HK : Hid ((d.take k).length = k) := Lib.hid (by rw [List.length_take]; omega)
      have HZ : Hid (changeE.sz (a0, a1, a2, (a3, a4)) ≤ 1048576) := Lib.hid (by have h1 := szL_mem changeE (List.getElem_mem hlt); rw [hx] at h1; have := HL.out; omega)
      clear hx
      have HV3 := Lib.hid s3; clear s3
      have HV4 := Lib.hid s4; clear s4
      obtain ⟨o3, k3, rfl⟩ := HV3.out.sl
      obtain ⟨o4, k4, rfl⟩ := HV4.out.sl
      go_wp2_with fail
      refine (toChange_at a0 a1 a2 a3 a4 _ _ wr HV3.out HV4.out HZ.out).mono ?_
      rintro e w2 ⟨u3, u4, rfl, hq, hb2⟩
      have HR2 := Lib.hid (HR.out.below hb2)
      have B2 := Lib.hid (hbel.trans (hb2.mono hsz))
      have HQ := Lib.hid hq
      have HB := Lib.hid hb2
      clear hb2 hq hc0 hc1 hc2 hc3 hc4
      have hsl := change_sl HQ.out rfl
      obtain ⟨⟨p3, l3, j3, rfl⟩, ⟨p4, l4, j4, rfl⟩⟩ := hsl
      obtain ⟨x0, c0⟩ := HR2.out.cell (k := k) (u := 0) hlt (by decide)
      have c0 : w2.cell? ⟨w.heap.size, k * 5, none⟩ = some x0 := c0
      have f0 := HR2.out.soft (k * 5)
      obtain ⟨x1, c1⟩ := HR2.out.cell (k := k) (u := 1) hlt (by decide)
      have c1 : w2.cell? ⟨w.heap.size, k * 5 + 1, none⟩ = some x1 := c1
      have f1 := HR2.out.soft (k * 5 + 1)
      obtain ⟨x2, c2⟩ := HR2.out.cell (k := k) (u := 2) hlt (by decide)
      have c2 : w2.cell? ⟨w.heap.size, k * 5 + 2, none⟩ = some x2 := c2
      have f2 := HR2.out.soft (k * 5 + 2)
      obtain ⟨x3, c3⟩ := HR2.out.cell (k := k) (u := 3) hlt (by decide)
      have c3 : w2.cell? ⟨w.heap.size, k * 5 + 3, none⟩ = some x3 := c3
      have f3 := HR2.out.soft (k * 5 + 3)
      obtain ⟨x4, c4⟩ := HR2.out.cell (k := k) (u := 4) hlt (by decide)
      have c4 : w2.cell? ⟨w.heap.size, k * 5 + 4, none⟩ = some x4 := c4
      have f4 := HR2.out.soft (k * 5 + 4)
      go_wp2
      go_roundw
      case rel => exact ⟨k + 1, by omega, by go_num, by rw [HT.out]; exact HR.out.row (o := k * 5) (cs := [.int .i64 a0, .int .i64 a1, .string a2, .slice p3 l3 j3, .slice p4 l4 j4]) (by rw [HK.out]; exact hlt) (by rw [HK.out]; rfl) HB.out HQ.out, (((((B2.out.setCell (Nat.le_refl _) _).setCell (Nat.le_refl _) _).setCell (Nat.le_refl _) _).setCell (Nat.le_refl _) _).setCell (Nat.le_refl _) _)⟩
      case measure => simp [intOf]; omega
    · have e : d.take k = d := List.take_of_length_le (by omega)
      rw [e] at HR
      clear e
      go_wp2
      go_ret
      exact ⟨_, rfl, HR.out.own, hbel⟩
end Go.Proofs.YtmanlnlhpgdbpaaGreat
/- The helpers of the laws: copies. -/
namespace Go.Proofs.YtmanlnlhpgdbpaaGreat
open Go.RowKit
attribute [local go_sem ↓] Go.wp_at_zero Go.wp_at_succ

theorem Tryz.infoTChanges : (Tryz.prog.info? 29).map (fun i => (i.zero, i.size, i.bytes)) = some (some (.agg #[.int .i64 0, .slice none 0 0]), 2, 32) := by kernel_rfl
set_option maxRecDepth 100000 in
set_option maxHeartbeats 4000000 in
theorem toChanges_at {S : Bs} (a0 : Int) (a1 : (List ChangeT)) (v1 : Value) (w : World) (h1 : SlAt changeE S w a1 v1) (hz : changesE.sz (a0, a1) ≤ 1048576) :
    Calls Tryz.prog 9 #[.agg #[.int .i64 a0, v1]] w fun e w' => ∃ u1, e = .returned (.agg #[.int .i64 a0, u1]) ∧ changesE.Own (Fresh w w') w' (a0, a1) [.int .i64 a0, u1] ∧ Below w.heap.size w w' := by
  have HE : changesE.sz (a0, a1) = 0 + ((a1.length + szL changeE a1)) := rfl
  rw [HE] at hz
  have C1 : Hid (∀ W : World, Below w.heap.size w W → Calls Tryz.prog 34 #[v1] W fun e w' => ∃ u, e = .returned u ∧ SlOwn changeE (Fresh W w') w' a1 u ∧ Below W.heap.size W w') := Lib.hid (fun W b => toChangeS_at v1 a1 W (h1.frame (Same.of_below' b)) (by omega))
  obtain ⟨o1, k1, rfl⟩ := h1.sl
  clear hz HE h1
  go_enter Tryz.func9, Tryz.ntmps9
  go_wp2_with fail
  refine calls_by (fun W => Below w.heap.size w W ∧ Blk W w.heap.size [.int .i64 a0, .slice o1 a1.length k1] ∧ Blk W (w.heap.size + 1) [.int .i64 0, .slice none 0 0] ∧ Blk W (w.heap.size + 1 + 1) [.int .i64 a0, .slice none 0 0]) ⟨more' (more' (more' (Below.refl _ _) _) _) _, ((Blk.new _ _ _).alloc _).alloc _, (blk_at _ _ _ (by simp)).alloc _, blk_at _ _ _ (by simp)⟩ ?_
  rintro W0 ⟨b0, t0, r0, s0⟩
  have hn : w.heap.size + 1 + 1 < W0.heap.size := s0.lt
  refine (C1.out W0 b0).mono ?_
  rintro e y1 ⟨u1, rfl, q1, hb⟩
  obtain ⟨p1, j1, rfl⟩ := q1.at.sl
  have T := Lib.hid (t0.below hb); have Rr := Lib.hid (r0.below hb); have U := Lib.hid (s0.below hb); have B := Lib.hid (b0.trans (hb.mono b0.size)); have hs1 := hb.size
  have Q1 := Lib.hid q1
  clear t0 r0 s0 b0 hb q1 C1
  have m0 := T.out.cell 0 rfl
  have c0 := U.out.cell 0 rfl
  have f0 := U.out.soft 0
  have m1 := T.out.cell 1 rfl
  have c1 := U.out.cell 1 rfl
  have f1 := U.out.soft 1
  have TE := (((Rr.out.far (R := w.heap.size + 1 + 1) (j := 1) (by omega) (.slice p1 a1.length j1)).set 0 (.int .i64 a0)).set 1 (.slice p1 a1.length j1))
  have d0 := Rr.out.cell 0 rfl
  have g0 := Rr.out.soft 0
  have k100 := TE.cell 0 rfl
  have d1 := Rr.out.cell 1 rfl
  have g1 := Rr.out.soft 1
  have k101 := TE.cell 1 rfl
  clear TE
  go_wp2_with fail
  refine bodyPost_ret (v := .agg #[.int .i64 a0, .slice p1 a1.length j1]) (by simp [results, Tryz.results9, go_sem, k100, k101]) rfl ⟨_, rfl, ?_, ?_⟩
  · exact changes_pack a0 a1 _ (Fresh W0 y1) ⟨(((Q1.out.frame (Same.set _ _ _ (by intro h; have := h.1; omega))).frame (Same.set _ _ _ (by intro h; have := h.1; omega))).frame (Same.set _ _ _ (by intro h; have := h.1; omega))), (fun k z => ⟨by have := z.1; omega, by have := z.2; show _ < (World.heap _).size; simp only [setCell_size]; omega⟩), trivial⟩
  · exact (((B.out.setCell (p := ⟨w.heap.size + 1 + 1, 1, none⟩) (by show w.heap.size ≤ w.heap.size + 1 + 1; omega) _).setCell (p := ⟨w.heap.size + 1, 0, none⟩) (by show w.heap.size ≤ w.heap.size + 1; omega) _).setCell (p := ⟨w.heap.size + 1, 1, none⟩) (by show w.heap.size ≤ w.heap.size + 1; omega) _)
end Go.Proofs.YtmanlnlhpgdbpaaGreat
/- The helpers of the laws: comparisons. -/
namespace Go.Proofs.YtmanlnlhpgdbpaaGreat
open Go.RowKit
attribute [local go_sem ↓] Go.wp_at_zero Go.wp_at_succ

set_option maxRecDepth 100000 in
set_option maxHeartbeats 4000000 in
theorem eqRdn_at  (w0 : World) (a0 : ByteArray) (a1 : ByteArray)   (w : World) (hB : Below w0.heap.size w0 w)    :
    Calls Tryz.prog 49 #[.agg #[.string a0, .string a1], .agg #[.string a0, .string a1]] w fun e w' => e = .returned (.bool true) ∧ Below w0.heap.size w0 w' := by
  have hk0 : (a0.toList == a0.toList) = true := by simp
  have hk1 : (a1.toList == a1.toList) = true := by simp
  have HB := Lib.hid hB
  clear hB
  go_enter Tryz.func49, Tryz.ntmps49
  go_wp2
  go_ret
  exact ⟨rfl, more' (more' HB.out _) _⟩
set_option maxRecDepth 100000 in
set_option maxHeartbeats 4000000 in
theorem eqRdnS_at {S S' : Bs} (v u : Value) (d : List RdnT) (w : World) (hd : SlAt rdnE S w d v) (hu : SlAt rdnE S' w d u) (hz : d.length + szL rdnE d ≤ 1048576) :
    Calls Tryz.prog 19 #[v, u] w fun e w' => e = .returned (.bool true) ∧ Below w.heap.size w w' := by
  obtain ⟨ao, ca, rfl⟩ := hd.sl
  obtain ⟨bo, cb, rfl⟩ := hu.sl
  have HA := Lib.hid hd; have HB := Lib.hid hu; clear hd hu
  have HL := Lib.hid hz
  have hl : d.length ≤ 1048576 := by omega
  clear hz
  go_enter Tryz.func19, Tryz.ntmps19
  go_wp2
  go_loopw [5] (fun i wr => ∃ k : Nat, k ≤ d.length ∧ i = .int .i64 k ∧ Below w.heap.size w wr) (fun i _ => d.length - (intOf i).toNat)
  case atStart => exact ⟨0, Nat.zero_le _, rfl, Below.refl _ _⟩
  case round =>
    obtain ⟨k, hk, rfl, hbel⟩ := hrel
    have hsz := hbel.size
    by_cases hlt : k < d.length
    · obtain ⟨p, off, a0, a1, rfl, _, hp0, hx, hc, _⟩ := rdn_row (HA.out.frame (Same.of_below' hbel)) hlt
      obtain ⟨q, off', x0, x1, rfl, _, hq0, hx', hd, _⟩ := rdn_row (HB.out.frame (Same.of_below' hbel)) hlt
      have hxx := hx.symm.trans hx'
      simp only [Prod.mk.injEq] at hxx
      obtain ⟨rfl, rfl⟩ := hxx
      have HZ : Hid (rdnE.sz (a0, a1) ≤ 1048576) := Lib.hid (by have h1 := szL_mem rdnE (List.getElem_mem hlt); rw [hx] at h1; have := HL.out; omega)
      clear hx hx'
      have C : Hid (∀ W : World, Below wr.heap.size wr W → Calls Tryz.prog 49 #[.agg #[.string a0, .string a1], .agg #[.string a0, .string a1]] W fun e w' => e = .returned (.bool true) ∧ Below wr.heap.size wr w') := Lib.hid (fun W b => eqRdn_at wr a0 a1 W b   )
      have SK : Hid (∀ W : World, Below wr.heap.size wr W → (Below wr.heap.size wr W ∧ (W.cell? ⟨p, off + k * 2, none⟩ = some (.string a0) ∧ W.cell? ⟨p, off + k * 2 + 1, none⟩ = some (.string a1)) ∧ (W.cell? ⟨q, off' + k * 2, none⟩ = some (.string a0) ∧ W.cell? ⟨q, off' + k * 2 + 1, none⟩ = some (.string a1)))) :=
        Lib.hid (fun W h => ⟨h, ⟨(h.cell (p := ⟨p, _, none⟩) hp0).trans hc.1, (h.cell (p := ⟨p, _, none⟩) hp0).trans hc.2⟩, ⟨(h.cell (p := ⟨q, _, none⟩) hq0).trans hd.1, (h.cell (p := ⟨q, _, none⟩) hq0).trans hd.2⟩⟩)
      have hbd : Below wr.heap.size wr wr.drew := (Below.refl _ _).drew
      have hb0 : Below wr.heap.size wr wr := Below.refl _ _
      have HBl := Lib.hid hbel
      clear hc hd hbel
      have g1 : (0 : Int) ≤ (k : Int) := by omega
      have g2 : (k : Int) < (d.length : Int) := by omega
      go_wp2_with fail
      go_region_held3 (fun W => Below wr.heap.size wr W ∧ (W.cell? ⟨p, off + k * 2, none⟩ = some (.string a0) ∧ W.cell? ⟨p, off + k * 2 + 1, none⟩ = some (.string a1)) ∧ (W.cell? ⟨q, off' + k * 2, none⟩ = some (.string a0) ∧ W.cell? ⟨q, off' + k * 2 + 1, none⟩ = some (.string a1)))
        (exact SK.out _ (by assumption))
        (first | (go_at_call 49; refine (C.out _ (by assumption)).mono ?_; rintro e w2 ⟨rfl, hb2⟩) | (fail "none"))
      all_goals
        go_wp2
        go_roundw
        case rel => exact ⟨k + 1, by omega, by go_num, HBl.out.trans (hb2.mono HBl.out.size)⟩
        case measure => simp [intOf]; omega
    · go_wp2
      go_ret
      exact ⟨rfl, hbel⟩
end Go.Proofs.YtmanlnlhpgdbpaaGreat
/- The helpers of the laws: comparisons. -/
namespace Go.Proofs.YtmanlnlhpgdbpaaGreat
open Go.RowKit
attribute [local go_sem ↓] Go.wp_at_zero Go.wp_at_succ

set_option maxRecDepth 100000 in
set_option maxHeartbeats 4000000 in
theorem eqStringS_at {S S' : Bs} (v u : Value) (d : List ByteArray) (w : World) (hd : SlAt strE S w d v) (hu : SlAt strE S' w d u) (hz : d.length + szL strE d ≤ 1048576) :
    Calls Tryz.prog 100 #[v, u] w fun e w' => e = .returned (.bool true) ∧ Below w.heap.size w w' := by
  obtain ⟨ao, ca, rfl⟩ := hd.sl
  obtain ⟨bo, cb, rfl⟩ := hu.sl
  have HA := Lib.hid hd; have HB := Lib.hid hu; clear hd hu
  have HL := Lib.hid hz
  have hl : d.length ≤ 1048576 := by omega
  clear hz
  go_enter Tryz.func100, Tryz.ntmps100
  go_wp2
  go_loopw [5] (fun i wr => ∃ k : Nat, k ≤ d.length ∧ i = .int .i64 k ∧ Below w.heap.size w wr) (fun i _ => d.length - (intOf i).toNat)
  case atStart => exact ⟨0, Nat.zero_le _, rfl, Below.refl _ _⟩
  case round =>
    obtain ⟨k, hk, rfl, hbel⟩ := hrel
    have hsz := hbel.size
    by_cases hlt : k < d.length
    · obtain ⟨p, off, A, rfl, _, hp0, hx, c1⟩ := str_row (HA.out.frame (Same.of_below' hbel)) hlt
      obtain ⟨q, off', A', rfl, _, hq0, hx', c2⟩ := str_row (HB.out.frame (Same.of_below' hbel)) hlt
      obtain rfl : A = A' := hx.symm.trans hx'
      clear hx hx'
      have hkk : (A.toList == A.toList) = true := by simp
      have g1 : (0 : Int) ≤ (k : Int) := by omega
      have g2 : (k : Int) < (d.length : Int) := by omega
      have hbd := hbel.drew
      have c1' : wr.drew.cell? ⟨p, off + k, none⟩ = some (.string A) := c1
      have c2' : wr.drew.cell? ⟨q, off' + k, none⟩ = some (.string A) := c2
      go_wp2_with fail
      go_region_held3 (fun W => Below w.heap.size w W ∧ W.cell? ⟨p, off + k, none⟩ = some (.string A) ∧ W.cell? ⟨q, off' + k, none⟩ = some (.string A))
        (first | exact ⟨hbel, c1, c2⟩ | exact ⟨hbd, c1', c2'⟩)
        (fail "none")
      all_goals
        go_wp2
        go_roundw
        case rel => exact ⟨k + 1, by omega, by go_num, by first | exact hbel | exact hbd⟩
        case measure => simp [intOf]; omega
    · go_wp2
      go_ret
      exact ⟨rfl, hbel⟩
end Go.Proofs.YtmanlnlhpgdbpaaGreat
/- The helpers of the laws: comparisons. -/
namespace Go.Proofs.YtmanlnlhpgdbpaaGreat
open Go.RowKit
attribute [local go_sem ↓] Go.wp_at_zero Go.wp_at_succ

set_option maxRecDepth 100000 in
set_option maxHeartbeats 4000000 in
theorem eqAttr_at {S S' : Bs} (w0 : World) (a0 : ByteArray) (a1 : (List ByteArray)) (v1 : Value) (u1 : Value) (w : World) (hB : Below w0.heap.size w0 w) (h1 : SlAt strE S w0 a1 v1) (g1 : SlAt strE S' w0 a1 u1) (hz : attrE.sz (a0, a1) ≤ 1048576) :
    Calls Tryz.prog 79 #[.agg #[.string a0, v1], .agg #[.string a0, u1]] w fun e w' => e = .returned (.bool true) ∧ Below w0.heap.size w0 w' := by
  have HE : attrE.sz (a0, a1) = a0.size + ((a1.length + szL strE a1)) := rfl
  rw [HE] at hz
  have hk0 : (a0.toList == a0.toList) = true := by simp
  have C1 : Hid (∀ W : World, Below w0.heap.size w0 W → Calls Tryz.prog 100 #[v1, u1] W fun e w' => e = .returned (.bool true) ∧ Below W.heap.size W w') := Lib.hid (fun W b => eqStringS_at v1 u1 a1 W (h1.frame (Same.of_below' b)) (g1.frame (Same.of_below' b)) (by omega))
  obtain ⟨o1, k1, rfl⟩ := h1.sl
  obtain ⟨p1, j1, rfl⟩ := g1.sl
  clear hz HE h1 g1
  have HB := Lib.hid hB
  clear hB
  go_enter Tryz.func79, Tryz.ntmps79
  go_wp2_with fail
  refine calls_by (fun W => Below w0.heap.size w0 W ∧ Blk W w.heap.size [.string a0, .slice o1 a1.length k1] ∧ Blk W (w.heap.size + 1) [.string a0, .slice p1 a1.length j1]) ⟨more' (more' HB.out _) _, (Blk.new _ _ _).alloc _, blk_at _ _ _ (by simp)⟩ ?_
  rintro W1 ⟨b1, x1, y1⟩
  have X1 := Lib.hid x1; have Y1 := Lib.hid y1; clear x1 y1
  refine (C1.out W1 b1).mono ?_
  rintro e W2 ⟨rfl, hb⟩
  have X2 := Lib.hid (X1.out.below hb); have Y2 := Lib.hid (Y1.out.below hb); have b2 := b1.trans (hb.mono b1.size)
  clear X1 Y1 hb b1 C1
  have m0 := X2.out.cell 0 rfl
  have n0 := Y2.out.cell 0 rfl
  have m1 := X2.out.cell 1 rfl
  have n1 := Y2.out.cell 1 rfl
  go_wp2
  go_ret
  exact ⟨rfl, b2⟩
set_option maxRecDepth 100000 in
set_option maxHeartbeats 4000000 in
theorem eqAttrS_at {S S' : Bs} (v u : Value) (d : List AttrT) (w : World) (hd : SlAt attrE S w d v) (hu : SlAt attrE S' w d u) (hz : d.length + szL attrE d ≤ 1048576) :
    Calls Tryz.prog 50 #[v, u] w fun e w' => e = .returned (.bool true) ∧ Below w.heap.size w w' := by
  obtain ⟨ao, ca, rfl⟩ := hd.sl
  obtain ⟨bo, cb, rfl⟩ := hu.sl
  have HA := Lib.hid hd; have HB := Lib.hid hu; clear hd hu
  have HL := Lib.hid hz
  have hl : d.length ≤ 1048576 := by omega
  clear hz
  go_enter Tryz.func50, Tryz.ntmps50
  go_wp2
  go_loopw [5] (fun i wr => ∃ k : Nat, k ≤ d.length ∧ i = .int .i64 k ∧ Below w.heap.size w wr) (fun i _ => d.length - (intOf i).toNat)
  case atStart => exact ⟨0, Nat.zero_le _, rfl, Below.refl _ _⟩
  case round =>
    obtain ⟨k, hk, rfl, hbel⟩ := hrel
    have hsz := hbel.size
    by_cases hlt : k < d.length
    · obtain ⟨p, off, a0, a1, v1, rfl, _, hp0, hx, hc, s1, _⟩ := attr_row (HA.out.frame (Same.of_below' hbel)) hlt
      obtain ⟨q, off', x0, x1, u1, rfl, _, hq0, hx', hd, t1, _⟩ := attr_row (HB.out.frame (Same.of_below' hbel)) hlt
      have hxx := hx.symm.trans hx'
      simp only [Prod.mk.injEq] at hxx
      obtain ⟨rfl, rfl⟩ := hxx
      have HZ : Hid (attrE.sz (a0, a1) ≤ 1048576) := Lib.hid (by have h1 := szL_mem attrE (List.getElem_mem hlt); rw [hx] at h1; have := HL.out; omega)
      clear hx hx'
      have C : Hid (∀ W : World, Below wr.heap.size wr W → Calls Tryz.prog 79 #[.agg #[.string a0, v1], .agg #[.string a0, u1]] W fun e w' => e = .returned (.bool true) ∧ Below wr.heap.size wr w') := Lib.hid (fun W b => eqAttr_at wr a0 a1 v1 u1 W b s1 t1 HZ.out)
      clear s1 t1 HZ
      have SK : Hid (∀ W : World, Below wr.heap.size wr W → (Below wr.heap.size wr W ∧ (W.cell? ⟨p, off + k * 2, none⟩ = some (.string a0) ∧ W.cell? ⟨p, off + k * 2 + 1, none⟩ = some (v1)) ∧ (W.cell? ⟨q, off' + k * 2, none⟩ = some (.string a0) ∧ W.cell? ⟨q, off' + k * 2 + 1, none⟩ = some (u1)))) :=
        Lib.hid (fun W h => ⟨h, ⟨(h.cell (p := ⟨p, _, none⟩) hp0).trans hc.1, (h.cell (p := ⟨p, _, none⟩) hp0).trans hc.2⟩, ⟨(h.cell (p := ⟨q, _, none⟩) hq0).trans hd.1, (h.cell (p := ⟨q, _, none⟩) hq0).trans hd.2⟩⟩)
      have hbd : Below wr.heap.size wr wr.drew := (Below.refl _ _).drew
      have hb0 : Below wr.heap.size wr wr := Below.refl _ _
      have HBl := Lib.hid hbel
      clear hc hd hbel
      have g1 : (0 : Int) ≤ (k : Int) := by omega
      have g2 : (k : Int) < (d.length : Int) := by omega
      go_wp2_with fail
      go_region_held3 (fun W => Below wr.heap.size wr W ∧ (W.cell? ⟨p, off + k * 2, none⟩ = some (.string a0) ∧ W.cell? ⟨p, off + k * 2 + 1, none⟩ = some (v1)) ∧ (W.cell? ⟨q, off' + k * 2, none⟩ = some (.string a0) ∧ W.cell? ⟨q, off' + k * 2 + 1, none⟩ = some (u1)))
        (exact SK.out _ (by assumption))
        (first | (go_at_call 79; refine (C.out _ (by assumption)).mono ?_; rintro e w2 ⟨rfl, hb2⟩) | (fail "none"))
      all_goals
        go_wp2
        go_roundw
        case rel => exact ⟨k + 1, by omega, by go_num, HBl.out.trans (hb2.mono HBl.out.size)⟩
        case measure => simp [intOf]; omega
    · go_wp2
      go_ret
      exact ⟨rfl, hbel⟩
end Go.Proofs.YtmanlnlhpgdbpaaGreat
/- The helpers of the laws: comparisons. -/
namespace Go.Proofs.YtmanlnlhpgdbpaaGreat
open Go.RowKit
attribute [local go_sem ↓] Go.wp_at_zero Go.wp_at_succ

set_option maxRecDepth 100000 in
set_option maxHeartbeats 4000000 in
theorem eqEntry_at {S S' : Bs} (w0 : World) (a0 : (List RdnT)) (a1 : (List AttrT)) (v0 v1 : Value) (u0 u1 : Value) (w : World) (hB : Below w0.heap.size w0 w) (h0 : SlAt rdnE S w0 a0 v0) (h1 : SlAt attrE S w0 a1 v1) (g0 : SlAt rdnE S' w0 a0 u0) (g1 : SlAt attrE S' w0 a1 u1) (hz : entryE.sz (a0, a1) ≤ 1048576) :
    Calls Tryz.prog 20 #[.agg #[v0, v1], .agg #[u0, u1]] w fun e w' => e = .returned (.bool true) ∧ Below w0.heap.size w0 w' := by
  have HE : entryE.sz (a0, a1) = (a0.length + szL rdnE a0) + ((a1.length + szL attrE a1)) := rfl
  rw [HE] at hz
  have C0 : Hid (∀ W : World, Below w0.heap.size w0 W → Calls Tryz.prog 19 #[v0, u0] W fun e w' => e = .returned (.bool true) ∧ Below W.heap.size W w') := Lib.hid (fun W b => eqRdnS_at v0 u0 a0 W (h0.frame (Same.of_below' b)) (g0.frame (Same.of_below' b)) (by omega))
  have C1 : Hid (∀ W : World, Below w0.heap.size w0 W → Calls Tryz.prog 50 #[v1, u1] W fun e w' => e = .returned (.bool true) ∧ Below W.heap.size W w') := Lib.hid (fun W b => eqAttrS_at v1 u1 a1 W (h1.frame (Same.of_below' b)) (g1.frame (Same.of_below' b)) (by omega))
  obtain ⟨o0, k0, rfl⟩ := h0.sl
  obtain ⟨p0, j0, rfl⟩ := g0.sl
  obtain ⟨o1, k1, rfl⟩ := h1.sl
  obtain ⟨p1, j1, rfl⟩ := g1.sl
  clear hz HE h0 g0 h1 g1
  have HB := Lib.hid hB
  clear hB
  go_enter Tryz.func20, Tryz.ntmps20
  go_wp2_with fail
  refine calls_by (fun W => Below w0.heap.size w0 W ∧ Blk W w.heap.size [.slice o0 a0.length k0, .slice o1 a1.length k1] ∧ Blk W (w.heap.size + 1) [.slice p0 a0.length j0, .slice p1 a1.length j1]) ⟨more' (more' HB.out _) _, (Blk.new _ _ _).alloc _, blk_at _ _ _ (by simp)⟩ ?_
  rintro W1 ⟨b1, x1, y1⟩
  have X1 := Lib.hid x1; have Y1 := Lib.hid y1; clear x1 y1
  refine (C0.out W1 b1).mono ?_
  rintro e W2 ⟨rfl, hb⟩
  have X2 := Lib.hid (X1.out.below hb); have Y2 := Lib.hid (Y1.out.below hb); have b2 := b1.trans (hb.mono b1.size)
  clear X1 Y1 hb b1 C0
  have m0 := X2.out.cell 0 rfl
  have n0 := Y2.out.cell 0 rfl
  have m1 := X2.out.cell 1 rfl
  have n1 := Y2.out.cell 1 rfl
  go_wp2_with fail
  refine (C1.out W2 b2).mono ?_
  rintro e W3 ⟨rfl, hb⟩
  have X3 := Lib.hid (X2.out.below hb); have Y3 := Lib.hid (Y2.out.below hb); have b3 := b2.trans (hb.mono b2.size)
  clear X2 Y2 hb b2 C1 m0 n0 m1 n1
  have m0 := X3.out.cell 0 rfl
  have n0 := Y3.out.cell 0 rfl
  have m1 := X3.out.cell 1 rfl
  have n1 := Y3.out.cell 1 rfl
  go_wp2
  go_ret
  exact ⟨rfl, b3⟩
end Go.Proofs.YtmanlnlhpgdbpaaGreat
/- The helpers of the laws: comparisons. -/
namespace Go.Proofs.YtmanlnlhpgdbpaaGreat
open Go.RowKit
attribute [local go_sem ↓] Go.wp_at_zero Go.wp_at_succ

set_option maxRecDepth 100000 in
set_option maxHeartbeats 4000000 in
theorem eqChange_at {S S' : Bs} (w0 : World) (a0 : Int) (a1 : Int) (a2 : ByteArray) (a3 : (List RdnT)) (a4 : (List AttrT)) (v3 v4 : Value) (u3 u4 : Value) (w : World) (hB : Below w0.heap.size w0 w) (h3 : SlAt rdnE S w0 a3 v3) (h4 : SlAt attrE S w0 a4 v4) (g3 : SlAt rdnE S' w0 a3 u3) (g4 : SlAt attrE S' w0 a4 u4) (hz : changeE.sz (a0, a1, a2, (a3, a4)) ≤ 1048576) :
    Calls Tryz.prog 69 #[.agg #[.int .i64 a0, .int .i64 a1, .string a2, v3, v4], .agg #[.int .i64 a0, .int .i64 a1, .string a2, u3, u4]] w fun e w' => e = .returned (.bool true) ∧ Below w0.heap.size w0 w' := by
  have HE : changeE.sz (a0, a1, a2, (a3, a4)) = 0 + (0 + (a2.size + (entryE.sz (a3, a4)))) := rfl
  rw [HE] at hz
  have hk0 : (a0 == a0) = true := by simp
  have hj0 : (a0 != a0) = false := by simp
  have hk1 : (a1 == a1) = true := by simp
  have hj1 : (a1 != a1) = false := by simp
  have hk2 : (a2.toList == a2.toList) = true := by simp
  have C3 : Hid (∀ W : World, Below w0.heap.size w0 W → Calls Tryz.prog 20 #[.agg #[v3, v4], .agg #[u3, u4]] W fun e w' => e = .returned (.bool true) ∧ Below W.heap.size W w') := Lib.hid (fun W b => eqEntry_at W a3 a4 v3 v4 u3 u4 W (Below.refl _ _) (h3.frame (Same.of_below' b)) (h4.frame (Same.of_below' b)) (g3.frame (Same.of_below' b)) (g4.frame (Same.of_below' b)) (by omega))
  obtain ⟨o3, k3, rfl⟩ := h3.sl
  obtain ⟨p3, j3, rfl⟩ := g3.sl
  obtain ⟨o4, k4, rfl⟩ := h4.sl
  obtain ⟨p4, j4, rfl⟩ := g4.sl
  clear hz HE h3 g3 h4 g4
  have HB := Lib.hid hB
  clear hB
  go_enter Tryz.func69, Tryz.ntmps69
  go_wp2_with fail
  refine calls_by (fun W => Below w0.heap.size w0 W ∧ Blk W w.heap.size [.int .i64 a0, .int .i64 a1, .string a2, .slice o3 a3.length k3, .slice o4 a4.length k4] ∧ Blk W (w.heap.size + 1) [.int .i64 a0, .int .i64 a1, .string a2, .slice p3 a3.length j3, .slice p4 a4.length j4]) ⟨more' (more' HB.out _) _, (Blk.new _ _ _).alloc _, blk_at _ _ _ (by simp)⟩ ?_
  rintro W1 ⟨b1, x1, y1⟩
  have X1 := Lib.hid x1; have Y1 := Lib.hid y1; clear x1 y1
  refine (C3.out W1 b1).mono ?_
  rintro e W2 ⟨rfl, hb⟩
  have X2 := Lib.hid (X1.out.below hb); have Y2 := Lib.hid (Y1.out.below hb); have b2 := b1.trans (hb.mono b1.size)
  clear X1 Y1 hb b1 C3
  have m0 := X2.out.cell 0 rfl
  have n0 := Y2.out.cell 0 rfl
  have m1 := X2.out.cell 1 rfl
  have n1 := Y2.out.cell 1 rfl
  have m2 := X2.out.cell 2 rfl
  have n2 := Y2.out.cell 2 rfl
  have m3 := X2.out.cell 3 rfl
  have n3 := Y2.out.cell 3 rfl
  have m4 := X2.out.cell 4 rfl
  have n4 := Y2.out.cell 4 rfl
  go_wp2
  go_ret
  exact ⟨rfl, b2⟩
set_option maxRecDepth 100000 in
set_option maxHeartbeats 4000000 in
theorem eqChangeS_at {S S' : Bs} (v u : Value) (d : List ChangeT) (w : World) (hd : SlAt changeE S w d v) (hu : SlAt changeE S' w d u) (hz : d.length + szL changeE d ≤ 1048576) :
    Calls Tryz.prog 38 #[v, u] w fun e w' => e = .returned (.bool true) ∧ Below w.heap.size w w' := by
  obtain ⟨ao, ca, rfl⟩ := hd.sl
  obtain ⟨bo, cb, rfl⟩ := hu.sl
  have HA := Lib.hid hd; have HB := Lib.hid hu; clear hd hu
  have HL := Lib.hid hz
  have hl : d.length ≤ 1048576 := by omega
  clear hz
  go_enter Tryz.func38, Tryz.ntmps38
  go_wp2
  go_loopw [5] (fun i wr => ∃ k : Nat, k ≤ d.length ∧ i = .int .i64 k ∧ Below w.heap.size w wr) (fun i _ => d.length - (intOf i).toNat)
  case atStart => exact ⟨0, Nat.zero_le _, rfl, Below.refl _ _⟩
  case round =>
    obtain ⟨k, hk, rfl, hbel⟩ := hrel
    have hsz := hbel.size
    by_cases hlt : k < d.length
    · obtain ⟨p, off, a0, a1, a2, a3, a4, v3, v4, rfl, _, hp0, hx, hc, s3, s4, _⟩ := change_row (HA.out.frame (Same.of_below' hbel)) hlt
      obtain ⟨q, off', x0, x1, x2, x3, x4, u3, u4, rfl, _, hq0, hx', hd, t3, t4, _⟩ := change_row (HB.out.frame (Same.of_below' hbel)) hlt
      have hxx := hx.symm.trans hx'
      simp only [Prod.mk.injEq] at hxx
      obtain ⟨rfl, rfl, rfl, ⟨rfl, rfl⟩⟩ := hxx
      have HZ : Hid (changeE.sz (a0, a1, a2, (a3, a4)) ≤ 1048576) := Lib.hid (by have h1 := szL_mem changeE (List.getElem_mem hlt); rw [hx] at h1; have := HL.out; omega)
      clear hx hx'
      have C : Hid (∀ W : World, Below wr.heap.size wr W → Calls Tryz.prog 69 #[.agg #[.int .i64 a0, .int .i64 a1, .string a2, v3, v4], .agg #[.int .i64 a0, .int .i64 a1, .string a2, u3, u4]] W fun e w' => e = .returned (.bool true) ∧ Below wr.heap.size wr w') := Lib.hid (fun W b => eqChange_at wr a0 a1 a2 a3 a4 v3 v4 u3 u4 W b s3 s4 t3 t4 HZ.out)
      clear s3 t3 s4 t4 HZ
      have SK : Hid (∀ W : World, Below wr.heap.size wr W → (Below wr.heap.size wr W ∧ (W.cell? ⟨p, off + k * 5, none⟩ = some (.int .i64 a0) ∧ W.cell? ⟨p, off + k * 5 + 1, none⟩ = some (.int .i64 a1) ∧ W.cell? ⟨p, off + k * 5 + 2, none⟩ = some (.string a2) ∧ W.cell? ⟨p, off + k * 5 + 3, none⟩ = some (v3) ∧ W.cell? ⟨p, off + k * 5 + 4, none⟩ = some (v4)) ∧ (W.cell? ⟨q, off' + k * 5, none⟩ = some (.int .i64 a0) ∧ W.cell? ⟨q, off' + k * 5 + 1, none⟩ = some (.int .i64 a1) ∧ W.cell? ⟨q, off' + k * 5 + 2, none⟩ = some (.string a2) ∧ W.cell? ⟨q, off' + k * 5 + 3, none⟩ = some (u3) ∧ W.cell? ⟨q, off' + k * 5 + 4, none⟩ = some (u4)))) :=
        Lib.hid (fun W h => ⟨h, ⟨(h.cell (p := ⟨p, _, none⟩) hp0).trans hc.1, (h.cell (p := ⟨p, _, none⟩) hp0).trans hc.2.1, (h.cell (p := ⟨p, _, none⟩) hp0).trans hc.2.2.1, (h.cell (p := ⟨p, _, none⟩) hp0).trans hc.2.2.2.1, (h.cell (p := ⟨p, _, none⟩) hp0).trans hc.2.2.2.2⟩, ⟨(h.cell (p := ⟨q, _, none⟩) hq0).trans hd.1, (h.cell (p := ⟨q, _, none⟩) hq0).trans hd.2.1, (h.cell (p := ⟨q, _, none⟩) hq0).trans hd.2.2.1, (h.cell (p := ⟨q, _, none⟩) hq0).trans hd.2.2.2.1, (h.cell (p := ⟨q, _, none⟩) hq0).trans hd.2.2.2.2⟩⟩)
      have hbd : Below wr.heap.size wr wr.drew := (Below.refl _ _).drew
      have hb0 : Below wr.heap.size wr wr := Below.refl _ _
      have HBl := Lib.hid hbel
      clear hc hd hbel
      have g1 : (0 : Int) ≤ (k : Int) := by omega
      have g2 : (k : Int) < (d.length : Int) := by omega
      go_wp2_with fail
      go_region_held3 (fun W => Below wr.heap.size wr W ∧ (W.cell? ⟨p, off + k * 5, none⟩ = some (.int .i64 a0) ∧ W.cell? ⟨p, off + k * 5 + 1, none⟩ = some (.int .i64 a1) ∧ W.cell? ⟨p, off + k * 5 + 2, none⟩ = some (.string a2) ∧ W.cell? ⟨p, off + k * 5 + 3, none⟩ = some (v3) ∧ W.cell? ⟨p, off + k * 5 + 4, none⟩ = some (v4)) ∧ (W.cell? ⟨q, off' + k * 5, none⟩ = some (.int .i64 a0) ∧ W.cell? ⟨q, off' + k * 5 + 1, none⟩ = some (.int .i64 a1) ∧ W.cell? ⟨q, off' + k * 5 + 2, none⟩ = some (.string a2) ∧ W.cell? ⟨q, off' + k * 5 + 3, none⟩ = some (u3) ∧ W.cell? ⟨q, off' + k * 5 + 4, none⟩ = some (u4)))
        (exact SK.out _ (by assumption))
        (first | (go_at_call 69; refine (C.out _ (by assumption)).mono ?_; rintro e w2 ⟨rfl, hb2⟩) | (fail "none"))
      all_goals
        go_wp2
        go_roundw
        case rel => exact ⟨k + 1, by omega, by go_num, HBl.out.trans (hb2.mono HBl.out.size)⟩
        case measure => simp [intOf]; omega
    · go_wp2
      go_ret
      exact ⟨rfl, hbel⟩
end Go.Proofs.YtmanlnlhpgdbpaaGreat
/- The helpers of the laws: comparisons. -/
namespace Go.Proofs.YtmanlnlhpgdbpaaGreat
open Go.RowKit
attribute [local go_sem ↓] Go.wp_at_zero Go.wp_at_succ

set_option maxRecDepth 100000 in
set_option maxHeartbeats 4000000 in
theorem eqChanges_at {S S' : Bs} (w0 : World) (a0 : Int) (a1 : (List ChangeT)) (v1 : Value) (u1 : Value) (w : World) (hB : Below w0.heap.size w0 w) (h1 : SlAt changeE S w0 a1 v1) (g1 : SlAt changeE S' w0 a1 u1) (hz : changesE.sz (a0, a1) ≤ 1048576) :
    Calls Tryz.prog 11 #[.agg #[.int .i64 a0, v1], .agg #[.int .i64 a0, u1]] w fun e w' => e = .returned (.bool true) ∧ Below w0.heap.size w0 w' := by
  have HE : changesE.sz (a0, a1) = 0 + ((a1.length + szL changeE a1)) := rfl
  rw [HE] at hz
  have hk0 : (a0 == a0) = true := by simp
  have hj0 : (a0 != a0) = false := by simp
  have C1 : Hid (∀ W : World, Below w0.heap.size w0 W → Calls Tryz.prog 38 #[v1, u1] W fun e w' => e = .returned (.bool true) ∧ Below W.heap.size W w') := Lib.hid (fun W b => eqChangeS_at v1 u1 a1 W (h1.frame (Same.of_below' b)) (g1.frame (Same.of_below' b)) (by omega))
  obtain ⟨o1, k1, rfl⟩ := h1.sl
  obtain ⟨p1, j1, rfl⟩ := g1.sl
  clear hz HE h1 g1
  have HB := Lib.hid hB
  clear hB
  go_enter Tryz.func11, Tryz.ntmps11
  go_wp2_with fail
  refine calls_by (fun W => Below w0.heap.size w0 W ∧ Blk W w.heap.size [.int .i64 a0, .slice o1 a1.length k1] ∧ Blk W (w.heap.size + 1) [.int .i64 a0, .slice p1 a1.length j1]) ⟨more' (more' HB.out _) _, (Blk.new _ _ _).alloc _, blk_at _ _ _ (by simp)⟩ ?_
  rintro W1 ⟨b1, x1, y1⟩
  have X1 := Lib.hid x1; have Y1 := Lib.hid y1; clear x1 y1
  refine (C1.out W1 b1).mono ?_
  rintro e W2 ⟨rfl, hb⟩
  have X2 := Lib.hid (X1.out.below hb); have Y2 := Lib.hid (Y1.out.below hb); have b2 := b1.trans (hb.mono b1.size)
  clear X1 Y1 hb b1 C1
  have m0 := X2.out.cell 0 rfl
  have n0 := Y2.out.cell 0 rfl
  have m1 := X2.out.cell 1 rfl
  have n1 := Y2.out.cell 1 rfl
  go_wp2
  go_ret
  exact ⟨rfl, b2⟩
end Go.Proofs.YtmanlnlhpgdbpaaGreat
/- The law FnExactChangesRight: its walk. -/
namespace Go.Proofs.YtmanlnlhpgdbpaaGreat
open Go.RowKit
attribute [local go_sem ↓] Go.wp_at_zero Go.wp_at_succ

set_option maxRecDepth 100000 in
set_option maxHeartbeats 4000000 in
theorem ChangesRight_walk (a0 : Int) (a1 : (List ChangeT)) (v1 : Value) (w : World) (h0 : SlAt changeE (All w) w a1 v1) (f0 : changesE.long (a0, a1)) :
    Calls Tryz.prog 3 #[.agg #[.int .i64 a0, v1]] w fun e w' => e = .returned (.bool true) ∧ Below w.heap.size w w' := by
  have HQ0 : Hid (changesE.sz (a0, a1) ≤ 1048576 → ∀ (Y : World) (S S' : Bs) (x1 u1 : Value), SlAt changeE S Y a1 x1 → SlAt changeE S' Y a1 u1 → Calls Tryz.prog 11 #[.agg #[.int .i64 a0, x1], .agg #[.int .i64 a0, u1]] Y fun e w' => e = .returned (.bool true) ∧ Below Y.heap.size Y w') := Lib.hid (fun z Y S S' x1 u1 g1 k1 => eqChanges_at Y a0 a1 x1 u1 Y (Below.refl _ _) g1 k1 z)
  have HS0 : Hid (∀ (l : Int) (W : World), Below w.heap.size w W → 0 ≤ l → l ≤ 1048576 → Calls Tryz.prog 7 #[.agg #[.int .i64 a0, v1], .int .i64 l] W fun e w' => e = .returned (.int .i64 (leftR (changesE.sz (a0, a1)) l)) ∧ Below W.heap.size W w') := Lib.hid (fun l W b p q => szChanges_at a0 a1 v1 l W (h0.frame (Same.of_below' b)) f0 p q)
  have HT0 : Hid (changesE.sz (a0, a1) ≤ 1048576 → ∀ Y : World, Below w.heap.size w Y → Calls Tryz.prog 9 #[.agg #[.int .i64 a0, v1]] Y fun e w' => ∃ u1, e = .returned (.agg #[.int .i64 a0, u1]) ∧ changesE.Own (Fresh Y w') w' (a0, a1) [.int .i64 a0, u1] ∧ Below Y.heap.size Y w') := Lib.hid (fun z Y b => toChanges_at a0 a1 v1 Y (h0.frame (Same.of_below' b)) z)
  have HSp : Hid (changesE.sz (a0, a1) ≤ 1048576 → ∀ (Y : World) (S0 : Bs) (u1 : Value), SlAt changeE S0 Y a1 u1 → Calls Tryz.prog 8 #[.agg #[.int .i64 a0, u1]] Y fun e w' => e = .returned (.bool (chsB a0 a1)) ∧ Below Y.heap.size Y w') := Lib.hid (fun z0 Y S0 u1 h1 => SpecChangesRight_any a0 u1 a1 Y h1 (chsz z0))
  have HIm : Hid (changesE.sz (a0, a1) ≤ 1048576 → ∀ (Y : World) (S0 : Bs) (u1 : Value), SlAt changeE S0 Y a1 u1 → Calls Tryz.prog 10 #[.agg #[.int .i64 a0, u1]] Y fun e w' => e = .returned (.bool (chsB a0 a1)) ∧ Below Y.heap.size Y w') := Lib.hid (fun z0 Y S0 u1 h1 => ChangesRight_any a0 u1 a1 Y h1 (chsz z0))
  obtain ⟨o1, k1, rfl⟩ := h0.sl
  clear h0 f0
  go_enter Tryz.func3, Tryz.ntmps3
  go_wp2_with fail
  refine calls_by (fun W => Below w.heap.size w W ∧ Blk W (w.heap.size) [.int .i64 a0, .slice o1 a1.length k1]) ⟨more' (Below.refl _ _) _, Blk.new _ _ _⟩ ?_
  rintro W0 ⟨b0, t0⟩
  have B := Lib.hid b0; clear b0
  have HP0 := Lib.hid t0; clear t0
  refine (HS0.out (1048576) W0 B.out (by omega) (by omega)).mono ?_
  rintro e W1 ⟨rfl, hb⟩
  have P := Lib.hid (HP0.out.below hb); clear HP0; have HP0 := P; clear P
  have B1 := Lib.hid (B.out.trans (hb.mono B.out.size)); clear B; have B := B1; clear B1
  clear hb HS0
  by_cases g0 : ((changesE.sz (a0, a1) : Nat) : Int) ≤ 1048576
  rotate_left
  · rw [leftR_neg g0]
    clear g0
    go_wp2
    go_ret
    exact ⟨rfl, B.out⟩
  rw [leftR_pos g0]
  have HZ0 : Hid (changesE.sz (a0, a1) ≤ 1048576) := Lib.hid (by omega)
  have p0 : (0 : Int) ≤ ((changesE.sz (a0, a1) : Nat) : Int) := by omega
  have c0 : ¬ 1048576 - ((changesE.sz (a0, a1) : Nat) : Int) < 0 := by omega
  generalize ((changesE.sz (a0, a1) : Nat) : Int) = t0 at *
  have HT := Lib.hid (HT0.out HZ0.out); clear HT0; have HT0 := HT; clear HT
  have HQ := Lib.hid (HQ0.out HZ0.out); clear HQ0; have HQ0 := HQ; clear HQ
  have HS := Lib.hid (HSp.out HZ0.out); have HI := Lib.hid (HIm.out HZ0.out); clear HSp HIm
  generalize (chsB a0 a1) = r at *
  have hrr : (r != r) = false := by simp
  have hrq : (r == r) = true := by simp
  have pm0 := HP0.out.cell 0 rfl
  have pm1 := HP0.out.cell 1 rfl
  go_wp2_with fail
  clear pm0 pm1
  refine (HT0.out _ B.out).mono ?_
  rintro e W2 ⟨x1, rfl, q, hb⟩
  have P := Lib.hid (HP0.out.below hb); clear HP0; have HP0 := P; clear P
  have B1 := Lib.hid (B.out.trans (hb.mono B.out.size)); clear B; have B := B1; clear B1
  have Qx0 := Lib.hid (changesE.ownAt q); clear q hb
  have Z := changes_atp Qx0.out
  obtain ⟨px1, cx1, rfl⟩ := Z.sl
  clear Z
  go_wp2_with fail
  refine (HS.out _ _ _ (changes_atp Qx0.out)).mono ?_
  rintro e W3 ⟨rfl, hb⟩
  clear Qx0
  have P := Lib.hid (HP0.out.below hb); clear HP0; have HP0 := P; clear P
  have B1 := Lib.hid (B.out.trans (hb.mono B.out.size)); clear B; have B := B1; clear B1
  clear hb
  have pm0 := HP0.out.cell 0 rfl
  have pm1 := HP0.out.cell 1 rfl
  go_wp2_with fail
  clear pm0 pm1
  refine (HT0.out _ B.out).mono ?_
  rintro e W4 ⟨y1, rfl, q, hb⟩
  have P := Lib.hid (HP0.out.below hb); clear HP0; have HP0 := P; clear P
  have B1 := Lib.hid (B.out.trans (hb.mono B.out.size)); clear B; have B := B1; clear B1
  have Qy0 := Lib.hid (changesE.ownAt q); clear q hb
  have Z := changes_atp Qy0.out
  obtain ⟨py1, cy1, rfl⟩ := Z.sl
  clear Z
  go_wp2_with fail
  refine calls_by (fun W => Below W4.heap.size W4 W ∧ Blk W W4.heap.size [.int .i64 a0, .slice py1 a1.length cy1]) ⟨more' (Below.refl _ _) _, Blk.new _ _ _⟩ ?_
  rintro V4 ⟨hb, t⟩
  have P := Lib.hid (HP0.out.below hb); clear HP0; have HP0 := P; clear P
  have P := Lib.hid (changesE.frame Qy0.out (Same.of_below' hb)); clear Qy0; have Qy0 := P; clear P
  have B1 := Lib.hid (B.out.trans (hb.mono B.out.size)); clear B; have B := B1; clear B1
  clear hb
  have HX0 := Lib.hid t; clear t
  refine (HI.out _ _ _ (changes_atp Qy0.out)).mono ?_
  rintro e W5 ⟨rfl, hb⟩
  have P := Lib.hid (HP0.out.below hb); clear HP0; have HP0 := P; clear P
  have P := Lib.hid (changesE.frame Qy0.out (Same.of_below' hb)); clear Qy0; have Qy0 := P; clear P
  have P := Lib.hid (HX0.out.below hb); clear HX0; have HX0 := P; clear P
  have B1 := Lib.hid (B.out.trans (hb.mono B.out.size)); clear B; have B := B1; clear B1
  clear hb
  go_wp2
  have hb : Below W5.heap.size W5 W5.drew := (Below.refl _ _).drew
  have SK : Hid (∀ Z' : World, Below W5.heap.size W5 Z' → Z'.cell? ⟨w.heap.size, 0, none⟩ = some (.int .i64 a0) ∧ Z'.cell? ⟨w.heap.size, 1, none⟩ = some (.slice o1 a1.length k1) ∧ Z'.cell? ⟨W4.heap.size, 0, none⟩ = some (.int .i64 a0) ∧ Z'.cell? ⟨W4.heap.size, 1, none⟩ = some (.slice py1 a1.length cy1)) := Lib.hid (fun Z' h => ⟨(HP0.out.below h).cell 0 rfl, (HP0.out.below h).cell 1 rfl, (HX0.out.below h).cell 0 rfl, (HX0.out.below h).cell 1 rfl⟩)
  have BD : Below W5.heap.size W5 W5.drew := hb
  have P := Lib.hid (HP0.out.below hb); clear HP0; have HP0 := P; clear P
  have P := Lib.hid (changesE.frame Qy0.out (Same.of_below' hb)); clear Qy0; have Qy0 := P; clear P
  have P := Lib.hid (HX0.out.below hb); clear HX0; have HX0 := P; clear P
  have B1 := Lib.hid (B.out.trans (hb.mono B.out.size)); clear B; have B := B1; clear B1
  clear hb
  refine wp_region_held_drew (S := (fun Z' => Z'.cell? ⟨w.heap.size, 0, none⟩ = some (.int .i64 a0) ∧ Z'.cell? ⟨w.heap.size, 1, none⟩ = some (.slice o1 a1.length k1) ∧ Z'.cell? ⟨W4.heap.size, 0, none⟩ = some (.int .i64 a0) ∧ Z'.cell? ⟨W4.heap.size, 1, none⟩ = some (.slice py1 a1.length cy1))) (by kernel_rfl) ?_ (fun hHeld => ?_)
  · (try dsimp only)
    first | exact SK.out _ (by assumption) | exact SK.out _ BD
  refine wpAnyH_take (i := 0) (oi := { dst := some 22, op := Op.load 29 (Operand.tmp 5), type := 29, pos := "exact.go:4547", after := #[], guard := none }) (v := ?_) rfl (by kernel_rfl) (by kernel_rfl) (by kernel_rfl) (fun _ _ _ h => h) (Or.inl ⟨by rfl, ?_⟩) (by assumption) ?_
  rotate_left
  · intro w hSw; (try dsimp only at hSw); go_simp; (try with_reducible rfl)
  (try simp only [Act.put, List.setIfInBounds_toArray, List.set_cons_zero, List.set_cons_succ])
  refine wpAnyH_take (i := 1) (oi := { dst := some 23, op := Op.load 24 (Operand.tmp 1), type := 24, pos := "exact.go:4547", after := #[], guard := none }) (v := ?_) rfl (by kernel_rfl) (by kernel_rfl) (by kernel_rfl) (fun _ _ _ h => h) (Or.inl ⟨by rfl, ?_⟩) (by assumption) ?_
  rotate_left
  · intro w hSw; (try dsimp only at hSw); go_simp; (try with_reducible rfl)
  (try simp only [Act.put, List.setIfInBounds_toArray, List.set_cons_zero, List.set_cons_succ])
  refine wpAnyH_ready (rs := [2]) (by kernel_rfl) (by simp) ?_
  refine AllReadyH.cons (o := { dst := some 24, op := Op.call { callee := Callee.value (Operand.func 9), args := #[Operand.tmp 23], argTypes := #[24] }, type := 29, pos := "exact.go:4547", after := #[{ on := 1, ground := Ground.data }], guard := none }) rfl (fun K hK => ?_) (AllReadyH.nil)
  go_simp
  refine (HT0.out _ B.out).mono ?_
  rintro e W6 ⟨z1, rfl, q, hb⟩
  have BD := BD.trans (hb.mono BD.size)
  have P := Lib.hid (HP0.out.below hb); clear HP0; have HP0 := P; clear P
  have P := Lib.hid (changesE.frame Qy0.out (Same.of_below' hb)); clear Qy0; have Qy0 := P; clear P
  have P := Lib.hid (HX0.out.below hb); clear HX0; have HX0 := P; clear P
  have B1 := Lib.hid (B.out.trans (hb.mono B.out.size)); clear B; have B := B1; clear B1
  have Qz0 := Lib.hid (changesE.ownAt q); clear q hb
  have Z := changes_atp Qz0.out
  obtain ⟨pz1, cz1, rfl⟩ := Z.sl
  clear Z
  clear hHeld
  refine hK.out _ _ ?_ (fun hHeld => ?_)
  · (try dsimp only)
    first | exact SK.out _ (by assumption) | exact SK.out _ BD
  clear hK K
  (try simp only [Act.put, List.setIfInBounds_toArray, List.set_cons_zero, List.set_cons_succ])
  refine wpAnyH_ready (rs := [3]) (by kernel_rfl) (by simp) ?_
  refine AllReadyH.cons (o := { dst := some 25, op := Op.call { callee := Callee.value (Operand.func 11), args := #[Operand.tmp 22, Operand.tmp 24], argTypes := #[29, 29] }, type := 4, pos := "exact.go:4547", after := #[{ on := 0, ground := Ground.data }, { on := 2, ground := Ground.data }, { on := 2, ground := Ground.chain }], guard := none }) rfl (fun K hK => ?_) (AllReadyH.nil)
  go_simp
  refine (HQ0.out _ _ _ _ _ (changes_atp Qy0.out) (changes_atp Qz0.out)).mono ?_
  rintro e W7 ⟨rfl, hb⟩
  have BD := BD.trans (hb.mono BD.size)
  have P := Lib.hid (HP0.out.below hb); clear HP0; have HP0 := P; clear P
  have P := Lib.hid (changesE.frame Qy0.out (Same.of_below' hb)); clear Qy0; have Qy0 := P; clear P
  have P := Lib.hid (HX0.out.below hb); clear HX0; have HX0 := P; clear P
  have P := Lib.hid (changesE.frame Qz0.out (Same.of_below' hb)); clear Qz0; have Qz0 := P; clear P
  have B1 := Lib.hid (B.out.trans (hb.mono B.out.size)); clear B; have B := B1; clear B1
  clear hb
  clear hHeld
  refine hK.out _ _ ?_ (fun hHeld => ?_)
  · (try dsimp only)
    first | exact SK.out _ (by assumption) | exact SK.out _ BD
  clear hK K
  (try simp only [Act.put, List.setIfInBounds_toArray, List.set_cons_zero, List.set_cons_succ])
  refine wpAnyH_take (i := 4) (oi := { dst := some 26, op := Op.unOp UnOp.not 4 (Operand.tmp 25), type := 4, pos := "exact.go:4547", after := #[{ on := 3, ground := Ground.data }], guard := none }) (v := ?_) rfl (by kernel_rfl) (by kernel_rfl) (by kernel_rfl) (fun _ _ _ h => h) (Or.inl ⟨by rfl, ?_⟩) (by assumption) ?_
  rotate_left
  · intro w hSw; (try dsimp only at hSw); go_simp; (try with_reducible rfl)
  (try simp only [Act.put, List.setIfInBounds_toArray, List.set_cons_zero, List.set_cons_succ])
  refine wpAnyH_done (by kernel_rfl) ?_ _
  clear SK BD
  clear Qz0
  go_wp2
  go_ret
  exact ⟨rfl, B.out⟩
end Go.Proofs.YtmanlnlhpgdbpaaGreat
/- Arguments of the laws: where they lie. -/
namespace Go.Proofs.YtmanlnlhpgdbpaaGreat
open Go.RowKit

open Go.ChangeShapes Go.WideShapes Go.Joins Go.Deep
theorem opn_str : Opens Tryz.prog 9 strE := opens_str Tryz.underlying9
theorem Tryz.cellStr : Tryz.prog.cellsOf 9 = strE.n := by kernel_rfl
theorem opn_int : Opens Tryz.prog 2 intE := opens_int Tryz.underlying2
theorem opn_strS : Opens Tryz.prog 94 (slE strE) := opens_sl Tryz.underlying94 Tryz.cellStr (by decide) opn_str
theorem Tryz.cellRdn : Tryz.prog.cellsOf 74 = rdnE.n := by kernel_rfl
set_option maxRecDepth 100000 in
theorem opn_rdn : Opens Tryz.prog 74 rdnE := opens_struct Tryz.underlying74 Tryz.cellRdn (ff_cons _ (by rfl) (by rfl) (by kernel_rfl) opn_str (ff_last _ (by rfl) (by rfl) (by kernel_rfl) (by rfl) opn_str))
theorem Tryz.cellAttr : Tryz.prog.cellsOf 107 = attrE.n := by kernel_rfl
set_option maxRecDepth 100000 in
theorem opn_attr : Opens Tryz.prog 107 attrE := opens_struct Tryz.underlying107 Tryz.cellAttr (ff_cons _ (by rfl) (by rfl) (by kernel_rfl) opn_str (ff_last _ (by rfl) (by rfl) (by kernel_rfl) (by rfl) opn_strS))
theorem opn_rdnS : Opens Tryz.prog 33 (slE rdnE) := opens_sl Tryz.underlying33 Tryz.cellRdn (by decide) opn_rdn
theorem opn_attrS : Opens Tryz.prog 34 (slE attrE) := opens_sl Tryz.underlying34 Tryz.cellAttr (by decide) opn_attr
theorem Tryz.cellEntry : Tryz.prog.cellsOf 36 = entryE.n := by kernel_rfl
set_option maxRecDepth 100000 in
theorem opn_entry : Opens Tryz.prog 36 entryE := opens_struct Tryz.underlying36 Tryz.cellEntry (ff_cons _ (by rfl) (by rfl) (by kernel_rfl) opn_rdnS (ff_last _ (by rfl) (by rfl) (by kernel_rfl) (by rfl) opn_attrS))
theorem Tryz.cellChange : Tryz.prog.cellsOf 93 = changeE.n := by kernel_rfl
set_option maxRecDepth 100000 in
theorem opn_change : Opens Tryz.prog 93 changeE := opens_struct Tryz.underlying93 Tryz.cellChange (ff_cons _ (by rfl) (by rfl) (by kernel_rfl) opn_int (ff_cons _ (by rfl) (by rfl) (by kernel_rfl) opn_int (ff_cons _ (by rfl) (by rfl) (by kernel_rfl) opn_str (ff_last _ (by rfl) (by rfl) (by kernel_rfl) (by rfl) opn_entry))))
theorem opn_changeS : Opens Tryz.prog 22 (slE changeE) := opens_sl Tryz.underlying22 Tryz.cellChange (by decide) opn_change
theorem Tryz.cellChanges : Tryz.prog.cellsOf 24 = changesE.n := by kernel_rfl
set_option maxRecDepth 100000 in
theorem opn_changes : Opens Tryz.prog 24 changesE := opens_struct Tryz.underlying24 Tryz.cellChanges (ff_cons _ (by rfl) (by rfl) (by kernel_rfl) opn_int (ff_last _ (by rfl) (by rfl) (by kernel_rfl) (by rfl) opn_changeS))
set_option maxRecDepth 100000 in
theorem opv_rdn {H : Type} {enc : TypeId × Value → H} {w : World} {base : Nat} {spare : Nat → Bool} {held : Bool} {r : Reach} {b0 : Nat} {v : Value} {d : DataW H} {p : List MemPlace} (hv : Value.okWide Tryz.prog w r b0 74 v) (h : DataW.Trod enc Tryz.prog w base spare held 74 v d p) :
    ∃ (a0 : ByteArray) (a1 : ByteArray) , v = .agg #[.string a0, .string a1] ∧ (True) ∧ rdnE.long (a0, a1) := by
  obtain ⟨cs, a, rfl, h1, h2⟩ := opv_struct Tryz.underlying74 opn_rdn hv h
  obtain ⟨a0, a1, rfl, e1, hq⟩ := rdn_atq h1
  refine ⟨a0, a1, agg_eq e1, ?_, h2⟩
  exact hq
set_option maxRecDepth 100000 in
theorem opv_attr {H : Type} {enc : TypeId × Value → H} {w : World} {base : Nat} {spare : Nat → Bool} {held : Bool} {r : Reach} {b0 : Nat} {v : Value} {d : DataW H} {p : List MemPlace} (hv : Value.okWide Tryz.prog w r b0 107 v) (h : DataW.Trod enc Tryz.prog w base spare held 107 v d p) :
    ∃ (a0 : ByteArray) (a1 : (List ByteArray)) (v1 : Value), v = .agg #[.string a0, v1] ∧ (SlAt strE (All w) w a1 v1) ∧ attrE.long (a0, a1) := by
  obtain ⟨cs, a, rfl, h1, h2⟩ := opv_struct Tryz.underlying107 opn_attr hv h
  obtain ⟨a0, a1, v1, rfl, e1, hq⟩ := attr_atq h1
  refine ⟨a0, a1, v1, agg_eq e1, ?_, h2⟩
  exact hq.1
set_option maxRecDepth 100000 in
theorem opv_entry {H : Type} {enc : TypeId × Value → H} {w : World} {base : Nat} {spare : Nat → Bool} {held : Bool} {r : Reach} {b0 : Nat} {v : Value} {d : DataW H} {p : List MemPlace} (hv : Value.okWide Tryz.prog w r b0 36 v) (h : DataW.Trod enc Tryz.prog w base spare held 36 v d p) :
    ∃ (a0 : (List RdnT)) (a1 : (List AttrT)) (v0 v1 : Value), v = .agg #[v0, v1] ∧ (SlAt rdnE (All w) w a0 v0 ∧ SlAt attrE (All w) w a1 v1) ∧ entryE.long (a0, a1) := by
  obtain ⟨cs, a, rfl, h1, h2⟩ := opv_struct Tryz.underlying36 opn_entry hv h
  obtain ⟨a0, a1, v0, v1, rfl, e1, hq⟩ := entry_atq h1
  refine ⟨a0, a1, v0, v1, agg_eq e1, ?_, h2⟩
  exact ⟨hq.1, hq.2.1⟩
set_option maxRecDepth 100000 in
theorem opv_change {H : Type} {enc : TypeId × Value → H} {w : World} {base : Nat} {spare : Nat → Bool} {held : Bool} {r : Reach} {b0 : Nat} {v : Value} {d : DataW H} {p : List MemPlace} (hv : Value.okWide Tryz.prog w r b0 93 v) (h : DataW.Trod enc Tryz.prog w base spare held 93 v d p) :
    ∃ (a0 : Int) (a1 : Int) (a2 : ByteArray) (a3 : (List RdnT)) (a4 : (List AttrT)) (v3 v4 : Value), v = .agg #[.int .i64 a0, .int .i64 a1, .string a2, v3, v4] ∧ (SlAt rdnE (All w) w a3 v3 ∧ SlAt attrE (All w) w a4 v4) ∧ changeE.long (a0, a1, a2, (a3, a4)) := by
  obtain ⟨cs, a, rfl, h1, h2⟩ := opv_struct Tryz.underlying93 opn_change hv h
  obtain ⟨a0, a1, a2, a3, a4, v3, v4, rfl, e1, hq⟩ := change_atq h1
  refine ⟨a0, a1, a2, a3, a4, v3, v4, agg_eq e1, ?_, h2⟩
  exact ⟨hq.1, hq.2.1⟩
set_option maxRecDepth 100000 in
theorem opv_changes {H : Type} {enc : TypeId × Value → H} {w : World} {base : Nat} {spare : Nat → Bool} {held : Bool} {r : Reach} {b0 : Nat} {v : Value} {d : DataW H} {p : List MemPlace} (hv : Value.okWide Tryz.prog w r b0 24 v) (h : DataW.Trod enc Tryz.prog w base spare held 24 v d p) :
    ∃ (a0 : Int) (a1 : (List ChangeT)) (v1 : Value), v = .agg #[.int .i64 a0, v1] ∧ (SlAt changeE (All w) w a1 v1) ∧ changesE.long (a0, a1) := by
  obtain ⟨cs, a, rfl, h1, h2⟩ := opv_struct Tryz.underlying24 opn_changes hv h
  obtain ⟨a0, a1, v1, rfl, e1, hq⟩ := changes_atq h1
  refine ⟨a0, a1, v1, agg_eq e1, ?_, h2⟩
  exact hq.1
end Go.Proofs.YtmanlnlhpgdbpaaGreat
