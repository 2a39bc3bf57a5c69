/- Merged texts: toAttr, toEntry, eqRdn, eqAttr, eqEntry, MemE, markString, markClass, markRdn, markAttr, markEntryV, heldString. -/
import Derived.Test.YtmanlnlhpgdbpaaDoorM5
import Derived.Test.YtmanlnlhpgdbpaaDoorM2
import Derived.Laws.MakeOwn
import Derived.Test.YtmanlnlhpgdbpaaDoorM12
import Derived.SliceStrings
import Derived.Test.YtmanlnlhpgdbpaaDoorM3
/- The helpers of the laws: copies. -/
namespace Go.Proofs.YtmanlnlhpgdbpaaDoor
open Go.RowKit
attribute [local go_sem ↓] Go.wp_at_zero Go.wp_at_succ

theorem Tryd.infoTAttr : (Tryd.prog.info? 83).map (fun i => (i.zero, i.size, i.bytes)) = some (some (.agg #[.string ByteArray.empty, .slice none 0 0]), 2, 40) := by kernel_rfl
theorem mkAttr (n : Nat) (hn : n ≤ 1048576) (W : World) : ∃ C : Array Value, C.size = n * 2 ∧
    (Instr.makeSlice 34 (.int .i64 (n : Int)) (.int .i64 (n : Int))).run Tryd.prog W = .ok (.slice (some ⟨W.heap.size, 0, none⟩) n n) (W.alloc (.cells C 83)) := by
  obtain ⟨i0, hi, hz0, hz1, hz2⟩ := info_parts Tryd.infoTAttr
  have := run_make (P := Tryd.prog) W 34 83 i0 _ Tryd.underlying34 hi hz0 .i64 .i64 (n : Int) (n : Int) (by omega) (by omega) (by rw [hz2]; omega) (by omega)
  rw [hz1] at this
  refine ⟨madeCells (Value.cells (.agg #[.string ByteArray.empty, .slice none 0 0])) (n * 2), size_madeCells _ _, ?_⟩
  simpa using this
set_option maxRecDepth 100000 in
set_option maxHeartbeats 4000000 in
theorem toAttr_at {S : Bs} (a0 : ByteArray) (a1 : (List ByteArray)) (v1 : Value) (w : World) (h1 : SlAt strE S w a1 v1) (hz : attrE.sz (a0, a1) ≤ 1048576) :
    Calls Tryd.prog 47 #[.agg #[.string a0, v1]] w fun e w' => ∃ u1, e = .returned (.agg #[.string a0, u1]) ∧ attrE.Own (Fresh w w') w' (a0, a1) [.string a0, u1] ∧ Below w.heap.size w w' := by
  have HE : attrE.sz (a0, a1) = a0.size + ((a1.length + szL strE a1)) := rfl
  rw [HE] at hz
  have C1 : Hid (∀ W : World, Below w.heap.size w W → Calls Tryd.prog 45 #[v1] W fun e w' => ∃ u, e = .returned u ∧ SlOwn strE (Fresh W w') w' a1 u ∧ Below W.heap.size W w') := Lib.hid (fun W b => toStringS_at v1 a1 W (h1.frame (Same.of_below' b)) (by omega))
  obtain ⟨o1, k1, rfl⟩ := h1.sl
  clear hz HE h1
  go_enter Tryd.func47, Tryd.ntmps47
  go_wp2_with fail
  refine calls_by (fun W => Below w.heap.size w W ∧ Blk W w.heap.size [.string a0, .slice o1 a1.length k1] ∧ Blk W (w.heap.size + 1) [.string ⟨#[]⟩, .slice none 0 0] ∧ Blk W (w.heap.size + 1 + 1) [.string a0, .slice none 0 0]) ⟨more' (more' (more' (Below.refl _ _) _) _) _, ((Blk.new _ _ _).alloc _).alloc _, (blk_at _ _ _ (by simp)).alloc _, blk_at _ _ _ (by simp)⟩ ?_
  rintro W0 ⟨b0, t0, r0, s0⟩
  have hn : w.heap.size + 1 + 1 < W0.heap.size := s0.lt
  refine (C1.out W0 b0).mono ?_
  rintro e y1 ⟨u1, rfl, q1, hb⟩
  obtain ⟨p1, j1, rfl⟩ := q1.at.sl
  have T := Lib.hid (t0.below hb); have Rr := Lib.hid (r0.below hb); have U := Lib.hid (s0.below hb); have B := Lib.hid (b0.trans (hb.mono b0.size)); have hs1 := hb.size
  have Q1 := Lib.hid q1
  clear t0 r0 s0 b0 hb q1 C1
  have m0 := T.out.cell 0 rfl
  have c0 := U.out.cell 0 rfl
  have f0 := U.out.soft 0
  have m1 := T.out.cell 1 rfl
  have c1 := U.out.cell 1 rfl
  have f1 := U.out.soft 1
  have TE := (((Rr.out.far (R := w.heap.size + 1 + 1) (j := 1) (by omega) (.slice p1 a1.length j1)).set 0 (.string a0)).set 1 (.slice p1 a1.length j1))
  have d0 := Rr.out.cell 0 rfl
  have g0 := Rr.out.soft 0
  have k100 := TE.cell 0 rfl
  have d1 := Rr.out.cell 1 rfl
  have g1 := Rr.out.soft 1
  have k101 := TE.cell 1 rfl
  clear TE
  go_wp2_with fail
  refine bodyPost_ret (v := .agg #[.string a0, .slice p1 a1.length j1]) (by simp [results, Tryd.results47, go_sem, k100, k101]) rfl ⟨_, rfl, ?_, ?_⟩
  · exact attr_pack a0 a1 _ (Fresh W0 y1) ⟨(((Q1.out.frame (Same.set _ _ _ (by intro h; have := h.1; omega))).frame (Same.set _ _ _ (by intro h; have := h.1; omega))).frame (Same.set _ _ _ (by intro h; have := h.1; omega))), (fun k z => ⟨by have := z.1; omega, by have := z.2; show _ < (World.heap _).size; simp only [setCell_size]; omega⟩), trivial⟩
  · exact (((B.out.setCell (p := ⟨w.heap.size + 1 + 1, 1, none⟩) (by show w.heap.size ≤ w.heap.size + 1 + 1; omega) _).setCell (p := ⟨w.heap.size + 1, 0, none⟩) (by show w.heap.size ≤ w.heap.size + 1; omega) _).setCell (p := ⟨w.heap.size + 1, 1, none⟩) (by show w.heap.size ≤ w.heap.size + 1; omega) _)
set_option maxRecDepth 100000 in
set_option maxHeartbeats 4000000 in
theorem toAttrS_at {S : Bs} (v : Value) (d : List AttrT) (w : World) (hd : SlAt attrE S w d v) (hz : d.length + szL attrE d ≤ 1048576) :
    Calls Tryd.prog 26 #[v] w fun e w' => ∃ u, e = .returned u ∧ SlOwn attrE (Fresh w w') w' d u ∧ Below w.heap.size w w' := by
  obtain ⟨ao, cap, rfl⟩ := hd.sl
  have HD := Lib.hid hd; clear hd
  have HL := Lib.hid hz
  have hl : d.length ≤ 1048576 := by omega
  clear hz
  obtain ⟨C, hC, hmk⟩ := mkAttr d.length hl w
  have HC := Lib.hid hC; clear hC
  go_enter Tryd.func26, Tryd.ntmps26
  go_wp2
  clear hmk
  go_loopw [4] (fun i wr => ∃ k : Nat, k ≤ d.length ∧ i = .int .i64 k ∧ Build attrE wr w.heap.size d.length (d.take k) ∧ Below w.heap.size w wr) (fun i _ => d.length - (intOf i).toNat)
  case atStart => exact ⟨0, Nat.zero_le _, rfl, Build.new _ _ _ _ HC.out, (Below.refl _ _).alloc (Nat.le_refl _) _⟩
  case round =>
    obtain ⟨k, hk, rfl, hR, hbel⟩ := hrel
    have HR := Lib.hid hR; clear hR
    have hsz := hbel.size
    by_cases hlt : k < d.length
    · obtain ⟨b, off, a0, a1, v1, rfl, _, hb0, hx, ⟨hc0, hc1⟩, s1, _⟩ := attr_row (HD.out.frame (Same.of_below' hbel)) hlt
      have HT : Hid (d.take (k + 1) = d.take k ++ [(a0, a1)]) := Lib.hid (by rw [List.take_succ_eq_append_getElem hlt, hx])
      have HK : Hid ((d.take k).length = k) := Lib.hid (by rw [List.length_take]; omega)
      have HZ : Hid (attrE.sz (a0, a1) ≤ 1048576) := Lib.hid (by have h1 := szL_mem attrE (List.getElem_mem hlt); rw [hx] at h1; have := HL.out; omega)
      clear hx
      have HV1 := Lib.hid s1; clear s1
      obtain ⟨o1, k1, rfl⟩ := HV1.out.sl
      go_wp2_with fail
      refine (toAttr_at a0 a1 _ wr HV1.out HZ.out).mono ?_
      rintro e w2 ⟨u1, rfl, hq, hb2⟩
      have HR2 := Lib.hid (HR.out.below hb2)
      have B2 := Lib.hid (hbel.trans (hb2.mono hsz))
      have HQ := Lib.hid hq
      have HB := Lib.hid hb2
      clear hb2 hq hc0 hc1
      have hsl := attr_sl HQ.out rfl
      obtain ⟨p1, l1, j1, rfl⟩ := hsl
      obtain ⟨x0, c0⟩ := HR2.out.cell (k := k) (u := 0) hlt (by decide)
      have c0 : w2.cell? ⟨w.heap.size, k * 2, none⟩ = some x0 := c0
      have f0 := HR2.out.soft (k * 2)
      obtain ⟨x1, c1⟩ := HR2.out.cell (k := k) (u := 1) hlt (by decide)
      have c1 : w2.cell? ⟨w.heap.size, k * 2 + 1, none⟩ = some x1 := c1
      have f1 := HR2.out.soft (k * 2 + 1)
      go_wp2
      go_roundw
      case rel => exact ⟨k + 1, by omega, by go_num, by rw [HT.out]; exact HR.out.row (o := k * 2) (cs := [.string a0, .slice p1 l1 j1]) (by rw [HK.out]; exact hlt) (by rw [HK.out]; rfl) HB.out HQ.out, ((B2.out.setCell (Nat.le_refl _) _).setCell (Nat.le_refl _) _)⟩
      case measure => simp [intOf]; omega
    · have e : d.take k = d := List.take_of_length_le (by omega)
      rw [e] at HR
      clear e
      go_wp2
      go_ret
      exact ⟨_, rfl, HR.out.own, hbel⟩
end Go.Proofs.YtmanlnlhpgdbpaaDoor
/- The helpers of the laws: copies. -/
namespace Go.Proofs.YtmanlnlhpgdbpaaDoor
open Go.RowKit
attribute [local go_sem ↓] Go.wp_at_zero Go.wp_at_succ

theorem Tryd.infoTEntry : (Tryd.prog.info? 36).map (fun i => (i.zero, i.size, i.bytes)) = some (some (.agg #[.slice none 0 0, .slice none 0 0]), 2, 48) := by kernel_rfl
set_option maxRecDepth 100000 in
set_option maxHeartbeats 4000000 in
theorem toEntry_at {S : Bs} (a0 : (List RdnT)) (a1 : (List AttrT)) (v0 v1 : Value) (w : World) (h0 : SlAt rdnE S w a0 v0) (h1 : SlAt attrE S w a1 v1) (hz : entryE.sz (a0, a1) ≤ 1048576) :
    Calls Tryd.prog 8 #[.agg #[v0, v1]] w fun e w' => ∃ u0 u1, e = .returned (.agg #[u0, u1]) ∧ entryE.Own (Fresh w w') w' (a0, a1) [u0, u1] ∧ Below w.heap.size w w' := by
  have HE : entryE.sz (a0, a1) = (a0.length + szL rdnE a0) + ((a1.length + szL attrE a1)) := rfl
  rw [HE] at hz
  have C0 : Hid (∀ W : World, Below w.heap.size w W → Calls Tryd.prog 25 #[v0] W fun e w' => ∃ u, e = .returned u ∧ SlOwn rdnE (Fresh W w') w' a0 u ∧ Below W.heap.size W w') := Lib.hid (fun W b => toRdnS_at v0 a0 W (h0.frame (Same.of_below' b)) (by omega))
  have C1 : Hid (∀ W : World, Below w.heap.size w W → Calls Tryd.prog 26 #[v1] W fun e w' => ∃ u, e = .returned u ∧ SlOwn attrE (Fresh W w') w' a1 u ∧ Below W.heap.size W w') := Lib.hid (fun W b => toAttrS_at v1 a1 W (h1.frame (Same.of_below' b)) (by omega))
  obtain ⟨o0, k0, rfl⟩ := h0.sl
  obtain ⟨o1, k1, rfl⟩ := h1.sl
  clear hz HE h0 h1
  go_enter Tryd.func8, Tryd.ntmps8
  go_wp2_with fail
  refine calls_by (fun W => Below w.heap.size w W ∧ Blk W w.heap.size [.slice o0 a0.length k0, .slice o1 a1.length k1] ∧ Blk W (w.heap.size + 1) [.slice none 0 0, .slice none 0 0] ∧ Blk W (w.heap.size + 1 + 1) [.slice none 0 0, .slice none 0 0]) ⟨more' (more' (more' (Below.refl _ _) _) _) _, ((Blk.new _ _ _).alloc _).alloc _, (blk_at _ _ _ (by simp)).alloc _, blk_at _ _ _ (by simp)⟩ ?_
  rintro W0 ⟨b0, t0, r0, s0⟩
  have hn : w.heap.size + 1 + 1 < W0.heap.size := s0.lt
  refine (C0.out W0 b0).mono ?_
  rintro e y1 ⟨u0, rfl, q0, hb⟩
  obtain ⟨p0, j0, rfl⟩ := q0.at.sl
  have T := Lib.hid (t0.below hb); have Rr := Lib.hid (r0.below hb); have U := Lib.hid (s0.below hb); have B := Lib.hid (b0.trans (hb.mono b0.size)); have hs1 := hb.size
  have Q0 := Lib.hid q0
  clear t0 r0 s0 b0 hb q0 C0
  have m0 := T.out.cell 0 rfl
  have c0 := U.out.cell 0 rfl
  have f0 := U.out.soft 0
  have m1 := T.out.cell 1 rfl
  have c1 := U.out.cell 1 rfl
  have f1 := U.out.soft 1
  go_wp2_with fail
  have hW : y1.heap.size = y1.heap.size := rfl
  refine calls_by (fun W => y1.heap.size ≤ W.heap.size ∧ Below w.heap.size w W ∧ Blk W w.heap.size [.slice o0 a0.length k0, .slice o1 a1.length k1] ∧ Blk W (w.heap.size + 1) [.slice none 0 0, .slice none 0 0] ∧ Blk W (w.heap.size + 1 + 1) [.slice p0 a0.length j0, .slice none 0 0] ∧ SlOwn rdnE (Fresh W0 y1) W a0 (.slice p0 a0.length j0)) ⟨by simp [World.setCell], (B.out.setCell (p := ⟨w.heap.size + 1 + 1, 0, none⟩) (by show w.heap.size ≤ w.heap.size + 1 + 1; omega) _), (T.out.far (by omega) _), (Rr.out.far (by omega) _), (U.out.set 0 _), (Q0.out.frame (Same.set _ _ _ (by intro h; have := h.1; omega)))⟩ ?_
  clear T Rr U B Q0
  rintro W1 ⟨hl1, b1, t1, r1, s1, q0⟩
  have Q0 := Lib.hid q0; clear q0
  refine (C1.out W1 b1).mono ?_
  rintro e y2 ⟨u1, rfl, q1, hb⟩
  obtain ⟨p1, j1, rfl⟩ := q1.at.sl
  have T := Lib.hid (t1.below hb); have Rr := Lib.hid (r1.below hb); have U := Lib.hid (s1.below hb); have B := Lib.hid (b1.trans (hb.mono b1.size)); have hs2 := hb.size
  have Q1 := Lib.hid q1
  have Q0 := Lib.hid (Q0.out.frame (Same.of_below' hb))
  clear t1 r1 s1 b1 hb q1 C1
  clear c0 f0 m0 c1 f1 m1
  have m0 := T.out.cell 0 rfl
  have c0 := U.out.cell 0 rfl
  have f0 := U.out.soft 0
  have m1 := T.out.cell 1 rfl
  have c1 := U.out.cell 1 rfl
  have f1 := U.out.soft 1
  have TE := (((Rr.out.far (R := w.heap.size + 1 + 1) (j := 1) (by omega) (.slice p1 a1.length j1)).set 0 (.slice p0 a0.length j0)).set 1 (.slice p1 a1.length j1))
  have d0 := Rr.out.cell 0 rfl
  have g0 := Rr.out.soft 0
  have k100 := TE.cell 0 rfl
  have d1 := Rr.out.cell 1 rfl
  have g1 := Rr.out.soft 1
  have k101 := TE.cell 1 rfl
  clear TE
  go_wp2_with fail
  refine bodyPost_ret (v := .agg #[.slice p0 a0.length j0, .slice p1 a1.length j1]) (by simp [results, Tryd.results8, go_sem, k100, k101]) rfl ⟨_, _, rfl, ?_, ?_⟩
  · exact entry_pack a0 a1 _ _ (Fresh W0 y1) (Fresh W1 y2) ⟨(((Q0.out.frame (Same.set _ _ _ (by intro h; have := h.1; omega))).frame (Same.set _ _ _ (by intro h; have := h.1; omega))).frame (Same.set _ _ _ (by intro h; have := h.1; omega))), (fun k z => ⟨by have := z.1; omega, by have := z.2; show _ < (World.heap _).size; simp only [setCell_size]; omega⟩), (((Q1.out.frame (Same.set _ _ _ (by intro h; have := h.1; omega))).frame (Same.set _ _ _ (by intro h; have := h.1; omega))).frame (Same.set _ _ _ (by intro h; have := h.1; omega))), (fun k z => ⟨by have := z.1; omega, by have := z.2; show _ < (World.heap _).size; simp only [setCell_size]; omega⟩), (fun k z y => by have := z.2; have := y.1; omega), trivial⟩
  · exact (((B.out.setCell (p := ⟨w.heap.size + 1 + 1, 1, none⟩) (by show w.heap.size ≤ w.heap.size + 1 + 1; omega) _).setCell (p := ⟨w.heap.size + 1, 0, none⟩) (by show w.heap.size ≤ w.heap.size + 1; omega) _).setCell (p := ⟨w.heap.size + 1, 1, none⟩) (by show w.heap.size ≤ w.heap.size + 1; omega) _)
end Go.Proofs.YtmanlnlhpgdbpaaDoor
/- The helpers of the laws: comparisons. -/
namespace Go.Proofs.YtmanlnlhpgdbpaaDoor
open Go.RowKit
attribute [local go_sem ↓] Go.wp_at_zero Go.wp_at_succ

set_option maxRecDepth 100000 in
set_option maxHeartbeats 4000000 in
theorem eqRdn_at  (w0 : World) (a0 : ByteArray) (a1 : ByteArray)   (w : World) (hB : Below w0.heap.size w0 w)    :
    Calls Tryd.prog 56 #[.agg #[.string a0, .string a1], .agg #[.string a0, .string a1]] w fun e w' => e = .returned (.bool true) ∧ Below w0.heap.size w0 w' := by
  have hk0 : (a0.toList == a0.toList) = true := by simp
  have hk1 : (a1.toList == a1.toList) = true := by simp
  have HB := Lib.hid hB
  clear hB
  go_enter Tryd.func56, Tryd.ntmps56
  go_wp2
  go_ret
  exact ⟨rfl, more' (more' HB.out _) _⟩
set_option maxRecDepth 100000 in
set_option maxHeartbeats 4000000 in
theorem eqRdnS_at {S S' : Bs} (v u : Value) (d : List RdnT) (w : World) (hd : SlAt rdnE S w d v) (hu : SlAt rdnE S' w d u) (hz : d.length + szL rdnE d ≤ 1048576) :
    Calls Tryd.prog 31 #[v, u] w fun e w' => e = .returned (.bool true) ∧ Below w.heap.size w w' := by
  obtain ⟨ao, ca, rfl⟩ := hd.sl
  obtain ⟨bo, cb, rfl⟩ := hu.sl
  have HA := Lib.hid hd; have HB := Lib.hid hu; clear hd hu
  have HL := Lib.hid hz
  have hl : d.length ≤ 1048576 := by omega
  clear hz
  go_enter Tryd.func31, Tryd.ntmps31
  go_wp2
  go_loopw [5] (fun i wr => ∃ k : Nat, k ≤ d.length ∧ i = .int .i64 k ∧ Below w.heap.size w wr) (fun i _ => d.length - (intOf i).toNat)
  case atStart => exact ⟨0, Nat.zero_le _, rfl, Below.refl _ _⟩
  case round =>
    obtain ⟨k, hk, rfl, hbel⟩ := hrel
    have hsz := hbel.size
    by_cases hlt : k < d.length
    · obtain ⟨p, off, a0, a1, rfl, _, hp0, hx, hc, _⟩ := rdn_row (HA.out.frame (Same.of_below' hbel)) hlt
      obtain ⟨q, off', x0, x1, rfl, _, hq0, hx', hd, _⟩ := rdn_row (HB.out.frame (Same.of_below' hbel)) hlt
      have hxx := hx.symm.trans hx'
      simp only [Prod.mk.injEq] at hxx
      obtain ⟨rfl, rfl⟩ := hxx
      have HZ : Hid (rdnE.sz (a0, a1) ≤ 1048576) := Lib.hid (by have h1 := szL_mem rdnE (List.getElem_mem hlt); rw [hx] at h1; have := HL.out; omega)
      clear hx hx'
      have C : Hid (∀ W : World, Below wr.heap.size wr W → Calls Tryd.prog 56 #[.agg #[.string a0, .string a1], .agg #[.string a0, .string a1]] W fun e w' => e = .returned (.bool true) ∧ Below wr.heap.size wr w') := Lib.hid (fun W b => eqRdn_at wr a0 a1 W b   )
      have SK : Hid (∀ W : World, Below wr.heap.size wr W → (Below wr.heap.size wr W ∧ (W.cell? ⟨p, off + k * 2, none⟩ = some (.string a0) ∧ W.cell? ⟨p, off + k * 2 + 1, none⟩ = some (.string a1)) ∧ (W.cell? ⟨q, off' + k * 2, none⟩ = some (.string a0) ∧ W.cell? ⟨q, off' + k * 2 + 1, none⟩ = some (.string a1)))) :=
        Lib.hid (fun W h => ⟨h, ⟨(h.cell (p := ⟨p, _, none⟩) hp0).trans hc.1, (h.cell (p := ⟨p, _, none⟩) hp0).trans hc.2⟩, ⟨(h.cell (p := ⟨q, _, none⟩) hq0).trans hd.1, (h.cell (p := ⟨q, _, none⟩) hq0).trans hd.2⟩⟩)
      have hbd : Below wr.heap.size wr wr.drew := (Below.refl _ _).drew
      have hb0 : Below wr.heap.size wr wr := Below.refl _ _
      have HBl := Lib.hid hbel
      clear hc hd hbel
      have g1 : (0 : Int) ≤ (k : Int) := by omega
      have g2 : (k : Int) < (d.length : Int) := by omega
      go_wp2_with fail
      go_region_held3 (fun W => Below wr.heap.size wr W ∧ (W.cell? ⟨p, off + k * 2, none⟩ = some (.string a0) ∧ W.cell? ⟨p, off + k * 2 + 1, none⟩ = some (.string a1)) ∧ (W.cell? ⟨q, off' + k * 2, none⟩ = some (.string a0) ∧ W.cell? ⟨q, off' + k * 2 + 1, none⟩ = some (.string a1)))
        (exact SK.out _ (by assumption))
        (first | (go_at_call 56; refine (C.out _ (by assumption)).mono ?_; rintro e w2 ⟨rfl, hb2⟩) | (fail "none"))
      all_goals
        go_wp2
        go_roundw
        case rel => exact ⟨k + 1, by omega, by go_num, HBl.out.trans (hb2.mono HBl.out.size)⟩
        case measure => simp [intOf]; omega
    · go_wp2
      go_ret
      exact ⟨rfl, hbel⟩
end Go.Proofs.YtmanlnlhpgdbpaaDoor
/- The helpers of the laws: comparisons. -/
namespace Go.Proofs.YtmanlnlhpgdbpaaDoor
open Go.RowKit
attribute [local go_sem ↓] Go.wp_at_zero Go.wp_at_succ

set_option maxRecDepth 100000 in
set_option maxHeartbeats 4000000 in
theorem eqAttr_at {S S' : Bs} (w0 : World) (a0 : ByteArray) (a1 : (List ByteArray)) (v1 : Value) (u1 : Value) (w : World) (hB : Below w0.heap.size w0 w) (h1 : SlAt strE S w0 a1 v1) (g1 : SlAt strE S' w0 a1 u1) (hz : attrE.sz (a0, a1) ≤ 1048576) :
    Calls Tryd.prog 57 #[.agg #[.string a0, v1], .agg #[.string a0, u1]] w fun e w' => e = .returned (.bool true) ∧ Below w0.heap.size w0 w' := by
  have HE : attrE.sz (a0, a1) = a0.size + ((a1.length + szL strE a1)) := rfl
  rw [HE] at hz
  have hk0 : (a0.toList == a0.toList) = true := by simp
  have C1 : Hid (∀ W : World, Below w0.heap.size w0 W → Calls Tryd.prog 10 #[v1, u1] W fun e w' => e = .returned (.bool true) ∧ Below W.heap.size W w') := Lib.hid (fun W b => eqStringS_at v1 u1 a1 W (h1.frame (Same.of_below' b)) (g1.frame (Same.of_below' b)) (by omega))
  obtain ⟨o1, k1, rfl⟩ := h1.sl
  obtain ⟨p1, j1, rfl⟩ := g1.sl
  clear hz HE h1 g1
  have HB := Lib.hid hB
  clear hB
  go_enter Tryd.func57, Tryd.ntmps57
  go_wp2_with fail
  refine calls_by (fun W => Below w0.heap.size w0 W ∧ Blk W w.heap.size [.string a0, .slice o1 a1.length k1] ∧ Blk W (w.heap.size + 1) [.string a0, .slice p1 a1.length j1]) ⟨more' (more' HB.out _) _, (Blk.new _ _ _).alloc _, blk_at _ _ _ (by simp)⟩ ?_
  rintro W1 ⟨b1, x1, y1⟩
  have X1 := Lib.hid x1; have Y1 := Lib.hid y1; clear x1 y1
  refine (C1.out W1 b1).mono ?_
  rintro e W2 ⟨rfl, hb⟩
  have X2 := Lib.hid (X1.out.below hb); have Y2 := Lib.hid (Y1.out.below hb); have b2 := b1.trans (hb.mono b1.size)
  clear X1 Y1 hb b1 C1
  have m0 := X2.out.cell 0 rfl
  have n0 := Y2.out.cell 0 rfl
  have m1 := X2.out.cell 1 rfl
  have n1 := Y2.out.cell 1 rfl
  go_wp2
  go_ret
  exact ⟨rfl, b2⟩
set_option maxRecDepth 100000 in
set_option maxHeartbeats 4000000 in
theorem eqAttrS_at {S S' : Bs} (v u : Value) (d : List AttrT) (w : World) (hd : SlAt attrE S w d v) (hu : SlAt attrE S' w d u) (hz : d.length + szL attrE d ≤ 1048576) :
    Calls Tryd.prog 32 #[v, u] w fun e w' => e = .returned (.bool true) ∧ Below w.heap.size w w' := by
  obtain ⟨ao, ca, rfl⟩ := hd.sl
  obtain ⟨bo, cb, rfl⟩ := hu.sl
  have HA := Lib.hid hd; have HB := Lib.hid hu; clear hd hu
  have HL := Lib.hid hz
  have hl : d.length ≤ 1048576 := by omega
  clear hz
  go_enter Tryd.func32, Tryd.ntmps32
  go_wp2
  go_loopw [5] (fun i wr => ∃ k : Nat, k ≤ d.length ∧ i = .int .i64 k ∧ Below w.heap.size w wr) (fun i _ => d.length - (intOf i).toNat)
  case atStart => exact ⟨0, Nat.zero_le _, rfl, Below.refl _ _⟩
  case round =>
    obtain ⟨k, hk, rfl, hbel⟩ := hrel
    have hsz := hbel.size
    by_cases hlt : k < d.length
    · obtain ⟨p, off, a0, a1, v1, rfl, _, hp0, hx, hc, s1, _⟩ := attr_row (HA.out.frame (Same.of_below' hbel)) hlt
      obtain ⟨q, off', x0, x1, u1, rfl, _, hq0, hx', hd, t1, _⟩ := attr_row (HB.out.frame (Same.of_below' hbel)) hlt
      have hxx := hx.symm.trans hx'
      simp only [Prod.mk.injEq] at hxx
      obtain ⟨rfl, rfl⟩ := hxx
      have HZ : Hid (attrE.sz (a0, a1) ≤ 1048576) := Lib.hid (by have h1 := szL_mem attrE (List.getElem_mem hlt); rw [hx] at h1; have := HL.out; omega)
      clear hx hx'
      have C : Hid (∀ W : World, Below wr.heap.size wr W → Calls Tryd.prog 57 #[.agg #[.string a0, v1], .agg #[.string a0, u1]] W fun e w' => e = .returned (.bool true) ∧ Below wr.heap.size wr w') := Lib.hid (fun W b => eqAttr_at wr a0 a1 v1 u1 W b s1 t1 HZ.out)
      clear s1 t1 HZ
      have SK : Hid (∀ W : World, Below wr.heap.size wr W → (Below wr.heap.size wr W ∧ (W.cell? ⟨p, off + k * 2, none⟩ = some (.string a0) ∧ W.cell? ⟨p, off + k * 2 + 1, none⟩ = some (v1)) ∧ (W.cell? ⟨q, off' + k * 2, none⟩ = some (.string a0) ∧ W.cell? ⟨q, off' + k * 2 + 1, none⟩ = some (u1)))) :=
        Lib.hid (fun W h => ⟨h, ⟨(h.cell (p := ⟨p, _, none⟩) hp0).trans hc.1, (h.cell (p := ⟨p, _, none⟩) hp0).trans hc.2⟩, ⟨(h.cell (p := ⟨q, _, none⟩) hq0).trans hd.1, (h.cell (p := ⟨q, _, none⟩) hq0).trans hd.2⟩⟩)
      have hbd : Below wr.heap.size wr wr.drew := (Below.refl _ _).drew
      have hb0 : Below wr.heap.size wr wr := Below.refl _ _
      have HBl := Lib.hid hbel
      clear hc hd hbel
      have g1 : (0 : Int) ≤ (k : Int) := by omega
      have g2 : (k : Int) < (d.length : Int) := by omega
      go_wp2_with fail
      go_region_held3 (fun W => Below wr.heap.size wr W ∧ (W.cell? ⟨p, off + k * 2, none⟩ = some (.string a0) ∧ W.cell? ⟨p, off + k * 2 + 1, none⟩ = some (v1)) ∧ (W.cell? ⟨q, off' + k * 2, none⟩ = some (.string a0) ∧ W.cell? ⟨q, off' + k * 2 + 1, none⟩ = some (u1)))
        (exact SK.out _ (by assumption))
        (first | (go_at_call 57; refine (C.out _ (by assumption)).mono ?_; rintro e w2 ⟨rfl, hb2⟩) | (fail "none"))
      all_goals
        go_wp2
        go_roundw
        case rel => exact ⟨k + 1, by omega, by go_num, HBl.out.trans (hb2.mono HBl.out.size)⟩
        case measure => simp [intOf]; omega
    · go_wp2
      go_ret
      exact ⟨rfl, hbel⟩
end Go.Proofs.YtmanlnlhpgdbpaaDoor
/- The helpers of the laws: comparisons. -/
namespace Go.Proofs.YtmanlnlhpgdbpaaDoor
open Go.RowKit
attribute [local go_sem ↓] Go.wp_at_zero Go.wp_at_succ

set_option maxRecDepth 100000 in
set_option maxHeartbeats 4000000 in
theorem eqEntry_at {S S' : Bs} (w0 : World) (a0 : (List RdnT)) (a1 : (List AttrT)) (v0 v1 : Value) (u0 u1 : Value) (w : World) (hB : Below w0.heap.size w0 w) (h0 : SlAt rdnE S w0 a0 v0) (h1 : SlAt attrE S w0 a1 v1) (g0 : SlAt rdnE S' w0 a0 u0) (g1 : SlAt attrE S' w0 a1 u1) (hz : entryE.sz (a0, a1) ≤ 1048576) :
    Calls Tryd.prog 12 #[.agg #[v0, v1], .agg #[u0, u1]] w fun e w' => e = .returned (.bool true) ∧ Below w0.heap.size w0 w' := by
  have HE : entryE.sz (a0, a1) = (a0.length + szL rdnE a0) + ((a1.length + szL attrE a1)) := rfl
  rw [HE] at hz
  have C0 : Hid (∀ W : World, Below w0.heap.size w0 W → Calls Tryd.prog 31 #[v0, u0] W fun e w' => e = .returned (.bool true) ∧ Below W.heap.size W w') := Lib.hid (fun W b => eqRdnS_at v0 u0 a0 W (h0.frame (Same.of_below' b)) (g0.frame (Same.of_below' b)) (by omega))
  have C1 : Hid (∀ W : World, Below w0.heap.size w0 W → Calls Tryd.prog 32 #[v1, u1] W fun e w' => e = .returned (.bool true) ∧ Below W.heap.size W w') := Lib.hid (fun W b => eqAttrS_at v1 u1 a1 W (h1.frame (Same.of_below' b)) (g1.frame (Same.of_below' b)) (by omega))
  obtain ⟨o0, k0, rfl⟩ := h0.sl
  obtain ⟨p0, j0, rfl⟩ := g0.sl
  obtain ⟨o1, k1, rfl⟩ := h1.sl
  obtain ⟨p1, j1, rfl⟩ := g1.sl
  clear hz HE h0 g0 h1 g1
  have HB := Lib.hid hB
  clear hB
  go_enter Tryd.func12, Tryd.ntmps12
  go_wp2_with fail
  refine calls_by (fun W => Below w0.heap.size w0 W ∧ Blk W w.heap.size [.slice o0 a0.length k0, .slice o1 a1.length k1] ∧ Blk W (w.heap.size + 1) [.slice p0 a0.length j0, .slice p1 a1.length j1]) ⟨more' (more' HB.out _) _, (Blk.new _ _ _).alloc _, blk_at _ _ _ (by simp)⟩ ?_
  rintro W1 ⟨b1, x1, y1⟩
  have X1 := Lib.hid x1; have Y1 := Lib.hid y1; clear x1 y1
  refine (C0.out W1 b1).mono ?_
  rintro e W2 ⟨rfl, hb⟩
  have X2 := Lib.hid (X1.out.below hb); have Y2 := Lib.hid (Y1.out.below hb); have b2 := b1.trans (hb.mono b1.size)
  clear X1 Y1 hb b1 C0
  have m0 := X2.out.cell 0 rfl
  have n0 := Y2.out.cell 0 rfl
  have m1 := X2.out.cell 1 rfl
  have n1 := Y2.out.cell 1 rfl
  go_wp2_with fail
  refine (C1.out W2 b2).mono ?_
  rintro e W3 ⟨rfl, hb⟩
  have X3 := Lib.hid (X2.out.below hb); have Y3 := Lib.hid (Y2.out.below hb); have b3 := b2.trans (hb.mono b2.size)
  clear X2 Y2 hb b2 C1 m0 n0 m1 n1
  have m0 := X3.out.cell 0 rfl
  have n0 := Y3.out.cell 0 rfl
  have m1 := X3.out.cell 1 rfl
  have n1 := Y3.out.cell 1 rfl
  go_wp2
  go_ret
  exact ⟨rfl, b3⟩
end Go.Proofs.YtmanlnlhpgdbpaaDoor
/- An owned entry and an owned answer, taken apart. -/
namespace Go.Proofs.YtmanlnlhpgdbpaaDoor
open Go Go.RowKit
theorem entry_ownp {S : Bs} {w : World} {a0 : List RdnT} {a1 : List AttrT} {v0 v1 : Value} (h : entryE.Own S w (a0, a1) [v0, v1]) :
    ∃ S0 S1 : Bs, SlOwn rdnE S0 w a0 v0 ∧ (∀ k, S0 k → S k) ∧ SlOwn attrE S1 w a1 v1 ∧ (∀ k, S1 k → S k) ∧ ∀ k, S0 k → ¬ S1 k := by
  obtain ⟨b0, b1, y0, y1, S0, S1, e1, e2, q0, i0, q1, i1, d, _⟩ := entry_own h
  simp only [Prod.mk.injEq] at e1
  obtain ⟨rfl, rfl⟩ := e1
  simp only [List.cons.injEq, and_true] at e2
  obtain ⟨rfl, rfl⟩ := e2
  exact ⟨S0, S1, q0, i0, q1, i1, d⟩
theorem entryOut_ownp {S : Bs} {w : World} {a0 : List RdnT} {a1 : List AttrT} {a2 : Int} {v0 v1 : Value} (h : entryOutE.Own S w ((a0, a1), a2) [v0, v1, .int .i64 a2]) :
    ∃ S0 S1 : Bs, SlOwn rdnE S0 w a0 v0 ∧ (∀ k, S0 k → S k) ∧ SlOwn attrE S1 w a1 v1 ∧ (∀ k, S1 k → S k) ∧ ∀ k, S0 k → ¬ S1 k := by
  obtain ⟨b0, b1, b2, y0, y1, S0, S1, e1, e2, q0, i0, q1, i1, d, _⟩ := entryOut_own h
  simp only [Prod.mk.injEq] at e1
  obtain ⟨⟨rfl, rfl⟩, rfl⟩ := e1
  simp only [List.cons.injEq, and_true] at e2
  obtain ⟨rfl, rfl⟩ := e2
  exact ⟨S0, S1, q0, i0, q1, i1, d⟩
example : ruleE.c ≤ 50 := by decide
example : attrE.c ≤ 50 := by decide
end Go.Proofs.YtmanlnlhpgdbpaaDoor
/- The helpers of the laws: marks. -/
namespace Go.Proofs.YtmanlnlhpgdbpaaDoor
open Go.RowKit
attribute [local go_sem ↓] Go.wp_at_zero Go.wp_at_succ

set_option maxRecDepth 100000 in
set_option maxHeartbeats 4000000 in
theorem markStringS_at {S : Bs} (v : Value) (d : List ByteArray) (k : Nat) (w : World) (h : SlOwn strE S w d v) (hl : d.length ≤ 1048576) (hz : szL strE d ≤ 1048576) (hk1 : 0 < k) (hk2 : k + cntL strE d ≤ 1000000000) :
    Calls Tryd.prog 15 #[v, .int .i64 k] w fun e w' => e = .returned (.int .i64 ((k + cntL strE d : Nat) : Int)) ∧ SlOwn strE S w' (mkAll strE k d) v ∧ Turn S w w' := by
  obtain ⟨ao, cap, rfl⟩ := h.at.sl
  have HS := Lib.hid h; clear h
  have HTx : Hid (∀ (X : World) (m : Nat) (q : Int), q = (m : Int) → 0 < m → m ≤ 1000000000 → Calls Tryd.prog 33 #[.int .i64 q] X fun e w' => e = .returned (.string (mkT m)) ∧ Below X.heap.size X w') := Lib.hid (fun X m q e h1 h2 => by subst e; exact markText_any m X h1 h2)
  go_enter Tryd.func15, Tryd.ntmps15
  go_wp2
  go_loopw [1, 5] (fun t i wr => ∃ j : Nat, j ≤ d.length ∧ i = .int .i64 j ∧ t = .int .i64 ((k + cntL strE (d.take j) : Nat) : Int) ∧ SlOwn strE S wr (mkTo strE k d j) (.slice ao d.length cap) ∧ Turn S w wr) (fun _ i _ => d.length - (intOf i).toNat)
  case atStart => exact ⟨0, Nat.zero_le _, rfl, by simp [cntL], by rw [mkTo_zero]; exact HS.out, Turn.refl _ _⟩
  case round =>
    obtain ⟨j, hj, rfl, rfl, hO, hT⟩ := hrel
    have HO := Lib.hid hO; have HT := Lib.hid hT; clear hO hT
    have hcl := cntL_take_le strE d j
    by_cases hlt : j < d.length
    · obtain ⟨g, Sr, cs, rfl, hcap, hSg, hSr, hSub, hR, hrow, hown⟩ := mk_open HO.out hlt
      have HCs := Lib.hid (cntL_take strE d j hlt)
      have hcs : cntL strE (d.take j) + (strE).cnt d[j] ≤ cntL strE d := by have := cntL_take_le strE d (j + 1); rw [HCs.out] at this; exact this
      obtain ⟨a0, hx, rfl⟩ := txt_own hown
      rw [hx] at hcs
      have hct : (strE).cnt a0 = 1 := rfl
      rw [hct] at hcs
      have HX := Lib.hid hx
      clear hx hown
      have HR0 := Lib.hid hR; have HW0 := Lib.hid hrow; have HT0 := HT; clear hR hrow
      have HJ : Hid (j * (strE).n = j) := Lib.hid (Nat.mul_one j)
      rw [HJ.out] at HW0
      generalize hc : cntL strE (d.take j) = c at *
      have Hc := Lib.hid hc; clear hc
      have g1 : (0 : Int) ≤ (j : Int) := by omega
      have g2 : (j : Int) < (d.length : Int) := by omega
      go_wp2_with fail
      refine (HTx.out wr (k + c) _ (by omega) (by omega) (by omega)).mono ?_
      rintro e X1 ⟨rfl, hb⟩
      have HW1 := Lib.hid (HW0.out.same (hb.block _ HW0.out.lt)); have HR1 := Lib.hid (HR0.out.turn (by rw [mkTo_length _ _ _ hj]; exact hlt) (Turn.of_below hb)); have HT1 := Lib.hid (HT0.out.trans (Turn.of_below hb))
      clear hb HW0 HR0 HT0 
      have HW0 := HW1; have HR0 := HR1; have HT0 := HT1; clear HW1 HR1 HT1
      have c0 := HW0.out.cells 0 (by simp)
      have c0 : X1.cell? ⟨g, j, none⟩ = some (.string a0) := c0
      have f0 : X1.frozen? ⟨g, j, none⟩ = false := HW0.out.soft _
      go_wp2
      go_roundw
      case rel =>
        refine ⟨j + 1, by omega, by go_num, ?_, mk_close (cs := [.string (mkT (k + c))]) (HR0.out.store1 rfl _) hlt hcap (RowAt.cong (by rw [HJ.out]; exact (HW0.out.store (j := 0) (by simp) _)) ?_) ?_, (HT0.out.trans (Turn.store _ _ _ hSg))⟩
        · rw [HCs.out, HX.out, hct]; first | (congr 1; done) | (congr 1; omega)
        · simp only [List.set_cons_zero, List.set_cons_succ, List.cons.injEq, Value.int.injEq, Value.bool.injEq, true_and, and_true]
          first | done | omega | (refine ⟨?_, ?_⟩ <;> first | omega | (rw [Bool.eq_iff_iff]; simp; omega)) | (rw [Bool.eq_iff_iff]; simp; omega)
        · rw [Hc.out, HX.out]
          exact rfl
      case measure => simp [intOf]; omega
    · have e : j = d.length := by omega
      subst e
      have HOO : Hid (SlOwn strE S wr (mkAll strE k d) (.slice ao d.length cap)) := Lib.hid (by have := HO.out; rw [mkTo_all] at this; exact this)
      have hce : cntL strE (d.take d.length) = cntL strE d := by rw [List.take_length]
      rw [hce]
      go_wp2
      go_ret
      exact ⟨rfl, HOO.out, HT.out⟩
end Go.Proofs.YtmanlnlhpgdbpaaDoor
/- The helpers of the laws: marks. -/
namespace Go.Proofs.YtmanlnlhpgdbpaaDoor
open Go.RowKit
attribute [local go_sem ↓] Go.wp_at_zero Go.wp_at_succ

set_option maxRecDepth 100000 in
set_option maxHeartbeats 4000000 in
theorem markClassS_at {S : Bs} (v : Value) (d : List ClassT) (k : Nat) (w : World) (h : SlOwn classE S w d v) (hl : d.length ≤ 1048576) (hz : szL classE d ≤ 1048576) (hk1 : 0 < k) (hk2 : k + cntL classE d ≤ 1000000000) :
    Calls Tryd.prog 13 #[v, .int .i64 k] w fun e w' => e = .returned (.int .i64 ((k + cntL classE d : Nat) : Int)) ∧ SlOwn classE S w' (mkAll classE k d) v ∧ Turn S w w' := by
  obtain ⟨ao, cap, rfl⟩ := h.at.sl
  have HS := Lib.hid h; clear h
  have HTx : Hid (∀ (X : World) (m : Nat) (q : Int), q = (m : Int) → 0 < m → m ≤ 1000000000 → Calls Tryd.prog 33 #[.int .i64 q] X fun e w' => e = .returned (.string (mkT m)) ∧ Below X.heap.size X w') := Lib.hid (fun X m q e h1 h2 => by subst e; exact markText_any m X h1 h2)
  have HM1 : Hid (∀ (X : World) (Sx : Bs) (u : Value) (V : List ByteArray) (m : Nat) (q : Int), q = (m : Int) → SlOwn strE Sx X V u → V.length ≤ 1048576 → szL strE V ≤ 1048576 → 0 < m → m + cntL strE V ≤ 1000000000 → Calls Tryd.prog 15 #[u, .int .i64 q] X fun e w' => e = .returned (.int .i64 ((m + cntL strE V : Nat) : Int)) ∧ SlOwn strE Sx w' (mkAll strE m V) u ∧ Turn Sx X w') := Lib.hid (fun X Sx u V m q e h h0 hz h1 h2 => by subst e; exact markStringS_at u V m X h h0 hz h1 h2)
  have HM2 : Hid (∀ (X : World) (Sx : Bs) (u : Value) (V : List ByteArray) (m : Nat) (q : Int), q = (m : Int) → SlOwn strE Sx X V u → V.length ≤ 1048576 → szL strE V ≤ 1048576 → 0 < m → m + cntL strE V ≤ 1000000000 → Calls Tryd.prog 15 #[u, .int .i64 q] X fun e w' => e = .returned (.int .i64 ((m + cntL strE V : Nat) : Int)) ∧ SlOwn strE Sx w' (mkAll strE m V) u ∧ Turn Sx X w') := Lib.hid (fun X Sx u V m q e h h0 hz h1 h2 => by subst e; exact markStringS_at u V m X h h0 hz h1 h2)
  have HM3 : Hid (∀ (X : World) (Sx : Bs) (u : Value) (V : List ByteArray) (m : Nat) (q : Int), q = (m : Int) → SlOwn strE Sx X V u → V.length ≤ 1048576 → szL strE V ≤ 1048576 → 0 < m → m + cntL strE V ≤ 1000000000 → Calls Tryd.prog 15 #[u, .int .i64 q] X fun e w' => e = .returned (.int .i64 ((m + cntL strE V : Nat) : Int)) ∧ SlOwn strE Sx w' (mkAll strE m V) u ∧ Turn Sx X w') := Lib.hid (fun X Sx u V m q e h h0 hz h1 h2 => by subst e; exact markStringS_at u V m X h h0 hz h1 h2)
  go_enter Tryd.func13, Tryd.ntmps13
  go_wp2
  go_loopw [1, 5] (fun t i wr => ∃ j : Nat, j ≤ d.length ∧ i = .int .i64 j ∧ t = .int .i64 ((k + cntL classE (d.take j) : Nat) : Int) ∧ SlOwn classE S wr (mkTo classE k d j) (.slice ao d.length cap) ∧ Turn S w wr) (fun _ i _ => d.length - (intOf i).toNat)
  case atStart => exact ⟨0, Nat.zero_le _, rfl, by simp [cntL], by rw [mkTo_zero]; exact HS.out, Turn.refl _ _⟩
  case round =>
    obtain ⟨j, hj, rfl, rfl, hO, hT⟩ := hrel
    have HO := Lib.hid hO; have HT := Lib.hid hT; clear hO hT
    have hcl := cntL_take_le classE d j
    by_cases hlt : j < d.length
    · obtain ⟨g, Sr, cs, rfl, hcap, hSg, hSr, hSub, hR, hrow, hown⟩ := mk_open HO.out hlt
      have HCs := Lib.hid (cntL_take classE d j hlt)
      have hcs : cntL classE (d.take j) + (classE).cnt d[j] ≤ cntL classE d := by have := cntL_take_le classE d (j + 1); rw [HCs.out] at this; exact this
      obtain ⟨a0, a1, a2, a3, u1, u2, u3, S1, S2, S3, hx, rfl, q1, i1, q2, i2, q3, i3, d1_2, d1_3, d2_3, _⟩ := class_own hown
      rw [hx] at hcs
      have hct : (classE).cnt (a0, a1, a2, a3) = 1 + (cntL strE a1 + (cntL strE a2 + (cntL strE a3))) := rfl
      rw [hct] at hcs
      have HX := Lib.hid hx
      have hl1 : a1.length ≤ 1048576 := by have := szL_mem classE (List.getElem_mem hlt); rw [hx] at this; have h2 : (classE).sz (a0, a1, a2, a3) = a0.size + ((a1.length + szL strE a1) + ((a2.length + szL strE a2) + ((a3.length + szL strE a3)))) := rfl; rw [h2] at this; omega
      have hz1 : szL strE a1 ≤ 1048576 := by have := szL_mem classE (List.getElem_mem hlt); rw [hx] at this; have h2 : (classE).sz (a0, a1, a2, a3) = a0.size + ((a1.length + szL strE a1) + ((a2.length + szL strE a2) + ((a3.length + szL strE a3)))) := rfl; rw [h2] at this; omega
      have hl2 : a2.length ≤ 1048576 := by have := szL_mem classE (List.getElem_mem hlt); rw [hx] at this; have h2 : (classE).sz (a0, a1, a2, a3) = a0.size + ((a1.length + szL strE a1) + ((a2.length + szL strE a2) + ((a3.length + szL strE a3)))) := rfl; rw [h2] at this; omega
      have hz2 : szL strE a2 ≤ 1048576 := by have := szL_mem classE (List.getElem_mem hlt); rw [hx] at this; have h2 : (classE).sz (a0, a1, a2, a3) = a0.size + ((a1.length + szL strE a1) + ((a2.length + szL strE a2) + ((a3.length + szL strE a3)))) := rfl; rw [h2] at this; omega
      have hl3 : a3.length ≤ 1048576 := by have := szL_mem classE (List.getElem_mem hlt); rw [hx] at this; have h2 : (classE).sz (a0, a1, a2, a3) = a0.size + ((a1.length + szL strE a1) + ((a2.length + szL strE a2) + ((a3.length + szL strE a3)))) := rfl; rw [h2] at this; omega
      have hz3 : szL strE a3 ≤ 1048576 := by have := szL_mem classE (List.getElem_mem hlt); rw [hx] at this; have h2 : (classE).sz (a0, a1, a2, a3) = a0.size + ((a1.length + szL strE a1) + ((a2.length + szL strE a2) + ((a3.length + szL strE a3)))) := rfl; rw [h2] at this; omega
      clear hx hown
      have HR0 := Lib.hid hR; have HW0 := Lib.hid hrow; have HT0 := HT; clear hR hrow
      have HQ1 := Lib.hid q1; clear q1
      have HQ2 := Lib.hid q2; clear q2
      have HQ3 := Lib.hid q3; clear q3
      generalize hc : cntL classE (d.take j) = c at *
      have Hc := Lib.hid hc; clear hc
      have g1 : (0 : Int) ≤ (j : Int) := by omega
      have g2 : (j : Int) < (d.length : Int) := by omega
      generalize hm1 : cntL strE a1 = m1 at *
      have Hm1 := Lib.hid hm1; clear hm1
      generalize hm2 : cntL strE a2 = m2 at *
      have Hm2 := Lib.hid hm2; clear hm2
      generalize hm3 : cntL strE a3 = m3 at *
      have Hm3 := Lib.hid hm3; clear hm3
      go_wp2_with fail
      refine (HTx.out wr (k + c) _ (by omega) (by omega) (by omega)).mono ?_
      rintro e X1 ⟨rfl, hb⟩
      have HW1 := Lib.hid (HW0.out.same (hb.block _ HW0.out.lt)); have HR1 := Lib.hid (HR0.out.turn (by rw [mkTo_length _ _ _ hj]; exact hlt) (Turn.of_below hb)); have HT1 := Lib.hid (HT0.out.trans (Turn.of_below hb))
      have HP1 := Lib.hid (HQ1.out.frame (Same.of_below' hb))
      have HP2 := Lib.hid (HQ2.out.frame (Same.of_below' hb))
      have HP3 := Lib.hid (HQ3.out.frame (Same.of_below' hb))
      clear hb HW0 HR0 HT0 HQ1 HQ2 HQ3
      have HW0 := HW1; have HR0 := HR1; have HT0 := HT1; clear HW1 HR1 HT1
      have HQ1 := HP1; clear HP1
      have HQ2 := HP2; clear HP2
      have HQ3 := HP3; clear HP3
      have c0 := HW0.out.cells 0 (by simp)
      have c0 : X1.cell? ⟨g, j * 4, none⟩ = some (.string a0) := c0
      have f0 : X1.frozen? ⟨g, j * 4, none⟩ = false := HW0.out.soft _
      have c1 := HW0.out.cells 1 (by simp)
      have c1 : X1.cell? ⟨g, j * 4 + 1, none⟩ = some (u1) := c1
      have f1 : X1.frozen? ⟨g, j * 4 + 1, none⟩ = false := HW0.out.soft _
      have c2 := HW0.out.cells 2 (by simp)
      have c2 : X1.cell? ⟨g, j * 4 + 2, none⟩ = some (u2) := c2
      have f2 : X1.frozen? ⟨g, j * 4 + 2, none⟩ = false := HW0.out.soft _
      have c3 := HW0.out.cells 3 (by simp)
      have c3 : X1.cell? ⟨g, j * 4 + 3, none⟩ = some (u3) := c3
      have f3 : X1.frozen? ⟨g, j * 4 + 3, none⟩ = false := HW0.out.soft _
      go_wp2_with fail
      refine calls_by (fun W => (∃ cs : List Value, RowAt W g (j * (classE).n) cs ∧ cs = [.string (mkT (k + c)), u1, u2, u3]) ∧ Rest classE S W (mkTo classE k d j) g j Sr ∧ Turn S w W ∧ SlOwn strE S1 W (a1) u1 ∧ SlOwn strE S2 W (a2) u2 ∧ SlOwn strE S3 W (a3) u3) ⟨⟨_, (HW0.out.store (j := 0) (by simp) _), by simp only [List.set_cons_zero, List.set_cons_succ, List.cons.injEq, Value.int.injEq, Value.bool.injEq, true_and, and_true] <;> omega⟩, (HR0.out.store (u := 0) (by decide) _), (HT0.out.trans (Turn.store _ _ _ hSg)), (HQ1.out.frame (Same.set _ _ _ (fun z => hSr (i1 g z)))), (HQ2.out.frame (Same.set _ _ _ (fun z => hSr (i2 g z)))), (HQ3.out.frame (Same.set _ _ _ (fun z => hSr (i3 g z))))⟩ ?_
      try clear c0; try clear f0; try clear c1; try clear f1; try clear c2; try clear f2; try clear c3; try clear f3
      clear HR0 HW0 HT0 HQ1 HQ2 HQ3
      rintro X2 ⟨⟨cs, hw, rfl⟩, hr, ht, q1, q2, q3⟩
      have HW0 := Lib.hid hw; have HR0 := Lib.hid hr; have HT0 := Lib.hid ht; clear hw hr ht
      have HQ1 := Lib.hid q1; clear q1
      have HQ2 := Lib.hid q2; clear q2
      have HQ3 := Lib.hid q3; clear q3
      refine (HM1.out X2 S1 u1 a1 (k + c + 1) _ (by omega) HQ1.out hl1 hz1 (by omega) (by rw [Hm1.out]; omega)).mono ?_
      rintro e X3 ⟨rfl, q1, ht⟩
      have HW1 := Lib.hid (HW0.out.same (ht.block _ HW0.out.lt (fun z => hSr (i1 g z)))); have HR1 := Lib.hid (HR0.out.turn (by rw [mkTo_length _ _ _ hj]; exact hlt) (ht.wide i1)); have HT1 := Lib.hid (HT0.out.trans (ht.wide (fun z y => hSub z (i1 z y))))
      have HP1 := Lib.hid q1; clear q1
      have HP2 := Lib.hid (HQ2.out.frame (ht.same (fun z y1 y2 => d1_2 z y2 y1)))
      have HP3 := Lib.hid (HQ3.out.frame (ht.same (fun z y1 y2 => d1_3 z y2 y1)))
      clear ht HW0 HR0 HT0 HQ1 HQ2 HQ3
      have HW0 := HW1; have HR0 := HR1; have HT0 := HT1; clear HW1 HR1 HT1
      have HQ1 := HP1; clear HP1
      have HQ2 := HP2; clear HP2
      have HQ3 := HP3; clear HP3
      rw [Hm1.out]
      have c0 := HW0.out.cells 0 (by simp)
      have c0 : X3.cell? ⟨g, j * 4, none⟩ = some (.string (mkT (k + c))) := c0
      have f0 : X3.frozen? ⟨g, j * 4, none⟩ = false := HW0.out.soft _
      have c1 := HW0.out.cells 1 (by simp)
      have c1 : X3.cell? ⟨g, j * 4 + 1, none⟩ = some (u1) := c1
      have f1 : X3.frozen? ⟨g, j * 4 + 1, none⟩ = false := HW0.out.soft _
      have c2 := HW0.out.cells 2 (by simp)
      have c2 : X3.cell? ⟨g, j * 4 + 2, none⟩ = some (u2) := c2
      have f2 : X3.frozen? ⟨g, j * 4 + 2, none⟩ = false := HW0.out.soft _
      have c3 := HW0.out.cells 3 (by simp)
      have c3 : X3.cell? ⟨g, j * 4 + 3, none⟩ = some (u3) := c3
      have f3 : X3.frozen? ⟨g, j * 4 + 3, none⟩ = false := HW0.out.soft _
      go_wp2_with fail
      refine (HM2.out X3 S2 u2 a2 (k + c + 1 + m1) _ (by omega) HQ2.out hl2 hz2 (by omega) (by rw [Hm2.out]; omega)).mono ?_
      rintro e X4 ⟨rfl, q2, ht⟩
      have HW1 := Lib.hid (HW0.out.same (ht.block _ HW0.out.lt (fun z => hSr (i2 g z)))); have HR1 := Lib.hid (HR0.out.turn (by rw [mkTo_length _ _ _ hj]; exact hlt) (ht.wide i2)); have HT1 := Lib.hid (HT0.out.trans (ht.wide (fun z y => hSub z (i2 z y))))
      have HP1 := Lib.hid (HQ1.out.frame (ht.same (d1_2)))
      have HP2 := Lib.hid q2; clear q2
      have HP3 := Lib.hid (HQ3.out.frame (ht.same (fun z y1 y2 => d2_3 z y2 y1)))
      clear ht HW0 HR0 HT0 HQ1 HQ2 HQ3
      have HW0 := HW1; have HR0 := HR1; have HT0 := HT1; clear HW1 HR1 HT1
      have HQ1 := HP1; clear HP1
      have HQ2 := HP2; clear HP2
      have HQ3 := HP3; clear HP3
      rw [Hm2.out]
      try clear c0; try clear f0; try clear c1; try clear f1; try clear c2; try clear f2; try clear c3; try clear f3
      have c0 := HW0.out.cells 0 (by simp)
      have c0 : X4.cell? ⟨g, j * 4, none⟩ = some (.string (mkT (k + c))) := c0
      have f0 : X4.frozen? ⟨g, j * 4, none⟩ = false := HW0.out.soft _
      have c1 := HW0.out.cells 1 (by simp)
      have c1 : X4.cell? ⟨g, j * 4 + 1, none⟩ = some (u1) := c1
      have f1 : X4.frozen? ⟨g, j * 4 + 1, none⟩ = false := HW0.out.soft _
      have c2 := HW0.out.cells 2 (by simp)
      have c2 : X4.cell? ⟨g, j * 4 + 2, none⟩ = some (u2) := c2
      have f2 : X4.frozen? ⟨g, j * 4 + 2, none⟩ = false := HW0.out.soft _
      have c3 := HW0.out.cells 3 (by simp)
      have c3 : X4.cell? ⟨g, j * 4 + 3, none⟩ = some (u3) := c3
      have f3 : X4.frozen? ⟨g, j * 4 + 3, none⟩ = false := HW0.out.soft _
      go_wp2_with fail
      refine (HM3.out X4 S3 u3 a3 (k + c + 1 + m1 + m2) _ (by omega) HQ3.out hl3 hz3 (by omega) (by rw [Hm3.out]; omega)).mono ?_
      rintro e X5 ⟨rfl, q3, ht⟩
      have HW1 := Lib.hid (HW0.out.same (ht.block _ HW0.out.lt (fun z => hSr (i3 g z)))); have HR1 := Lib.hid (HR0.out.turn (by rw [mkTo_length _ _ _ hj]; exact hlt) (ht.wide i3)); have HT1 := Lib.hid (HT0.out.trans (ht.wide (fun z y => hSub z (i3 z y))))
      have HP1 := Lib.hid (HQ1.out.frame (ht.same (d1_3)))
      have HP2 := Lib.hid (HQ2.out.frame (ht.same (d2_3)))
      have HP3 := Lib.hid q3; clear q3
      clear ht HW0 HR0 HT0 HQ1 HQ2 HQ3
      have HW0 := HW1; have HR0 := HR1; have HT0 := HT1; clear HW1 HR1 HT1
      have HQ1 := HP1; clear HP1
      have HQ2 := HP2; clear HP2
      have HQ3 := HP3; clear HP3
      rw [Hm3.out]
      try clear c0; try clear f0; try clear c1; try clear f1; try clear c2; try clear f2; try clear c3; try clear f3
      have c0 := HW0.out.cells 0 (by simp)
      have c0 : X5.cell? ⟨g, j * 4, none⟩ = some (.string (mkT (k + c))) := c0
      have f0 : X5.frozen? ⟨g, j * 4, none⟩ = false := HW0.out.soft _
      have c1 := HW0.out.cells 1 (by simp)
      have c1 : X5.cell? ⟨g, j * 4 + 1, none⟩ = some (u1) := c1
      have f1 : X5.frozen? ⟨g, j * 4 + 1, none⟩ = false := HW0.out.soft _
      have c2 := HW0.out.cells 2 (by simp)
      have c2 : X5.cell? ⟨g, j * 4 + 2, none⟩ = some (u2) := c2
      have f2 : X5.frozen? ⟨g, j * 4 + 2, none⟩ = false := HW0.out.soft _
      have c3 := HW0.out.cells 3 (by simp)
      have c3 : X5.cell? ⟨g, j * 4 + 3, none⟩ = some (u3) := c3
      have f3 : X5.frozen? ⟨g, j * 4 + 3, none⟩ = false := HW0.out.soft _
      go_wp2
      go_roundw
      case rel =>
        refine ⟨j + 1, by omega, by go_num, ?_, mk_close (cs := [.string (mkT (k + c)), u1, u2, u3]) HR0.out hlt hcap (RowAt.cong HW0.out ?_) ?_, HT0.out⟩
        · rw [HCs.out, HX.out, hct]; first | (congr 1; done) | (congr 1; omega)
        · simp only [List.set_cons_zero, List.set_cons_succ, List.cons.injEq, Value.int.injEq, Value.bool.injEq, true_and, and_true]
          first | done | omega | (refine ⟨?_, ?_⟩ <;> first | omega | (rw [Bool.eq_iff_iff]; simp; omega)) | (rw [Bool.eq_iff_iff]; simp; omega)
        · rw [Hc.out, HX.out]
          have e1 := Hm1.out
          have e2 := Hm2.out
          have e3 := Hm3.out
          subst e1 e2 e3
          exact class_pack (mkT (k + c)) (mkAll strE (k + c + 1) a1) (mkAll strE (k + c + 1 + (cntL strE a1)) a2) (mkAll strE (k + c + 1 + (cntL strE a1) + (cntL strE a2)) a3) _ _ _ S1 S2 S3 ⟨HQ1.out, i1, HQ2.out, i2, HQ3.out, i3, d1_2, d1_3, d2_3, trivial⟩
      case measure => simp [intOf]; omega
    · have e : j = d.length := by omega
      subst e
      have HOO : Hid (SlOwn classE S wr (mkAll classE k d) (.slice ao d.length cap)) := Lib.hid (by have := HO.out; rw [mkTo_all] at this; exact this)
      have hce : cntL classE (d.take d.length) = cntL classE d := by rw [List.take_length]
      rw [hce]
      go_wp2
      go_ret
      exact ⟨rfl, HOO.out, HT.out⟩
end Go.Proofs.YtmanlnlhpgdbpaaDoor
/- The helpers of the laws: marks. -/
namespace Go.Proofs.YtmanlnlhpgdbpaaDoor
open Go.RowKit
attribute [local go_sem ↓] Go.wp_at_zero Go.wp_at_succ

set_option maxRecDepth 100000 in
set_option maxHeartbeats 4000000 in
theorem markRdnS_at {S : Bs} (v : Value) (d : List RdnT) (k : Nat) (w : World) (h : SlOwn rdnE S w d v) (hl : d.length ≤ 1048576) (hz : szL rdnE d ≤ 1048576) (hk1 : 0 < k) (hk2 : k + cntL rdnE d ≤ 1000000000) :
    Calls Tryd.prog 34 #[v, .int .i64 k] w fun e w' => e = .returned (.int .i64 ((k + cntL rdnE d : Nat) : Int)) ∧ SlOwn rdnE S w' (mkAll rdnE k d) v ∧ Turn S w w' := by
  obtain ⟨ao, cap, rfl⟩ := h.at.sl
  have HS := Lib.hid h; clear h
  have HTx : Hid (∀ (X : World) (m : Nat) (q : Int), q = (m : Int) → 0 < m → m ≤ 1000000000 → Calls Tryd.prog 33 #[.int .i64 q] X fun e w' => e = .returned (.string (mkT m)) ∧ Below X.heap.size X w') := Lib.hid (fun X m q e h1 h2 => by subst e; exact markText_any m X h1 h2)
  go_enter Tryd.func34, Tryd.ntmps34
  go_wp2
  go_loopw [1, 5] (fun t i wr => ∃ j : Nat, j ≤ d.length ∧ i = .int .i64 j ∧ t = .int .i64 ((k + cntL rdnE (d.take j) : Nat) : Int) ∧ SlOwn rdnE S wr (mkTo rdnE k d j) (.slice ao d.length cap) ∧ Turn S w wr) (fun _ i _ => d.length - (intOf i).toNat)
  case atStart => exact ⟨0, Nat.zero_le _, rfl, by simp [cntL], by rw [mkTo_zero]; exact HS.out, Turn.refl _ _⟩
  case round =>
    obtain ⟨j, hj, rfl, rfl, hO, hT⟩ := hrel
    have HO := Lib.hid hO; have HT := Lib.hid hT; clear hO hT
    have hcl := cntL_take_le rdnE d j
    by_cases hlt : j < d.length
    · obtain ⟨g, Sr, cs, rfl, hcap, hSg, hSr, hSub, hR, hrow, hown⟩ := mk_open HO.out hlt
      have HCs := Lib.hid (cntL_take rdnE d j hlt)
      have hcs : cntL rdnE (d.take j) + (rdnE).cnt d[j] ≤ cntL rdnE d := by have := cntL_take_le rdnE d (j + 1); rw [HCs.out] at this; exact this
      obtain ⟨a0, a1, hx, rfl, _⟩ := rdn_own hown
      rw [hx] at hcs
      have hct : (rdnE).cnt (a0, a1) = 1 + (1) := rfl
      rw [hct] at hcs
      have HX := Lib.hid hx
      clear hx hown
      have HR0 := Lib.hid hR; have HW0 := Lib.hid hrow; have HT0 := HT; clear hR hrow
      generalize hc : cntL rdnE (d.take j) = c at *
      have Hc := Lib.hid hc; clear hc
      have g1 : (0 : Int) ≤ (j : Int) := by omega
      have g2 : (j : Int) < (d.length : Int) := by omega
      go_wp2_with fail
      refine (HTx.out wr (k + c) _ (by omega) (by omega) (by omega)).mono ?_
      rintro e X1 ⟨rfl, hb⟩
      have HW1 := Lib.hid (HW0.out.same (hb.block _ HW0.out.lt)); have HR1 := Lib.hid (HR0.out.turn (by rw [mkTo_length _ _ _ hj]; exact hlt) (Turn.of_below hb)); have HT1 := Lib.hid (HT0.out.trans (Turn.of_below hb))
      clear hb HW0 HR0 HT0 
      have HW0 := HW1; have HR0 := HR1; have HT0 := HT1; clear HW1 HR1 HT1
      have c0 := HW0.out.cells 0 (by simp)
      have c0 : X1.cell? ⟨g, j * 2, none⟩ = some (.string a0) := c0
      have f0 : X1.frozen? ⟨g, j * 2, none⟩ = false := HW0.out.soft _
      have c1 := HW0.out.cells 1 (by simp)
      have c1 : X1.cell? ⟨g, j * 2 + 1, none⟩ = some (.string a1) := c1
      have f1 : X1.frozen? ⟨g, j * 2 + 1, none⟩ = false := HW0.out.soft _
      go_wp2_with fail
      refine calls_by (fun W => (∃ cs : List Value, RowAt W g (j * (rdnE).n) cs ∧ cs = [.string (mkT (k + c)), .string a1]) ∧ Rest rdnE S W (mkTo rdnE k d j) g j Sr ∧ Turn S w W) ⟨⟨_, (HW0.out.store (j := 0) (by simp) _), by simp only [List.set_cons_zero, List.set_cons_succ, List.cons.injEq, Value.int.injEq, Value.bool.injEq, true_and, and_true] <;> omega⟩, (HR0.out.store (u := 0) (by decide) _), (HT0.out.trans (Turn.store _ _ _ hSg))⟩ ?_
      try clear c0; try clear f0; try clear c1; try clear f1
      clear HR0 HW0 HT0 
      rintro X2 ⟨⟨cs, hw, rfl⟩, hr, ht⟩
      have HW0 := Lib.hid hw; have HR0 := Lib.hid hr; have HT0 := Lib.hid ht; clear hw hr ht
      refine (HTx.out X2 (k + c + 1) _ (by omega) (by omega) (by omega)).mono ?_
      rintro e X3 ⟨rfl, hb⟩
      have HW1 := Lib.hid (HW0.out.same (hb.block _ HW0.out.lt)); have HR1 := Lib.hid (HR0.out.turn (by rw [mkTo_length _ _ _ hj]; exact hlt) (Turn.of_below hb)); have HT1 := Lib.hid (HT0.out.trans (Turn.of_below hb))
      clear hb HW0 HR0 HT0 
      have HW0 := HW1; have HR0 := HR1; have HT0 := HT1; clear HW1 HR1 HT1
      have c0 := HW0.out.cells 0 (by simp)
      have c0 : X3.cell? ⟨g, j * 2, none⟩ = some (.string (mkT (k + c))) := c0
      have f0 : X3.frozen? ⟨g, j * 2, none⟩ = false := HW0.out.soft _
      have c1 := HW0.out.cells 1 (by simp)
      have c1 : X3.cell? ⟨g, j * 2 + 1, none⟩ = some (.string a1) := c1
      have f1 : X3.frozen? ⟨g, j * 2 + 1, none⟩ = false := HW0.out.soft _
      go_wp2
      go_roundw
      case rel =>
        refine ⟨j + 1, by omega, by go_num, ?_, mk_close (cs := [.string (mkT (k + c)), .string (mkT (k + c + 1))]) (HR0.out.store (u := 1) (by decide) _) hlt hcap (RowAt.cong (HW0.out.store (j := 1) (by simp) _) ?_) ?_, (HT0.out.trans (Turn.store _ _ _ hSg))⟩
        · rw [HCs.out, HX.out, hct]; first | (congr 1; done) | (congr 1; omega)
        · simp only [List.set_cons_zero, List.set_cons_succ, List.cons.injEq, Value.int.injEq, Value.bool.injEq, true_and, and_true]
          first | done | omega | (refine ⟨?_, ?_⟩ <;> first | omega | (rw [Bool.eq_iff_iff]; simp; omega)) | (rw [Bool.eq_iff_iff]; simp; omega)
        · rw [Hc.out, HX.out]
          exact rdn_pack (mkT (k + c)) (mkT (k + c + 1))   trivial
      case measure => simp [intOf]; omega
    · have e : j = d.length := by omega
      subst e
      have HOO : Hid (SlOwn rdnE S wr (mkAll rdnE k d) (.slice ao d.length cap)) := Lib.hid (by have := HO.out; rw [mkTo_all] at this; exact this)
      have hce : cntL rdnE (d.take d.length) = cntL rdnE d := by rw [List.take_length]
      rw [hce]
      go_wp2
      go_ret
      exact ⟨rfl, HOO.out, HT.out⟩
end Go.Proofs.YtmanlnlhpgdbpaaDoor
/- The helpers of the laws: marks. -/
namespace Go.Proofs.YtmanlnlhpgdbpaaDoor
open Go.RowKit
attribute [local go_sem ↓] Go.wp_at_zero Go.wp_at_succ

set_option maxRecDepth 100000 in
set_option maxHeartbeats 4000000 in
theorem markAttrS_at {S : Bs} (v : Value) (d : List AttrT) (k : Nat) (w : World) (h : SlOwn attrE S w d v) (hl : d.length ≤ 1048576) (hz : szL attrE d ≤ 1048576) (hk1 : 0 < k) (hk2 : k + cntL attrE d ≤ 1000000000) :
    Calls Tryd.prog 35 #[v, .int .i64 k] w fun e w' => e = .returned (.int .i64 ((k + cntL attrE d : Nat) : Int)) ∧ SlOwn attrE S w' (mkAll attrE k d) v ∧ Turn S w w' := by
  obtain ⟨ao, cap, rfl⟩ := h.at.sl
  have HS := Lib.hid h; clear h
  have HTx : Hid (∀ (X : World) (m : Nat) (q : Int), q = (m : Int) → 0 < m → m ≤ 1000000000 → Calls Tryd.prog 33 #[.int .i64 q] X fun e w' => e = .returned (.string (mkT m)) ∧ Below X.heap.size X w') := Lib.hid (fun X m q e h1 h2 => by subst e; exact markText_any m X h1 h2)
  have HM1 : Hid (∀ (X : World) (Sx : Bs) (u : Value) (V : List ByteArray) (m : Nat) (q : Int), q = (m : Int) → SlOwn strE Sx X V u → V.length ≤ 1048576 → szL strE V ≤ 1048576 → 0 < m → m + cntL strE V ≤ 1000000000 → Calls Tryd.prog 15 #[u, .int .i64 q] X fun e w' => e = .returned (.int .i64 ((m + cntL strE V : Nat) : Int)) ∧ SlOwn strE Sx w' (mkAll strE m V) u ∧ Turn Sx X w') := Lib.hid (fun X Sx u V m q e h h0 hz h1 h2 => by subst e; exact markStringS_at u V m X h h0 hz h1 h2)
  go_enter Tryd.func35, Tryd.ntmps35
  go_wp2
  go_loopw [1, 5] (fun t i wr => ∃ j : Nat, j ≤ d.length ∧ i = .int .i64 j ∧ t = .int .i64 ((k + cntL attrE (d.take j) : Nat) : Int) ∧ SlOwn attrE S wr (mkTo attrE k d j) (.slice ao d.length cap) ∧ Turn S w wr) (fun _ i _ => d.length - (intOf i).toNat)
  case atStart => exact ⟨0, Nat.zero_le _, rfl, by simp [cntL], by rw [mkTo_zero]; exact HS.out, Turn.refl _ _⟩
  case round =>
    obtain ⟨j, hj, rfl, rfl, hO, hT⟩ := hrel
    have HO := Lib.hid hO; have HT := Lib.hid hT; clear hO hT
    have hcl := cntL_take_le attrE d j
    by_cases hlt : j < d.length
    · obtain ⟨g, Sr, cs, rfl, hcap, hSg, hSr, hSub, hR, hrow, hown⟩ := mk_open HO.out hlt
      have HCs := Lib.hid (cntL_take attrE d j hlt)
      have hcs : cntL attrE (d.take j) + (attrE).cnt d[j] ≤ cntL attrE d := by have := cntL_take_le attrE d (j + 1); rw [HCs.out] at this; exact this
      obtain ⟨a0, a1, u1, S1, hx, rfl, q1, i1, _⟩ := attr_own hown
      rw [hx] at hcs
      have hct : (attrE).cnt (a0, a1) = 1 + (cntL strE a1) := rfl
      rw [hct] at hcs
      have HX := Lib.hid hx
      have hl1 : a1.length ≤ 1048576 := by have := szL_mem attrE (List.getElem_mem hlt); rw [hx] at this; have h2 : (attrE).sz (a0, a1) = a0.size + ((a1.length + szL strE a1)) := rfl; rw [h2] at this; omega
      have hz1 : szL strE a1 ≤ 1048576 := by have := szL_mem attrE (List.getElem_mem hlt); rw [hx] at this; have h2 : (attrE).sz (a0, a1) = a0.size + ((a1.length + szL strE a1)) := rfl; rw [h2] at this; omega
      clear hx hown
      have HR0 := Lib.hid hR; have HW0 := Lib.hid hrow; have HT0 := HT; clear hR hrow
      have HQ1 := Lib.hid q1; clear q1
      generalize hc : cntL attrE (d.take j) = c at *
      have Hc := Lib.hid hc; clear hc
      have g1 : (0 : Int) ≤ (j : Int) := by omega
      have g2 : (j : Int) < (d.length : Int) := by omega
      generalize hm1 : cntL strE a1 = m1 at *
      have Hm1 := Lib.hid hm1; clear hm1
      go_wp2_with fail
      refine (HTx.out wr (k + c) _ (by omega) (by omega) (by omega)).mono ?_
      rintro e X1 ⟨rfl, hb⟩
      have HW1 := Lib.hid (HW0.out.same (hb.block _ HW0.out.lt)); have HR1 := Lib.hid (HR0.out.turn (by rw [mkTo_length _ _ _ hj]; exact hlt) (Turn.of_below hb)); have HT1 := Lib.hid (HT0.out.trans (Turn.of_below hb))
      have HP1 := Lib.hid (HQ1.out.frame (Same.of_below' hb))
      clear hb HW0 HR0 HT0 HQ1
      have HW0 := HW1; have HR0 := HR1; have HT0 := HT1; clear HW1 HR1 HT1
      have HQ1 := HP1; clear HP1
      have c0 := HW0.out.cells 0 (by simp)
      have c0 : X1.cell? ⟨g, j * 2, none⟩ = some (.string a0) := c0
      have f0 : X1.frozen? ⟨g, j * 2, none⟩ = false := HW0.out.soft _
      have c1 := HW0.out.cells 1 (by simp)
      have c1 : X1.cell? ⟨g, j * 2 + 1, none⟩ = some (u1) := c1
      have f1 : X1.frozen? ⟨g, j * 2 + 1, none⟩ = false := HW0.out.soft _
      go_wp2_with fail
      refine calls_by (fun W => (∃ cs : List Value, RowAt W g (j * (attrE).n) cs ∧ cs = [.string (mkT (k + c)), u1]) ∧ Rest attrE S W (mkTo attrE k d j) g j Sr ∧ Turn S w W ∧ SlOwn strE S1 W (a1) u1) ⟨⟨_, (HW0.out.store (j := 0) (by simp) _), by simp only [List.set_cons_zero, List.set_cons_succ, List.cons.injEq, Value.int.injEq, Value.bool.injEq, true_and, and_true] <;> omega⟩, (HR0.out.store (u := 0) (by decide) _), (HT0.out.trans (Turn.store _ _ _ hSg)), (HQ1.out.frame (Same.set _ _ _ (fun z => hSr (i1 g z))))⟩ ?_
      try clear c0; try clear f0; try clear c1; try clear f1
      clear HR0 HW0 HT0 HQ1
      rintro X2 ⟨⟨cs, hw, rfl⟩, hr, ht, q1⟩
      have HW0 := Lib.hid hw; have HR0 := Lib.hid hr; have HT0 := Lib.hid ht; clear hw hr ht
      have HQ1 := Lib.hid q1; clear q1
      refine (HM1.out X2 S1 u1 a1 (k + c + 1) _ (by omega) HQ1.out hl1 hz1 (by omega) (by rw [Hm1.out]; omega)).mono ?_
      rintro e X3 ⟨rfl, q1, ht⟩
      have HW1 := Lib.hid (HW0.out.same (ht.block _ HW0.out.lt (fun z => hSr (i1 g z)))); have HR1 := Lib.hid (HR0.out.turn (by rw [mkTo_length _ _ _ hj]; exact hlt) (ht.wide i1)); have HT1 := Lib.hid (HT0.out.trans (ht.wide (fun z y => hSub z (i1 z y))))
      have HP1 := Lib.hid q1; clear q1
      clear ht HW0 HR0 HT0 HQ1
      have HW0 := HW1; have HR0 := HR1; have HT0 := HT1; clear HW1 HR1 HT1
      have HQ1 := HP1; clear HP1
      rw [Hm1.out]
      have c0 := HW0.out.cells 0 (by simp)
      have c0 : X3.cell? ⟨g, j * 2, none⟩ = some (.string (mkT (k + c))) := c0
      have f0 : X3.frozen? ⟨g, j * 2, none⟩ = false := HW0.out.soft _
      have c1 := HW0.out.cells 1 (by simp)
      have c1 : X3.cell? ⟨g, j * 2 + 1, none⟩ = some (u1) := c1
      have f1 : X3.frozen? ⟨g, j * 2 + 1, none⟩ = false := HW0.out.soft _
      go_wp2
      go_roundw
      case rel =>
        refine ⟨j + 1, by omega, by go_num, ?_, mk_close (cs := [.string (mkT (k + c)), u1]) HR0.out hlt hcap (RowAt.cong HW0.out ?_) ?_, HT0.out⟩
        · rw [HCs.out, HX.out, hct]; first | (congr 1; done) | (congr 1; omega)
        · simp only [List.set_cons_zero, List.set_cons_succ, List.cons.injEq, Value.int.injEq, Value.bool.injEq, true_and, and_true]
          first | done | omega | (refine ⟨?_, ?_⟩ <;> first | omega | (rw [Bool.eq_iff_iff]; simp; omega)) | (rw [Bool.eq_iff_iff]; simp; omega)
        · rw [Hc.out, HX.out]
          have e1 := Hm1.out
          subst e1
          exact attr_pack (mkT (k + c)) (mkAll strE (k + c + 1) a1) _ S1 ⟨HQ1.out, i1, trivial⟩
      case measure => simp [intOf]; omega
    · have e : j = d.length := by omega
      subst e
      have HOO : Hid (SlOwn attrE S wr (mkAll attrE k d) (.slice ao d.length cap)) := Lib.hid (by have := HO.out; rw [mkTo_all] at this; exact this)
      have hce : cntL attrE (d.take d.length) = cntL attrE d := by rw [List.take_length]
      rw [hce]
      go_wp2
      go_ret
      exact ⟨rfl, HOO.out, HT.out⟩
end Go.Proofs.YtmanlnlhpgdbpaaDoor
/- The helpers of the laws: marks. -/
namespace Go.Proofs.YtmanlnlhpgdbpaaDoor
open Go.RowKit
attribute [local go_sem ↓] Go.wp_at_zero Go.wp_at_succ

set_option maxRecDepth 100000 in
set_option maxHeartbeats 4000000 in
theorem markEntry_fl (a0 : (List RdnT)) (a1 : (List AttrT)) (u0 u1 : Value) (S0 S1 : Bs) (k : Nat) (w : World) (q0 : SlOwn rdnE S0 w a0 u0) (l0 : a0.length ≤ 1048576) (z0 : szL rdnE a0 ≤ 1048576) (q1 : SlOwn attrE S1 w a1 u1) (l1 : a1.length ≤ 1048576) (z1 : szL attrE a1 ≤ 1048576) (d0_1 : ∀ b, S0 b → ¬ S1 b) (y0 : ∀ b, S0 b → b < w.heap.size) (y1 : ∀ b, S1 b → b < w.heap.size) (hk1 : 0 < k) (hk2 : k + cntL rdnE a0 + cntL attrE a1 ≤ 1000000000) :
    Calls Tryd.prog 14 #[.agg #[u0, u1], .int .i64 k] w fun e w' => e = .returned (.int .i64 ((k + cntL rdnE a0 + cntL attrE a1 : Nat) : Int)) ∧ SlOwn rdnE S0 w' (mkAll rdnE (k) a0) u0 ∧ SlOwn attrE S1 w' (mkAll attrE (k + cntL rdnE a0) a1) u1 ∧ Turn (fun b => S0 b ∨ S1 b) w w' := by
  have C0 : Hid (∀ (X : World) (V : List RdnT) (m : Nat) (q : Int), q = (m : Int) → SlOwn rdnE S0 X V u0 → V.length ≤ 1048576 → szL rdnE V ≤ 1048576 → 0 < m → m + cntL rdnE V ≤ 1000000000 → Calls Tryd.prog 34 #[u0, .int .i64 q] X fun e w' => e = .returned (.int .i64 ((m + cntL rdnE V : Nat) : Int)) ∧ SlOwn rdnE S0 w' (mkAll rdnE m V) u0 ∧ Turn S0 X w') := Lib.hid (fun X V m q e h h0 hz h1 h2 => by subst e; exact markRdnS_at u0 V m X h h0 hz h1 h2)
  have C1 : Hid (∀ (X : World) (V : List AttrT) (m : Nat) (q : Int), q = (m : Int) → SlOwn attrE S1 X V u1 → V.length ≤ 1048576 → szL attrE V ≤ 1048576 → 0 < m → m + cntL attrE V ≤ 1000000000 → Calls Tryd.prog 35 #[u1, .int .i64 q] X fun e w' => e = .returned (.int .i64 ((m + cntL attrE V : Nat) : Int)) ∧ SlOwn attrE S1 w' (mkAll attrE m V) u1 ∧ Turn S1 X w') := Lib.hid (fun X V m q e h h0 hz h1 h2 => by subst e; exact markAttrS_at u1 V m X h h0 hz h1 h2)
  have Q0 := Lib.hid q0
  obtain ⟨o0, k0, rfl⟩ := q0.at.sl
  clear q0
  have Q1 := Lib.hid q1
  obtain ⟨o1, k1, rfl⟩ := q1.at.sl
  clear q1
  go_enter Tryd.func14, Tryd.ntmps14
  go_wp2_with fail
  refine calls_by (fun W => Below w.heap.size w W ∧ Blk W w.heap.size [.slice o0 a0.length k0, .slice o1 a1.length k1]) ⟨more' (Below.refl _ _) _, Blk.new _ _ _⟩ ?_
  rintro W0 ⟨b0, t0⟩
  have R0 := Lib.hid (Q0.out.frame (Same.of_below' b0)); clear Q0; have Q0 := R0; clear R0
  have R1 := Lib.hid (Q1.out.frame (Same.of_below' b0)); clear Q1; have Q1 := R1; clear R1
  have T0 := Lib.hid t0; have M0 : Hid (Turn (fun b => S0 b ∨ S1 b) w W0) := Lib.hid (Turn.of_below b0); clear b0
  clear t0
  generalize hm0 : cntL rdnE a0 = m0 at *
  have Hm0 := Lib.hid hm0; clear hm0
  generalize hm1 : cntL attrE a1 = m1 at *
  have Hm1 := Lib.hid hm1; clear hm1
  refine (C0.out W0 a0 (k) _ (by omega) Q0.out l0 z0 (by omega) (by rw [Hm0.out]; omega)).mono ?_
  rintro e W1 ⟨rfl, q0, ht⟩
  rw [Hm0.out]
  have R0 := Lib.hid q0
  have R1 := Lib.hid (Q1.out.frame (ht.same (fun z p r => by first | exact d0_1 z r p)))
  have T1 := Lib.hid (show Blk W1 w.heap.size _ from by obtain ⟨T, h⟩ := T0.out; exact ⟨T, (ht.block _ T0.out.lt (fun r => by first | (have := y0 _ r; omega))).trans h⟩)
  have M1 := Lib.hid (M0.out.trans (ht.wide (fun z r => by simp [r])))
  clear ht T0 M0 Q0 Q1 q0
  have Q0 := R0; clear R0
  have Q1 := R1; clear R1
  have c0 := T1.out.cell 0 rfl
  have c1 := T1.out.cell 1 rfl
  go_wp2_with fail
  refine (C1.out W1 a1 (k + m0) _ (by omega) Q1.out l1 z1 (by omega) (by rw [Hm1.out]; omega)).mono ?_
  rintro e W2 ⟨rfl, q1, ht⟩
  rw [Hm1.out]
  have R0 := Lib.hid (Q0.out.frame (ht.same (fun z p r => by first | exact d0_1 z p r)))
  have R1 := Lib.hid q1
  have T2 := Lib.hid (show Blk W2 w.heap.size _ from by obtain ⟨T, h⟩ := T1.out; exact ⟨T, (ht.block _ T1.out.lt (fun r => by first | (have := y1 _ r; omega))).trans h⟩)
  have M2 := Lib.hid (M1.out.trans (ht.wide (fun z r => by simp [r])))
  clear ht T1 M1 Q0 Q1 q1 c0 c1
  have Q0 := R0; clear R0
  have Q1 := R1; clear R1
  go_wp2
  go_ret
  have e0 := Hm0.out
  subst e0
  have e1 := Hm1.out
  subst e1
  exact ⟨ret_int (by omega), Q0.out, Q1.out, M2.out⟩
end Go.Proofs.YtmanlnlhpgdbpaaDoor
/- The helpers of the laws: marks asked. -/
namespace Go.Proofs.YtmanlnlhpgdbpaaDoor
open Go.RowKit
attribute [local go_sem ↓] Go.wp_at_zero Go.wp_at_succ

set_option maxRecDepth 100000 in
set_option maxHeartbeats 4000000 in
theorem heldStringS_at {S : Bs} (v : Value) (d : List ByteArray) (k : Nat) (w : World) (h : SlAt strE S w (mkAll strE k d) v) (hl : d.length ≤ 1048576) (hz : szL strE d ≤ 1048576) (hk1 : 0 < k) (hk2 : k + cntL strE d ≤ 1000000000) :
    Calls Tryd.prog 16 #[v, .int .i64 k] w fun e w' => e = .returned (.int .i64 ((k + cntL strE d : Nat) : Int)) ∧ Below w.heap.size w w' := by
  obtain ⟨ao, cap, rfl⟩ := h.sl
  have hml := mkAll_length strE k d
  rw [hml]
  rw [hml] at h
  have HS := Lib.hid h; clear h
  have HTx : Hid (∀ (X : World) (m : Nat) (q : Int), q = (m : Int) → 0 < m → m ≤ 1000000000 → Calls Tryd.prog 33 #[.int .i64 q] X fun e w' => e = .returned (.string (mkT m)) ∧ Below X.heap.size X w') := Lib.hid (fun X m q e h1 h2 => by subst e; exact markText_any m X h1 h2)
  go_enter Tryd.func16, Tryd.ntmps16
  go_wp2
  go_loopw [1, 5] (fun t i wr => ∃ j : Nat, j ≤ d.length ∧ i = .int .i64 j ∧ t = .int .i64 ((k + cntL strE (d.take j) : Nat) : Int) ∧ Below w.heap.size w wr) (fun _ i _ => d.length - (intOf i).toNat)
  case atStart => exact ⟨0, Nat.zero_le _, rfl, by simp [cntL], Below.refl _ _⟩
  case round =>
    obtain ⟨j, hj, rfl, rfl, hbel⟩ := hrel
    have hcl := cntL_take_le strE d j
    by_cases hlt : j < d.length
    · obtain ⟨b, off, x0, rfl, _, hb0, hx, hc0⟩ := str_row (HS.out.frame (Same.of_below' hbel)) (k := j) (by rw [hml]; exact hlt)
      have HCs := Lib.hid (cntL_take strE d j hlt)
      have hcs : cntL strE (d.take j) + (strE).cnt d[j] ≤ cntL strE d := by have := cntL_take_le strE d (j + 1); rw [HCs.out] at this; exact this
      rw [mkAll_get strE k d j hlt] at hx
      have hx : mkT (k + cntL strE (d.take j)) = x0 := hx
      subst hx
      have hct : strE.cnt d[j] = 1 := rfl
      rw [hct] at hcs
      generalize d[j] = a0 at *
      generalize hc' : cntL strE (d.take j) = c at *
      clear hc'
      have SK : Hid (∀ W : World, Below wr.heap.size wr W → (Below wr.heap.size wr W ∧ W.cell? ⟨b, off + j, none⟩ = some (.string (mkT (k + c))))) := Lib.hid (fun W h => ⟨h, (h.cell (p := ⟨b, _, none⟩) hb0).trans hc0⟩)
      have hw0 : Below wr.heap.size wr wr := Below.refl _ _
      have hbd : Below wr.heap.size wr wr.drew := hw0.drew
      have HBl := Lib.hid hbel
      clear hbel hc0
      have g1 : (0 : Int) ≤ (j : Int) := by omega
      have g2 : (j : Int) < (d.length : Int) := by omega
      have HT1 : Hid (∀ (X : World) (q : Int), q = ((k + c : Nat) : Int) → Below wr.heap.size wr X → Calls Tryd.prog 33 #[.int .i64 q] X fun e w' => e = .returned (.string (mkT (k + c))) ∧ Below wr.heap.size wr w') := Lib.hid (fun X q e h => (HTx.out X (k + c) q e (by omega) (by omega)).mono fun _ _ z => ⟨z.1, h.trans (z.2.mono h.size)⟩)
      have hkk : ((mkT (k + c)).toList == (mkT (k + c)).toList) = true := by simp
      generalize mkT (k + c) = A0 at *
      go_wp2_with fail
      go_region_held3 (fun W => Below wr.heap.size wr W ∧ W.cell? ⟨b, off + j, none⟩ = some (.string A0))
        (exact SK.out _ (by assumption))
        (first | (go_at_call 33; refine (HT1.out _ _ (by omega) (by assumption)).mono ?_; rintro e X1 ⟨rfl, hx1⟩) | (fail "none"))
      clear HT1 hkk
      go_wp2
      go_roundw
      case rel => exact ⟨j + 1, by omega, by go_num, by rw [HCs.out, hct]; first | (congr 1; done) | (congr 1; omega), HBl.out.trans (hx1.mono HBl.out.size)⟩
      case measure => simp [intOf]; omega
    · have e : j = d.length := by omega
      subst e
      have hce : cntL strE (d.take d.length) = cntL strE d := by rw [List.take_length]
      rw [hce]
      go_wp2
      go_ret
      exact ⟨rfl, hbel⟩
end Go.Proofs.YtmanlnlhpgdbpaaDoor
