/- Merged texts: szAttr, szEntry, toAttr, toEntry, eqAttr, eqEntry, MayChangeW, Opn. -/
import Derived.Test.YtglgkocjdockdaaM1
import Derived.Test.YtglgkocjdockdaaM2
import Derived.Test.YtglgkocjdockdaaM8
import Derived.Laws.MakeOwn
import Derived.SliceStrings
import Derived.Test.YtglgkocjdockdaaRows
/- The helpers of the laws: sizes. -/
namespace Go.Proofs.Ytglgkocjdockdaa
open Go.RowKit
attribute [local go_sem ↓] Go.wp_at_zero Go.wp_at_succ

set_option maxRecDepth 100000 in
set_option maxHeartbeats 4000000 in
theorem szAttr_at {S : Bs} (a0 : ByteArray) (a1 : (List ByteArray)) (v1 : Value) (left : Int) (w : World) (h1 : SlAt strE S w a1 v1) (hl : attrE.long (a0, a1)) (g0 : 0 ≤ left) (g1 : left ≤ 1048576) :
    Calls Try.prog 122 #[.agg #[.string a0, v1], .int .i64 left] w fun e w' => e = .returned (.int .i64 (leftR (attrE.sz (a0, a1)) left)) ∧ Below w.heap.size w w' := by
  have HE : Hid (attrE.sz (a0, a1) = a0.size + ((a1.length + szL strE a1))) := Lib.hid rfl
  have z0 : a0.size ≤ 9223372036854775807 := by have := hl.1; simp only [strE, maxLen] at this; omega
  have C1 : Hid (∀ (l : Int) (W : World), Below w.heap.size w W → 0 ≤ l → l ≤ 1048576 → Calls Try.prog 39 #[v1, .int .i64 l] W fun e w' => e = .returned (.int .i64 (leftR (a1.length + szL strE a1) l)) ∧ Below W.heap.size W w') := Lib.hid (fun l W b p q => szStringS_at v1 a1 l W (h1.frame (Same.of_below' b)) hl.2 p q)
  obtain ⟨o1, k1, rfl⟩ := h1.sl
  clear h1
  clear hl
  generalize attrE.sz (a0, a1) = z at *
  generalize (a1.length + szL strE a1) = r1 at *
  generalize a1.length = m1 at *
  by_cases g2 : (a0.size : Int) ≤ left
  · have c0 : ¬ left - (a0.size : Int) < 0 := by omega
    go_enter Try.func122, Try.ntmps122
    go_wp2_with fail
    refine calls_by (fun W => Below w.heap.size w W ∧ Blk W w.heap.size [.string a0, .slice o1 m1 k1]) ⟨more' (Below.refl _ _) _, Blk.new _ _ _⟩ ?_
    rintro w1 ⟨b1, t1⟩
    have T1 := Lib.hid t1; clear t1
    refine (C1.out _ w1 b1 (by omega) (by omega)).mono ?_
    rintro e w2 ⟨rfl, hb⟩
    have T2 := Lib.hid (T1.out.below hb); have b2 := b1.trans (hb.mono b1.size)
    clear hb b1 T1 C1
    by_cases g3 : (r1 : Int) ≤ left - (a0.size : Int)
    · rw [leftR_pos g3]
      have c1 : ¬ left - (a0.size : Int) - (r1 : Int) < 0 := by omega
      have q0 := T2.out.cell 0 rfl
      have q1 := T2.out.cell 1 rfl
      have HR : Hid (leftR z left = left - (a0.size : Int) - (r1 : Int)) := Lib.hid (by rw [leftR_pos (by rw [HE.out]; omega), HE.out]; omega)
      go_wp2
      go_ret
      exact ⟨ret_int (by rw [HR.out]), b2⟩
    · rw [leftR_neg g3]
      have HR : Hid (leftR z left = -1) := Lib.hid (leftR_neg (by rw [HE.out]; omega))
      go_wp2
      go_ret
      exact ⟨ret_int (by rw [HR.out]), b2⟩
  · have c0 : left - (a0.size : Int) < 0 := by omega
    have HR : Hid (leftR z left = -1) := Lib.hid (leftR_neg (by rw [HE.out]; omega))
    go_enter Try.func122, Try.ntmps122
    go_wp2
    go_ret
    exact ⟨ret_int (by rw [HR.out]), (Below.refl _ _).alloc (Nat.le_refl _) _⟩
set_option maxRecDepth 100000 in
set_option maxHeartbeats 4000000 in
theorem szAttrS_at {S : Bs} (v : Value) (d : List AttrT) (left : Int) (w : World) (hd : SlAt attrE S w d v) (hf : (slE attrE).long d) (h0 : 0 ≤ left) (h1 : left ≤ 1048576) :
    Calls Try.prog 78 #[v, .int .i64 left] w fun e w' => e = .returned (.int .i64 (leftR (d.length + szL attrE d) left)) ∧ Below w.heap.size w w' := by
  obtain ⟨ao, cap, rfl⟩ := hd.sl
  have hl : d.length ≤ 9223372036854775807 := hf.1
  have HD := Lib.hid hd; have HF := Lib.hid hf; clear hd hf
  by_cases g : (d.length : Int) ≤ left
  · have c1 : ¬ left - (d.length : Int) < 0 := by omega
    go_enter Try.func78, Try.ntmps78
    go_wp2
    go_loopw [1, 5] (fun t i wr => ∃ k : Nat, k ≤ d.length ∧ i = .int .i64 k ∧ ((d.length + szL attrE (d.take k) : Nat) : Int) ≤ left ∧ t = .int .i64 (left - (d.length + szL attrE (d.take k) : Nat)) ∧ Below w.heap.size w wr) (fun _ i _ => d.length - (intOf i).toNat)
    case atStart => exact ⟨0, Nat.zero_le _, rfl, by simp [szL]; omega, by simp [szL], Below.refl _ _⟩
    case round =>
      clear c1
      obtain ⟨k, hk, rfl, hle, rfl, hbel⟩ := hrel
      have hsz := hbel.size
      by_cases hlt : k < d.length
      · obtain ⟨b, off, a0, a1, v1, rfl, _, hb0, hx, ⟨hc0, hc1⟩, s1, _⟩ := attr_row (HD.out.frame (Same.of_below' hbel)) hlt
        have HV1 := Lib.hid s1; clear s1
        have HZ : Hid (attrE.long (a0, a1)) := Lib.hid (by have := HF.out.2 _ (List.getElem_mem hlt); rw [hx] at this; exact this)
        have HT : Hid (szL attrE (d.take (k + 1)) = szL attrE (d.take k) + attrE.sz (a0, a1)) := Lib.hid (by rw [szL_take attrE d k hlt, hx])
        have HTl := Lib.hid (szL_le attrE d (k + 1))
        clear hx
        generalize hq : d.length + szL attrE (d.take k) = q at *
        have Hq := Lib.hid hq; clear hq
        have HC := Lib.hid (szAttr_at a0 a1 v1 (left - (q : Int)) wr HV1.out HZ.out (by omega) (by omega))
        generalize attrE.sz (a0, a1) = r at *
        go_wp2_with fail
        refine HC.out.mono ?_
        rintro e w2 ⟨rfl, hb2⟩
        have B2 := Lib.hid (hbel.trans (hb2.mono hsz)); clear hb2
        by_cases hfit : (r : Int) ≤ left - (q : Int)
        · rw [leftR_pos hfit]
          have c2 : ¬ left - (q : Int) - (r : Int) < 0 := by omega
          go_wp2
          go_roundw
          case rel =>
            have e := HT.out
            have e3 := Hq.out
            exact ⟨k + 1, by omega, by go_num, by omega, by rw [e]; congr 1; omega, B2.out⟩
          case measure => simp [intOf]; omega
        · rw [leftR_neg hfit]
          have HR : Hid (leftR (d.length + szL attrE d) left = -1) := Lib.hid (leftR_neg (by
            have := HT.out; have := HTl.out; have := Hq.out; omega))
          go_wp2
          go_ret
          exact ⟨ret_int (by rw [HR.out]), B2.out⟩
      · have HR : Hid (leftR (d.length + szL attrE d) left = left - (d.length + szL attrE (d.take k) : Nat)) := Lib.hid (by
          rw [List.take_of_length_le (by omega)] at hle ⊢
          exact leftR_pos hle)
        go_wp2
        go_ret
        exact ⟨ret_int (by rw [HR.out]), hbel⟩
  · have HR : Hid (leftR (d.length + szL attrE d) left = -1) := Lib.hid (leftR_neg (by omega))
    have c1 : left - (d.length : Int) < 0 := by omega
    go_enter Try.func78, Try.ntmps78
    go_wp2
    go_ret
    exact ⟨ret_int (by rw [HR.out]), Below.refl _ _⟩
end Go.Proofs.Ytglgkocjdockdaa
/- The helpers of the laws: sizes. -/
namespace Go.Proofs.Ytglgkocjdockdaa
open Go.RowKit
attribute [local go_sem ↓] Go.wp_at_zero Go.wp_at_succ

set_option maxRecDepth 100000 in
set_option maxHeartbeats 4000000 in
theorem szEntry_at {S : Bs} (a0 : (List RdnT)) (a1 : (List AttrT)) (v0 v1 : Value) (left : Int) (w : World) (h0 : SlAt rdnE S w a0 v0) (h1 : SlAt attrE S w a1 v1) (hl : entryE.long (a0, a1)) (g0 : 0 ≤ left) (g1 : left ≤ 1048576) :
    Calls Try.prog 22 #[.agg #[v0, v1], .int .i64 left] w fun e w' => e = .returned (.int .i64 (leftR (entryE.sz (a0, a1)) left)) ∧ Below w.heap.size w w' := by
  have HE : Hid (entryE.sz (a0, a1) = (a0.length + szL rdnE a0) + ((a1.length + szL attrE a1))) := Lib.hid rfl
  have C0 : Hid (∀ (l : Int) (W : World), Below w.heap.size w W → 0 ≤ l → l ≤ 1048576 → Calls Try.prog 17 #[v0, .int .i64 l] W fun e w' => e = .returned (.int .i64 (leftR (a0.length + szL rdnE a0) l)) ∧ Below W.heap.size W w') := Lib.hid (fun l W b p q => szRdnS_at v0 a0 l W (h0.frame (Same.of_below' b)) hl.1 p q)
  have C1 : Hid (∀ (l : Int) (W : World), Below w.heap.size w W → 0 ≤ l → l ≤ 1048576 → Calls Try.prog 78 #[v1, .int .i64 l] W fun e w' => e = .returned (.int .i64 (leftR (a1.length + szL attrE a1) l)) ∧ Below W.heap.size W w') := Lib.hid (fun l W b p q => szAttrS_at v1 a1 l W (h1.frame (Same.of_below' b)) hl.2 p q)
  obtain ⟨o0, k0, rfl⟩ := h0.sl
  obtain ⟨o1, k1, rfl⟩ := h1.sl
  clear h0 h1
  clear hl
  generalize entryE.sz (a0, a1) = z at *
  generalize (a0.length + szL rdnE a0) = r0 at *
  generalize (a1.length + szL attrE a1) = r1 at *
  generalize a0.length = m0 at *
  generalize a1.length = m1 at *
  go_enter Try.func22, Try.ntmps22
  go_wp2_with fail
  refine calls_by (fun W => Below w.heap.size w W ∧ Blk W w.heap.size [.slice o0 m0 k0, .slice o1 m1 k1]) ⟨more' (Below.refl _ _) _, Blk.new _ _ _⟩ ?_
  rintro w1 ⟨b1, t1⟩
  have T1 := Lib.hid t1; clear t1
  refine (C0.out _ w1 b1 (by omega) (by omega)).mono ?_
  rintro e w2 ⟨rfl, hb⟩
  have T2 := Lib.hid (T1.out.below hb); have b2 := b1.trans (hb.mono b1.size)
  clear hb b1 T1 C0
  by_cases g2 : (r0 : Int) ≤ left
  · rw [leftR_pos g2]
    have c0 : ¬ left - (r0 : Int) < 0 := by omega
    have q0 := T2.out.cell 0 rfl
    have q1 := T2.out.cell 1 rfl
    go_wp2_with fail
    refine (C1.out _ w2 b2 (by omega) (by omega)).mono ?_
    rintro e w3 ⟨rfl, hb⟩
    have T3 := Lib.hid (T2.out.below hb); have b3 := b2.trans (hb.mono b2.size)
    clear hb b2 T2 C1 q0 q1
    by_cases g3 : (r1 : Int) ≤ left - (r0 : Int)
    · rw [leftR_pos g3]
      have c1 : ¬ left - (r0 : Int) - (r1 : Int) < 0 := by omega
      have q0 := T3.out.cell 0 rfl
      have q1 := T3.out.cell 1 rfl
      have HR : Hid (leftR z left = left - (r0 : Int) - (r1 : Int)) := Lib.hid (by rw [leftR_pos (by rw [HE.out]; omega), HE.out]; omega)
      go_wp2
      go_ret
      exact ⟨ret_int (by rw [HR.out]), b3⟩
    · rw [leftR_neg g3]
      have HR : Hid (leftR z left = -1) := Lib.hid (leftR_neg (by rw [HE.out]; omega))
      go_wp2
      go_ret
      exact ⟨ret_int (by rw [HR.out]), b3⟩
  · rw [leftR_neg g2]
    have HR : Hid (leftR z left = -1) := Lib.hid (leftR_neg (by rw [HE.out]; omega))
    go_wp2
    go_ret
    exact ⟨ret_int (by rw [HR.out]), b2⟩
set_option maxRecDepth 100000 in
set_option maxHeartbeats 4000000 in
theorem szEntryS_at {S : Bs} (v : Value) (d : List EntryT) (left : Int) (w : World) (hd : SlAt entryE S w d v) (hf : (slE entryE).long d) (h0 : 0 ≤ left) (h1 : left ≤ 1048576) :
    Calls Try.prog 32 #[v, .int .i64 left] w fun e w' => e = .returned (.int .i64 (leftR (d.length + szL entryE d) left)) ∧ Below w.heap.size w w' := by
  obtain ⟨ao, cap, rfl⟩ := hd.sl
  have hl : d.length ≤ 9223372036854775807 := hf.1
  have HD := Lib.hid hd; have HF := Lib.hid hf; clear hd hf
  by_cases g : (d.length : Int) ≤ left
  · have c1 : ¬ left - (d.length : Int) < 0 := by omega
    go_enter Try.func32, Try.ntmps32
    go_wp2
    go_loopw [1, 5] (fun t i wr => ∃ k : Nat, k ≤ d.length ∧ i = .int .i64 k ∧ ((d.length + szL entryE (d.take k) : Nat) : Int) ≤ left ∧ t = .int .i64 (left - (d.length + szL entryE (d.take k) : Nat)) ∧ Below w.heap.size w wr) (fun _ i _ => d.length - (intOf i).toNat)
    case atStart => exact ⟨0, Nat.zero_le _, rfl, by simp [szL]; omega, by simp [szL], Below.refl _ _⟩
    case round =>
      clear c1
      obtain ⟨k, hk, rfl, hle, rfl, hbel⟩ := hrel
      have hsz := hbel.size
      by_cases hlt : k < d.length
      · obtain ⟨b, off, a0, a1, v0, v1, rfl, _, hb0, hx, ⟨hc0, hc1⟩, s0, s1, _⟩ := entry_row (HD.out.frame (Same.of_below' hbel)) hlt
        have HV0 := Lib.hid s0; clear s0
        have HV1 := Lib.hid s1; clear s1
        have HZ : Hid (entryE.long (a0, a1)) := Lib.hid (by have := HF.out.2 _ (List.getElem_mem hlt); rw [hx] at this; exact this)
        have HT : Hid (szL entryE (d.take (k + 1)) = szL entryE (d.take k) + entryE.sz (a0, a1)) := Lib.hid (by rw [szL_take entryE d k hlt, hx])
        have HTl := Lib.hid (szL_le entryE d (k + 1))
        clear hx
        generalize hq : d.length + szL entryE (d.take k) = q at *
        have Hq := Lib.hid hq; clear hq
        have HC := Lib.hid (szEntry_at a0 a1 v0 v1 (left - (q : Int)) wr HV0.out HV1.out HZ.out (by omega) (by omega))
        generalize entryE.sz (a0, a1) = r at *
        go_wp2_with fail
        refine HC.out.mono ?_
        rintro e w2 ⟨rfl, hb2⟩
        have B2 := Lib.hid (hbel.trans (hb2.mono hsz)); clear hb2
        by_cases hfit : (r : Int) ≤ left - (q : Int)
        · rw [leftR_pos hfit]
          have c2 : ¬ left - (q : Int) - (r : Int) < 0 := by omega
          go_wp2
          go_roundw
          case rel =>
            have e := HT.out
            have e3 := Hq.out
            exact ⟨k + 1, by omega, by go_num, by omega, by rw [e]; congr 1; omega, B2.out⟩
          case measure => simp [intOf]; omega
        · rw [leftR_neg hfit]
          have HR : Hid (leftR (d.length + szL entryE d) left = -1) := Lib.hid (leftR_neg (by
            have := HT.out; have := HTl.out; have := Hq.out; omega))
          go_wp2
          go_ret
          exact ⟨ret_int (by rw [HR.out]), B2.out⟩
      · have HR : Hid (leftR (d.length + szL entryE d) left = left - (d.length + szL entryE (d.take k) : Nat)) := Lib.hid (by
          rw [List.take_of_length_le (by omega)] at hle ⊢
          exact leftR_pos hle)
        go_wp2
        go_ret
        exact ⟨ret_int (by rw [HR.out]), hbel⟩
  · have HR : Hid (leftR (d.length + szL entryE d) left = -1) := Lib.hid (leftR_neg (by omega))
    have c1 : left - (d.length : Int) < 0 := by omega
    go_enter Try.func32, Try.ntmps32
    go_wp2
    go_ret
    exact ⟨ret_int (by rw [HR.out]), Below.refl _ _⟩
end Go.Proofs.Ytglgkocjdockdaa
/- The helpers of the laws: copies. -/
namespace Go.Proofs.Ytglgkocjdockdaa
open Go.RowKit
attribute [local go_sem ↓] Go.wp_at_zero Go.wp_at_succ

theorem Try.infoTAttr : (Try.prog.info? 83).map (fun i => (i.zero, i.size, i.bytes)) = some (some (.agg #[.string ByteArray.empty, .slice none 0 0]), 2, 40) := by kernel_rfl
theorem mkAttr (n : Nat) (hn : n ≤ 1048576) (W : World) : ∃ C : Array Value, C.size = n * 2 ∧
    (Instr.makeSlice 40 (.int .i64 (n : Int)) (.int .i64 (n : Int))).run Try.prog W = .ok (.slice (some ⟨W.heap.size, 0, none⟩) n n) (W.alloc (.cells C 83)) := by
  obtain ⟨i0, hi, hz0, hz1, hz2⟩ := info_parts Try.infoTAttr
  have := run_make (P := Try.prog) W 40 83 i0 _ Try.underlying40 hi hz0 .i64 .i64 (n : Int) (n : Int) (by omega) (by omega) (by rw [hz2]; omega) (by omega)
  rw [hz1] at this
  refine ⟨madeCells (Value.cells (.agg #[.string ByteArray.empty, .slice none 0 0])) (n * 2), size_madeCells _ _, ?_⟩
  simpa using this
set_option maxRecDepth 100000 in
set_option maxHeartbeats 4000000 in
theorem toAttr_at {S : Bs} (a0 : ByteArray) (a1 : (List ByteArray)) (v1 : Value) (w : World) (h1 : SlAt strE S w a1 v1) (hz : attrE.sz (a0, a1) ≤ 1048576) :
    Calls Try.prog 124 #[.agg #[.string a0, v1]] w fun e w' => ∃ u1, e = .returned (.agg #[.string a0, u1]) ∧ attrE.Own (Fresh w w') w' (a0, a1) [.string a0, u1] ∧ Below w.heap.size w w' := by
  have HE : attrE.sz (a0, a1) = a0.size + ((a1.length + szL strE a1)) := rfl
  rw [HE] at hz
  have C1 : Hid (∀ W : World, Below w.heap.size w W → Calls Try.prog 41 #[v1] W fun e w' => ∃ u, e = .returned u ∧ SlOwn strE (Fresh W w') w' a1 u ∧ Below W.heap.size W w') := Lib.hid (fun W b => toStringS_at v1 a1 W (h1.frame (Same.of_below' b)) (by omega))
  obtain ⟨o1, k1, rfl⟩ := h1.sl
  clear hz HE h1
  go_enter Try.func124, Try.ntmps124
  go_wp2_with fail
  refine calls_by (fun W => Below w.heap.size w W ∧ Blk W w.heap.size [.string a0, .slice o1 a1.length k1] ∧ Blk W (w.heap.size + 1) [.string ⟨#[]⟩, .slice none 0 0] ∧ Blk W (w.heap.size + 1 + 1) [.string a0, .slice none 0 0]) ⟨more' (more' (more' (Below.refl _ _) _) _) _, ((Blk.new _ _ _).alloc _).alloc _, (blk_at _ _ _ (by simp)).alloc _, blk_at _ _ _ (by simp)⟩ ?_
  rintro W0 ⟨b0, t0, r0, s0⟩
  have hn : w.heap.size + 1 + 1 < W0.heap.size := s0.lt
  refine (C1.out W0 b0).mono ?_
  rintro e y1 ⟨u1, rfl, q1, hb⟩
  obtain ⟨p1, j1, rfl⟩ := q1.at.sl
  have T := Lib.hid (t0.below hb); have Rr := Lib.hid (r0.below hb); have U := Lib.hid (s0.below hb); have B := Lib.hid (b0.trans (hb.mono b0.size)); have hs1 := hb.size
  have Q1 := Lib.hid q1
  clear t0 r0 s0 b0 hb q1 C1
  have m0 := T.out.cell 0 rfl
  have c0 := U.out.cell 0 rfl
  have f0 := U.out.soft 0
  have m1 := T.out.cell 1 rfl
  have c1 := U.out.cell 1 rfl
  have f1 := U.out.soft 1
  have TE := (((Rr.out.far (R := w.heap.size + 1 + 1) (j := 1) (by omega) (.slice p1 a1.length j1)).set 0 (.string a0)).set 1 (.slice p1 a1.length j1))
  have d0 := Rr.out.cell 0 rfl
  have g0 := Rr.out.soft 0
  have k100 := TE.cell 0 rfl
  have d1 := Rr.out.cell 1 rfl
  have g1 := Rr.out.soft 1
  have k101 := TE.cell 1 rfl
  clear TE
  go_wp2_with fail
  refine bodyPost_ret (v := .agg #[.string a0, .slice p1 a1.length j1]) (by simp [results, Try.results124, go_sem, k100, k101]) rfl ⟨_, rfl, ?_, ?_⟩
  · exact attr_pack a0 a1 _ (Fresh W0 y1) ⟨(((Q1.out.frame (Same.set _ _ _ (by intro h; have := h.1; omega))).frame (Same.set _ _ _ (by intro h; have := h.1; omega))).frame (Same.set _ _ _ (by intro h; have := h.1; omega))), (fun k z => ⟨by have := z.1; omega, by have := z.2; show _ < (World.heap _).size; simp only [setCell_size]; omega⟩), trivial⟩
  · exact (((B.out.setCell (p := ⟨w.heap.size + 1 + 1, 1, none⟩) (by show w.heap.size ≤ w.heap.size + 1 + 1; omega) _).setCell (p := ⟨w.heap.size + 1, 0, none⟩) (by show w.heap.size ≤ w.heap.size + 1; omega) _).setCell (p := ⟨w.heap.size + 1, 1, none⟩) (by show w.heap.size ≤ w.heap.size + 1; omega) _)
set_option maxRecDepth 100000 in
set_option maxHeartbeats 4000000 in
theorem toAttrS_at {S : Bs} (v : Value) (d : List AttrT) (w : World) (hd : SlAt attrE S w d v) (hz : d.length + szL attrE d ≤ 1048576) :
    Calls Try.prog 82 #[v] w fun e w' => ∃ u, e = .returned u ∧ SlOwn attrE (Fresh w w') w' d u ∧ Below w.heap.size w w' := by
  obtain ⟨ao, cap, rfl⟩ := hd.sl
  have HD := Lib.hid hd; clear hd
  have HL := Lib.hid hz
  have hl : d.length ≤ 1048576 := by omega
  clear hz
  obtain ⟨C, hC, hmk⟩ := mkAttr d.length hl w
  have HC := Lib.hid hC; clear hC
  go_enter Try.func82, Try.ntmps82
  go_wp2
  clear hmk
  go_loopw [4] (fun i wr => ∃ k : Nat, k ≤ d.length ∧ i = .int .i64 k ∧ Build attrE wr w.heap.size d.length (d.take k) ∧ Below w.heap.size w wr) (fun i _ => d.length - (intOf i).toNat)
  case atStart => exact ⟨0, Nat.zero_le _, rfl, Build.new _ _ _ _ HC.out, (Below.refl _ _).alloc (Nat.le_refl _) _⟩
  case round =>
    obtain ⟨k, hk, rfl, hR, hbel⟩ := hrel
    have HR := Lib.hid hR; clear hR
    have hsz := hbel.size
    by_cases hlt : k < d.length
    · obtain ⟨b, off, a0, a1, v1, rfl, _, hb0, hx, ⟨hc0, hc1⟩, s1, _⟩ := attr_row (HD.out.frame (Same.of_below' hbel)) hlt
      have HT : Hid (d.take (k + 1) = d.take k ++ [(a0, a1)]) := Lib.hid (by rw [List.take_succ_eq_append_getElem hlt, hx])
      have HK : Hid ((d.take k).length = k) := Lib.hid (by rw [List.length_take]; omega)
      have HZ : Hid (attrE.sz (a0, a1) ≤ 1048576) := Lib.hid (by have h1 := szL_mem attrE (List.getElem_mem hlt); rw [hx] at h1; have := HL.out; omega)
      clear hx
      have HV1 := Lib.hid s1; clear s1
      obtain ⟨o1, k1, rfl⟩ := HV1.out.sl
      go_wp2_with fail
      refine (toAttr_at a0 a1 _ wr HV1.out HZ.out).mono ?_
      rintro e w2 ⟨u1, rfl, hq, hb2⟩
      have HR2 := Lib.hid (HR.out.below hb2)
      have B2 := Lib.hid (hbel.trans (hb2.mono hsz))
      have HQ := Lib.hid hq
      have HB := Lib.hid hb2
      clear hb2 hq hc0 hc1
      have hsl := attr_sl HQ.out rfl
      obtain ⟨p1, l1, j1, rfl⟩ := hsl
      obtain ⟨x0, c0⟩ := HR2.out.cell (k := k) (u := 0) hlt (by decide)
      have c0 : w2.cell? ⟨w.heap.size, k * 2, none⟩ = some x0 := c0
      have f0 := HR2.out.soft (k * 2)
      obtain ⟨x1, c1⟩ := HR2.out.cell (k := k) (u := 1) hlt (by decide)
      have c1 : w2.cell? ⟨w.heap.size, k * 2 + 1, none⟩ = some x1 := c1
      have f1 := HR2.out.soft (k * 2 + 1)
      go_wp2
      go_roundw
      case rel => exact ⟨k + 1, by omega, by go_num, by rw [HT.out]; exact HR.out.row (o := k * 2) (cs := [.string a0, .slice p1 l1 j1]) (by rw [HK.out]; exact hlt) (by rw [HK.out]; rfl) HB.out HQ.out, ((B2.out.setCell (Nat.le_refl _) _).setCell (Nat.le_refl _) _)⟩
      case measure => simp [intOf]; omega
    · have e : d.take k = d := List.take_of_length_le (by omega)
      rw [e] at HR
      clear e
      go_wp2
      go_ret
      exact ⟨_, rfl, HR.out.own, hbel⟩
end Go.Proofs.Ytglgkocjdockdaa
/- The helpers of the laws: copies. -/
namespace Go.Proofs.Ytglgkocjdockdaa
open Go.RowKit
attribute [local go_sem ↓] Go.wp_at_zero Go.wp_at_succ

theorem Try.infoTEntry : (Try.prog.info? 42).map (fun i => (i.zero, i.size, i.bytes)) = some (some (.agg #[.slice none 0 0, .slice none 0 0]), 2, 48) := by kernel_rfl
theorem mkEntry (n : Nat) (hn : n ≤ 1048576) (W : World) : ∃ C : Array Value, C.size = n * 2 ∧
    (Instr.makeSlice 55 (.int .i64 (n : Int)) (.int .i64 (n : Int))).run Try.prog W = .ok (.slice (some ⟨W.heap.size, 0, none⟩) n n) (W.alloc (.cells C 42)) := by
  obtain ⟨i0, hi, hz0, hz1, hz2⟩ := info_parts Try.infoTEntry
  have := run_make (P := Try.prog) W 55 42 i0 _ Try.underlying55 hi hz0 .i64 .i64 (n : Int) (n : Int) (by omega) (by omega) (by rw [hz2]; omega) (by omega)
  rw [hz1] at this
  refine ⟨madeCells (Value.cells (.agg #[.slice none 0 0, .slice none 0 0])) (n * 2), size_madeCells _ _, ?_⟩
  simpa using this
set_option maxRecDepth 100000 in
set_option maxHeartbeats 4000000 in
theorem toEntry_at {S : Bs} (a0 : (List RdnT)) (a1 : (List AttrT)) (v0 v1 : Value) (w : World) (h0 : SlAt rdnE S w a0 v0) (h1 : SlAt attrE S w a1 v1) (hz : entryE.sz (a0, a1) ≤ 1048576) :
    Calls Try.prog 24 #[.agg #[v0, v1]] w fun e w' => ∃ u0 u1, e = .returned (.agg #[u0, u1]) ∧ entryE.Own (Fresh w w') w' (a0, a1) [u0, u1] ∧ Below w.heap.size w w' := by
  have HE : entryE.sz (a0, a1) = (a0.length + szL rdnE a0) + ((a1.length + szL attrE a1)) := rfl
  rw [HE] at hz
  have C0 : Hid (∀ W : World, Below w.heap.size w W → Calls Try.prog 19 #[v0] W fun e w' => ∃ u, e = .returned u ∧ SlOwn rdnE (Fresh W w') w' a0 u ∧ Below W.heap.size W w') := Lib.hid (fun W b => toRdnS_at v0 a0 W (h0.frame (Same.of_below' b)) (by omega))
  have C1 : Hid (∀ W : World, Below w.heap.size w W → Calls Try.prog 82 #[v1] W fun e w' => ∃ u, e = .returned u ∧ SlOwn attrE (Fresh W w') w' a1 u ∧ Below W.heap.size W w') := Lib.hid (fun W b => toAttrS_at v1 a1 W (h1.frame (Same.of_below' b)) (by omega))
  obtain ⟨o0, k0, rfl⟩ := h0.sl
  obtain ⟨o1, k1, rfl⟩ := h1.sl
  clear hz HE h0 h1
  go_enter Try.func24, Try.ntmps24
  go_wp2_with fail
  refine calls_by (fun W => Below w.heap.size w W ∧ Blk W w.heap.size [.slice o0 a0.length k0, .slice o1 a1.length k1] ∧ Blk W (w.heap.size + 1) [.slice none 0 0, .slice none 0 0] ∧ Blk W (w.heap.size + 1 + 1) [.slice none 0 0, .slice none 0 0]) ⟨more' (more' (more' (Below.refl _ _) _) _) _, ((Blk.new _ _ _).alloc _).alloc _, (blk_at _ _ _ (by simp)).alloc _, blk_at _ _ _ (by simp)⟩ ?_
  rintro W0 ⟨b0, t0, r0, s0⟩
  have hn : w.heap.size + 1 + 1 < W0.heap.size := s0.lt
  refine (C0.out W0 b0).mono ?_
  rintro e y1 ⟨u0, rfl, q0, hb⟩
  obtain ⟨p0, j0, rfl⟩ := q0.at.sl
  have T := Lib.hid (t0.below hb); have Rr := Lib.hid (r0.below hb); have U := Lib.hid (s0.below hb); have B := Lib.hid (b0.trans (hb.mono b0.size)); have hs1 := hb.size
  have Q0 := Lib.hid q0
  clear t0 r0 s0 b0 hb q0 C0
  have m0 := T.out.cell 0 rfl
  have c0 := U.out.cell 0 rfl
  have f0 := U.out.soft 0
  have m1 := T.out.cell 1 rfl
  have c1 := U.out.cell 1 rfl
  have f1 := U.out.soft 1
  go_wp2_with fail
  have hW : y1.heap.size = y1.heap.size := rfl
  refine calls_by (fun W => y1.heap.size ≤ W.heap.size ∧ Below w.heap.size w W ∧ Blk W w.heap.size [.slice o0 a0.length k0, .slice o1 a1.length k1] ∧ Blk W (w.heap.size + 1) [.slice none 0 0, .slice none 0 0] ∧ Blk W (w.heap.size + 1 + 1) [.slice p0 a0.length j0, .slice none 0 0] ∧ SlOwn rdnE (Fresh W0 y1) W a0 (.slice p0 a0.length j0)) ⟨by simp [World.setCell], (B.out.setCell (p := ⟨w.heap.size + 1 + 1, 0, none⟩) (by show w.heap.size ≤ w.heap.size + 1 + 1; omega) _), (T.out.far (by omega) _), (Rr.out.far (by omega) _), (U.out.set 0 _), (Q0.out.frame (Same.set _ _ _ (by intro h; have := h.1; omega)))⟩ ?_
  clear T Rr U B Q0
  rintro W1 ⟨hl1, b1, t1, r1, s1, q0⟩
  have Q0 := Lib.hid q0; clear q0
  refine (C1.out W1 b1).mono ?_
  rintro e y2 ⟨u1, rfl, q1, hb⟩
  obtain ⟨p1, j1, rfl⟩ := q1.at.sl
  have T := Lib.hid (t1.below hb); have Rr := Lib.hid (r1.below hb); have U := Lib.hid (s1.below hb); have B := Lib.hid (b1.trans (hb.mono b1.size)); have hs2 := hb.size
  have Q1 := Lib.hid q1
  have Q0 := Lib.hid (Q0.out.frame (Same.of_below' hb))
  clear t1 r1 s1 b1 hb q1 C1
  clear c0 f0 m0 c1 f1 m1
  have m0 := T.out.cell 0 rfl
  have c0 := U.out.cell 0 rfl
  have f0 := U.out.soft 0
  have m1 := T.out.cell 1 rfl
  have c1 := U.out.cell 1 rfl
  have f1 := U.out.soft 1
  have TE := (((Rr.out.far (R := w.heap.size + 1 + 1) (j := 1) (by omega) (.slice p1 a1.length j1)).set 0 (.slice p0 a0.length j0)).set 1 (.slice p1 a1.length j1))
  have d0 := Rr.out.cell 0 rfl
  have g0 := Rr.out.soft 0
  have k100 := TE.cell 0 rfl
  have d1 := Rr.out.cell 1 rfl
  have g1 := Rr.out.soft 1
  have k101 := TE.cell 1 rfl
  clear TE
  go_wp2_with fail
  refine bodyPost_ret (v := .agg #[.slice p0 a0.length j0, .slice p1 a1.length j1]) (by simp [results, Try.results24, go_sem, k100, k101]) rfl ⟨_, _, rfl, ?_, ?_⟩
  · exact entry_pack a0 a1 _ _ (Fresh W0 y1) (Fresh W1 y2) ⟨(((Q0.out.frame (Same.set _ _ _ (by intro h; have := h.1; omega))).frame (Same.set _ _ _ (by intro h; have := h.1; omega))).frame (Same.set _ _ _ (by intro h; have := h.1; omega))), (fun k z => ⟨by have := z.1; omega, by have := z.2; show _ < (World.heap _).size; simp only [setCell_size]; omega⟩), (((Q1.out.frame (Same.set _ _ _ (by intro h; have := h.1; omega))).frame (Same.set _ _ _ (by intro h; have := h.1; omega))).frame (Same.set _ _ _ (by intro h; have := h.1; omega))), (fun k z => ⟨by have := z.1; omega, by have := z.2; show _ < (World.heap _).size; simp only [setCell_size]; omega⟩), (fun k z y => by have := z.2; have := y.1; omega), trivial⟩
  · exact (((B.out.setCell (p := ⟨w.heap.size + 1 + 1, 1, none⟩) (by show w.heap.size ≤ w.heap.size + 1 + 1; omega) _).setCell (p := ⟨w.heap.size + 1, 0, none⟩) (by show w.heap.size ≤ w.heap.size + 1; omega) _).setCell (p := ⟨w.heap.size + 1, 1, none⟩) (by show w.heap.size ≤ w.heap.size + 1; omega) _)
set_option maxRecDepth 100000 in
set_option maxHeartbeats 4000000 in
theorem toEntryS_at {S : Bs} (v : Value) (d : List EntryT) (w : World) (hd : SlAt entryE S w d v) (hz : d.length + szL entryE d ≤ 1048576) :
    Calls Try.prog 34 #[v] w fun e w' => ∃ u, e = .returned u ∧ SlOwn entryE (Fresh w w') w' d u ∧ Below w.heap.size w w' := by
  obtain ⟨ao, cap, rfl⟩ := hd.sl
  have HD := Lib.hid hd; clear hd
  have HL := Lib.hid hz
  have hl : d.length ≤ 1048576 := by omega
  clear hz
  obtain ⟨C, hC, hmk⟩ := mkEntry d.length hl w
  have HC := Lib.hid hC; clear hC
  go_enter Try.func34, Try.ntmps34
  go_wp2
  clear hmk
  go_loopw [4] (fun i wr => ∃ k : Nat, k ≤ d.length ∧ i = .int .i64 k ∧ Build entryE wr w.heap.size d.length (d.take k) ∧ Below w.heap.size w wr) (fun i _ => d.length - (intOf i).toNat)
  case atStart => exact ⟨0, Nat.zero_le _, rfl, Build.new _ _ _ _ HC.out, (Below.refl _ _).alloc (Nat.le_refl _) _⟩
  case round =>
    obtain ⟨k, hk, rfl, hR, hbel⟩ := hrel
    have HR := Lib.hid hR; clear hR
    have hsz := hbel.size
    by_cases hlt : k < d.length
    · obtain ⟨b, off, a0, a1, v0, v1, rfl, _, hb0, hx, ⟨hc0, hc1⟩, s0, s1, _⟩ := entry_row (HD.out.frame (Same.of_below' hbel)) hlt
      have HT : Hid (d.take (k + 1) = d.take k ++ [(a0, a1)]) := Lib.hid (by rw [List.take_succ_eq_append_getElem hlt, hx])
      have HK : Hid ((d.take k).length = k) := Lib.hid (by rw [List.length_take]; omega)
      have HZ : Hid (entryE.sz (a0, a1) ≤ 1048576) := Lib.hid (by have h1 := szL_mem entryE (List.getElem_mem hlt); rw [hx] at h1; have := HL.out; omega)
      clear hx
      have HV0 := Lib.hid s0; clear s0
      have HV1 := Lib.hid s1; clear s1
      obtain ⟨o0, k0, rfl⟩ := HV0.out.sl
      obtain ⟨o1, k1, rfl⟩ := HV1.out.sl
      go_wp2_with fail
      refine (toEntry_at a0 a1 _ _ wr HV0.out HV1.out HZ.out).mono ?_
      rintro e w2 ⟨u0, u1, rfl, hq, hb2⟩
      have HR2 := Lib.hid (HR.out.below hb2)
      have B2 := Lib.hid (hbel.trans (hb2.mono hsz))
      have HQ := Lib.hid hq
      have HB := Lib.hid hb2
      clear hb2 hq hc0 hc1
      have hsl := entry_sl HQ.out rfl
      obtain ⟨⟨p0, l0, j0, rfl⟩, ⟨p1, l1, j1, rfl⟩⟩ := hsl
      obtain ⟨x0, c0⟩ := HR2.out.cell (k := k) (u := 0) hlt (by decide)
      have c0 : w2.cell? ⟨w.heap.size, k * 2, none⟩ = some x0 := c0
      have f0 := HR2.out.soft (k * 2)
      obtain ⟨x1, c1⟩ := HR2.out.cell (k := k) (u := 1) hlt (by decide)
      have c1 : w2.cell? ⟨w.heap.size, k * 2 + 1, none⟩ = some x1 := c1
      have f1 := HR2.out.soft (k * 2 + 1)
      go_wp2
      go_roundw
      case rel => exact ⟨k + 1, by omega, by go_num, by rw [HT.out]; exact HR.out.row (o := k * 2) (cs := [.slice p0 l0 j0, .slice p1 l1 j1]) (by rw [HK.out]; exact hlt) (by rw [HK.out]; rfl) HB.out HQ.out, ((B2.out.setCell (Nat.le_refl _) _).setCell (Nat.le_refl _) _)⟩
      case measure => simp [intOf]; omega
    · have e : d.take k = d := List.take_of_length_le (by omega)
      rw [e] at HR
      clear e
      go_wp2
      go_ret
      exact ⟨_, rfl, HR.out.own, hbel⟩
end Go.Proofs.Ytglgkocjdockdaa
/- The helpers of the laws: comparisons. -/
namespace Go.Proofs.Ytglgkocjdockdaa
open Go.RowKit
attribute [local go_sem ↓] Go.wp_at_zero Go.wp_at_succ

set_option maxRecDepth 100000 in
set_option maxHeartbeats 4000000 in
theorem eqAttr_at {S S' : Bs} (w0 : World) (a0 : ByteArray) (a1 : (List ByteArray)) (v1 : Value) (u1 : Value) (w : World) (hB : Below w0.heap.size w0 w) (h1 : SlAt strE S w0 a1 v1) (g1 : SlAt strE S' w0 a1 u1) (hz : attrE.sz (a0, a1) ≤ 1048576) :
    Calls Try.prog 129 #[.agg #[.string a0, v1], .agg #[.string a0, u1]] w fun e w' => e = .returned (.bool true) ∧ Below w0.heap.size w0 w' := by
  have HE : attrE.sz (a0, a1) = a0.size + ((a1.length + szL strE a1)) := rfl
  rw [HE] at hz
  have hk0 : (a0.toList == a0.toList) = true := by simp
  have C1 : Hid (∀ W : World, Below w0.heap.size w0 W → Calls Try.prog 43 #[v1, u1] W fun e w' => e = .returned (.bool true) ∧ Below W.heap.size W w') := Lib.hid (fun W b => eqStringS_at v1 u1 a1 W (h1.frame (Same.of_below' b)) (g1.frame (Same.of_below' b)) (by omega))
  obtain ⟨o1, k1, rfl⟩ := h1.sl
  obtain ⟨p1, j1, rfl⟩ := g1.sl
  clear hz HE h1 g1
  have HB := Lib.hid hB
  clear hB
  go_enter Try.func129, Try.ntmps129
  go_wp2_with fail
  refine calls_by (fun W => Below w0.heap.size w0 W ∧ Blk W w.heap.size [.string a0, .slice o1 a1.length k1] ∧ Blk W (w.heap.size + 1) [.string a0, .slice p1 a1.length j1]) ⟨more' (more' HB.out _) _, (Blk.new _ _ _).alloc _, blk_at _ _ _ (by simp)⟩ ?_
  rintro W1 ⟨b1, x1, y1⟩
  have X1 := Lib.hid x1; have Y1 := Lib.hid y1; clear x1 y1
  refine (C1.out W1 b1).mono ?_
  rintro e W2 ⟨rfl, hb⟩
  have X2 := Lib.hid (X1.out.below hb); have Y2 := Lib.hid (Y1.out.below hb); have b2 := b1.trans (hb.mono b1.size)
  clear X1 Y1 hb b1 C1
  have m0 := X2.out.cell 0 rfl
  have n0 := Y2.out.cell 0 rfl
  have m1 := X2.out.cell 1 rfl
  have n1 := Y2.out.cell 1 rfl
  go_wp2
  go_ret
  exact ⟨rfl, b2⟩
set_option maxRecDepth 100000 in
set_option maxHeartbeats 4000000 in
theorem eqAttrS_at {S S' : Bs} (v u : Value) (d : List AttrT) (w : World) (hd : SlAt attrE S w d v) (hu : SlAt attrE S' w d u) (hz : d.length + szL attrE d ≤ 1048576) :
    Calls Try.prog 87 #[v, u] w fun e w' => e = .returned (.bool true) ∧ Below w.heap.size w w' := by
  obtain ⟨ao, ca, rfl⟩ := hd.sl
  obtain ⟨bo, cb, rfl⟩ := hu.sl
  have HA := Lib.hid hd; have HB := Lib.hid hu; clear hd hu
  have HL := Lib.hid hz
  have hl : d.length ≤ 1048576 := by omega
  clear hz
  go_enter Try.func87, Try.ntmps87
  go_wp2
  go_loopw [5] (fun i wr => ∃ k : Nat, k ≤ d.length ∧ i = .int .i64 k ∧ Below w.heap.size w wr) (fun i _ => d.length - (intOf i).toNat)
  case atStart => exact ⟨0, Nat.zero_le _, rfl, Below.refl _ _⟩
  case round =>
    obtain ⟨k, hk, rfl, hbel⟩ := hrel
    have hsz := hbel.size
    by_cases hlt : k < d.length
    · obtain ⟨p, off, a0, a1, v1, rfl, _, hp0, hx, hc, s1, _⟩ := attr_row (HA.out.frame (Same.of_below' hbel)) hlt
      obtain ⟨q, off', x0, x1, u1, rfl, _, hq0, hx', hd, t1, _⟩ := attr_row (HB.out.frame (Same.of_below' hbel)) hlt
      have hxx := hx.symm.trans hx'
      simp only [Prod.mk.injEq] at hxx
      obtain ⟨rfl, rfl⟩ := hxx
      have HZ : Hid (attrE.sz (a0, a1) ≤ 1048576) := Lib.hid (by have h1 := szL_mem attrE (List.getElem_mem hlt); rw [hx] at h1; have := HL.out; omega)
      clear hx hx'
      have C : Hid (∀ W : World, Below wr.heap.size wr W → Calls Try.prog 129 #[.agg #[.string a0, v1], .agg #[.string a0, u1]] W fun e w' => e = .returned (.bool true) ∧ Below wr.heap.size wr w') := Lib.hid (fun W b => eqAttr_at wr a0 a1 v1 u1 W b s1 t1 HZ.out)
      clear s1 t1 HZ
      have SK : Hid (∀ W : World, Below wr.heap.size wr W → (Below wr.heap.size wr W ∧ (W.cell? ⟨p, off + k * 2, none⟩ = some (.string a0) ∧ W.cell? ⟨p, off + k * 2 + 1, none⟩ = some (v1)) ∧ (W.cell? ⟨q, off' + k * 2, none⟩ = some (.string a0) ∧ W.cell? ⟨q, off' + k * 2 + 1, none⟩ = some (u1)))) :=
        Lib.hid (fun W h => ⟨h, ⟨(h.cell (p := ⟨p, _, none⟩) hp0).trans hc.1, (h.cell (p := ⟨p, _, none⟩) hp0).trans hc.2⟩, ⟨(h.cell (p := ⟨q, _, none⟩) hq0).trans hd.1, (h.cell (p := ⟨q, _, none⟩) hq0).trans hd.2⟩⟩)
      have hbd : Below wr.heap.size wr wr.drew := (Below.refl _ _).drew
      have hb0 : Below wr.heap.size wr wr := Below.refl _ _
      have HBl := Lib.hid hbel
      clear hc hd hbel
      have g1 : (0 : Int) ≤ (k : Int) := by omega
      have g2 : (k : Int) < (d.length : Int) := by omega
      go_wp2_with fail
      go_region_held3 (fun W => Below wr.heap.size wr W ∧ (W.cell? ⟨p, off + k * 2, none⟩ = some (.string a0) ∧ W.cell? ⟨p, off + k * 2 + 1, none⟩ = some (v1)) ∧ (W.cell? ⟨q, off' + k * 2, none⟩ = some (.string a0) ∧ W.cell? ⟨q, off' + k * 2 + 1, none⟩ = some (u1)))
        (exact SK.out _ (by assumption))
        (first | (go_at_call 129; refine (C.out _ (by assumption)).mono ?_; rintro e w2 ⟨rfl, hb2⟩) | (fail "none"))
      all_goals
        go_wp2
        go_roundw
        case rel => exact ⟨k + 1, by omega, by go_num, HBl.out.trans (hb2.mono HBl.out.size)⟩
        case measure => simp [intOf]; omega
    · go_wp2
      go_ret
      exact ⟨rfl, hbel⟩
end Go.Proofs.Ytglgkocjdockdaa
/- The helpers of the laws: comparisons. -/
namespace Go.Proofs.Ytglgkocjdockdaa
open Go.RowKit
attribute [local go_sem ↓] Go.wp_at_zero Go.wp_at_succ

set_option maxRecDepth 100000 in
set_option maxHeartbeats 4000000 in
theorem eqEntry_at {S S' : Bs} (w0 : World) (a0 : (List RdnT)) (a1 : (List AttrT)) (v0 v1 : Value) (u0 u1 : Value) (w : World) (hB : Below w0.heap.size w0 w) (h0 : SlAt rdnE S w0 a0 v0) (h1 : SlAt attrE S w0 a1 v1) (g0 : SlAt rdnE S' w0 a0 u0) (g1 : SlAt attrE S' w0 a1 u1) (hz : entryE.sz (a0, a1) ≤ 1048576) :
    Calls Try.prog 27 #[.agg #[v0, v1], .agg #[u0, u1]] w fun e w' => e = .returned (.bool true) ∧ Below w0.heap.size w0 w' := by
  have HE : entryE.sz (a0, a1) = (a0.length + szL rdnE a0) + ((a1.length + szL attrE a1)) := rfl
  rw [HE] at hz
  have C0 : Hid (∀ W : World, Below w0.heap.size w0 W → Calls Try.prog 21 #[v0, u0] W fun e w' => e = .returned (.bool true) ∧ Below W.heap.size W w') := Lib.hid (fun W b => eqRdnS_at v0 u0 a0 W (h0.frame (Same.of_below' b)) (g0.frame (Same.of_below' b)) (by omega))
  have C1 : Hid (∀ W : World, Below w0.heap.size w0 W → Calls Try.prog 87 #[v1, u1] W fun e w' => e = .returned (.bool true) ∧ Below W.heap.size W w') := Lib.hid (fun W b => eqAttrS_at v1 u1 a1 W (h1.frame (Same.of_below' b)) (g1.frame (Same.of_below' b)) (by omega))
  obtain ⟨o0, k0, rfl⟩ := h0.sl
  obtain ⟨p0, j0, rfl⟩ := g0.sl
  obtain ⟨o1, k1, rfl⟩ := h1.sl
  obtain ⟨p1, j1, rfl⟩ := g1.sl
  clear hz HE h0 g0 h1 g1
  have HB := Lib.hid hB
  clear hB
  go_enter Try.func27, Try.ntmps27
  go_wp2_with fail
  refine calls_by (fun W => Below w0.heap.size w0 W ∧ Blk W w.heap.size [.slice o0 a0.length k0, .slice o1 a1.length k1] ∧ Blk W (w.heap.size + 1) [.slice p0 a0.length j0, .slice p1 a1.length j1]) ⟨more' (more' HB.out _) _, (Blk.new _ _ _).alloc _, blk_at _ _ _ (by simp)⟩ ?_
  rintro W1 ⟨b1, x1, y1⟩
  have X1 := Lib.hid x1; have Y1 := Lib.hid y1; clear x1 y1
  refine (C0.out W1 b1).mono ?_
  rintro e W2 ⟨rfl, hb⟩
  have X2 := Lib.hid (X1.out.below hb); have Y2 := Lib.hid (Y1.out.below hb); have b2 := b1.trans (hb.mono b1.size)
  clear X1 Y1 hb b1 C0
  have m0 := X2.out.cell 0 rfl
  have n0 := Y2.out.cell 0 rfl
  have m1 := X2.out.cell 1 rfl
  have n1 := Y2.out.cell 1 rfl
  go_wp2_with fail
  refine (C1.out W2 b2).mono ?_
  rintro e W3 ⟨rfl, hb⟩
  have X3 := Lib.hid (X2.out.below hb); have Y3 := Lib.hid (Y2.out.below hb); have b3 := b2.trans (hb.mono b2.size)
  clear X2 Y2 hb b2 C1 m0 n0 m1 n1
  have m0 := X3.out.cell 0 rfl
  have n0 := Y3.out.cell 0 rfl
  have m1 := X3.out.cell 1 rfl
  have n1 := Y3.out.cell 1 rfl
  go_wp2
  go_ret
  exact ⟨rfl, b3⟩
set_option maxRecDepth 100000 in
set_option maxHeartbeats 4000000 in
theorem eqEntryS_at {S S' : Bs} (v u : Value) (d : List EntryT) (w : World) (hd : SlAt entryE S w d v) (hu : SlAt entryE S' w d u) (hz : d.length + szL entryE d ≤ 1048576) :
    Calls Try.prog 36 #[v, u] w fun e w' => e = .returned (.bool true) ∧ Below w.heap.size w w' := by
  obtain ⟨ao, ca, rfl⟩ := hd.sl
  obtain ⟨bo, cb, rfl⟩ := hu.sl
  have HA := Lib.hid hd; have HB := Lib.hid hu; clear hd hu
  have HL := Lib.hid hz
  have hl : d.length ≤ 1048576 := by omega
  clear hz
  go_enter Try.func36, Try.ntmps36
  go_wp2
  go_loopw [5] (fun i wr => ∃ k : Nat, k ≤ d.length ∧ i = .int .i64 k ∧ Below w.heap.size w wr) (fun i _ => d.length - (intOf i).toNat)
  case atStart => exact ⟨0, Nat.zero_le _, rfl, Below.refl _ _⟩
  case round =>
    obtain ⟨k, hk, rfl, hbel⟩ := hrel
    have hsz := hbel.size
    by_cases hlt : k < d.length
    · obtain ⟨p, off, a0, a1, v0, v1, rfl, _, hp0, hx, hc, s0, s1, _⟩ := entry_row (HA.out.frame (Same.of_below' hbel)) hlt
      obtain ⟨q, off', x0, x1, u0, u1, rfl, _, hq0, hx', hd, t0, t1, _⟩ := entry_row (HB.out.frame (Same.of_below' hbel)) hlt
      have hxx := hx.symm.trans hx'
      simp only [Prod.mk.injEq] at hxx
      obtain ⟨rfl, rfl⟩ := hxx
      have HZ : Hid (entryE.sz (a0, a1) ≤ 1048576) := Lib.hid (by have h1 := szL_mem entryE (List.getElem_mem hlt); rw [hx] at h1; have := HL.out; omega)
      clear hx hx'
      have C : Hid (∀ W : World, Below wr.heap.size wr W → Calls Try.prog 27 #[.agg #[v0, v1], .agg #[u0, u1]] W fun e w' => e = .returned (.bool true) ∧ Below wr.heap.size wr w') := Lib.hid (fun W b => eqEntry_at wr a0 a1 v0 v1 u0 u1 W b s0 s1 t0 t1 HZ.out)
      clear s0 t0 s1 t1 HZ
      have SK : Hid (∀ W : World, Below wr.heap.size wr W → (Below wr.heap.size wr W ∧ (W.cell? ⟨p, off + k * 2, none⟩ = some (v0) ∧ W.cell? ⟨p, off + k * 2 + 1, none⟩ = some (v1)) ∧ (W.cell? ⟨q, off' + k * 2, none⟩ = some (u0) ∧ W.cell? ⟨q, off' + k * 2 + 1, none⟩ = some (u1)))) :=
        Lib.hid (fun W h => ⟨h, ⟨(h.cell (p := ⟨p, _, none⟩) hp0).trans hc.1, (h.cell (p := ⟨p, _, none⟩) hp0).trans hc.2⟩, ⟨(h.cell (p := ⟨q, _, none⟩) hq0).trans hd.1, (h.cell (p := ⟨q, _, none⟩) hq0).trans hd.2⟩⟩)
      have hbd : Below wr.heap.size wr wr.drew := (Below.refl _ _).drew
      have hb0 : Below wr.heap.size wr wr := Below.refl _ _
      have HBl := Lib.hid hbel
      clear hc hd hbel
      have g1 : (0 : Int) ≤ (k : Int) := by omega
      have g2 : (k : Int) < (d.length : Int) := by omega
      go_wp2_with fail
      go_region_held3 (fun W => Below wr.heap.size wr W ∧ (W.cell? ⟨p, off + k * 2, none⟩ = some (v0) ∧ W.cell? ⟨p, off + k * 2 + 1, none⟩ = some (v1)) ∧ (W.cell? ⟨q, off' + k * 2, none⟩ = some (u0) ∧ W.cell? ⟨q, off' + k * 2 + 1, none⟩ = some (u1)))
        (exact SK.out _ (by assumption))
        (first | (go_at_call 27; refine (C.out _ (by assumption)).mono ?_; rintro e w2 ⟨rfl, hb2⟩) | (fail "none"))
      all_goals
        go_wp2
        go_roundw
        case rel => exact ⟨k + 1, by omega, by go_num, HBl.out.trans (hb2.mono HBl.out.size)⟩
        case measure => simp [intOf]; omega
    · go_wp2
      go_ret
      exact ⟨rfl, hbel⟩
end Go.Proofs.Ytglgkocjdockdaa
/- The law FnExactMayChange: its walk. -/
namespace Go.Proofs.Ytglgkocjdockdaa
open Go.RowKit
attribute [local go_sem ↓] Go.wp_at_zero Go.wp_at_succ

set_option maxRecDepth 100000 in
set_option maxHeartbeats 4000000 in
theorem MayChange_walk (v0 : Value) (d0 : List RuleT) (s1 : ByteArray) (a200 : (List RdnT)) (a201 : (List AttrT)) (v200 v201 : Value) (v3 : Value) (d3 : List ByteArray) (w : World) (h0 : SlAt ruleE (All w) w d0 v0) (f0 : (slE ruleE).long d0) (f1 : s1.size ≤ maxLen) (h2 : SlAt rdnE (All w) w a200 v200 ∧ SlAt attrE (All w) w a201 v201) (f2 : entryE.long (a200, a201)) (h3 : SlAt strE (All w) w d3 v3) (f3 : (slE strE).long d3) :
    Calls Try.prog 7 #[v0, .string s1, .agg #[v200, v201], v3] w fun e w' => e = .returned (.bool true) ∧ Below w.heap.size w w' := by
  have HQ0 : Hid (d0.length + szL ruleE d0 ≤ 1048576 → ∀ (Y : World) (S S' : Bs) (x u : Value), SlAt ruleE S Y d0 x → SlAt ruleE S' Y d0 u → Calls Try.prog 16 #[x, u] Y fun e w' => e = .returned (.bool true) ∧ Below Y.heap.size Y w') := Lib.hid (fun z Y S S' x u h1 h2 => eqRuleS_at x u d0 Y h1 h2 z)
  have HS0 : Hid (∀ (l : Int) (W : World), Below w.heap.size w W → 0 ≤ l → l ≤ 1048576 → Calls Try.prog 12 #[v0, .int .i64 l] W fun e w' => e = .returned (.int .i64 (leftR (d0.length + szL ruleE d0) l)) ∧ Below W.heap.size W w') := Lib.hid (fun l W b p q => szRuleS_at v0 d0 l W (h0.frame (Same.of_below' b)) f0 p q)
  have HT0 : Hid (d0.length + szL ruleE d0 ≤ 1048576 → ∀ Y : World, Below w.heap.size w Y → Calls Try.prog 14 #[v0] Y fun e w' => ∃ u, e = .returned u ∧ SlOwn ruleE (Fresh Y w') w' d0 u ∧ Below Y.heap.size Y w') := Lib.hid (fun z Y b => toRuleS_at v0 d0 Y (h0.frame (Same.of_below' b)) z)
  have HQ2 : Hid (entryE.sz (a200, a201) ≤ 1048576 → ∀ (Y : World) (S S' : Bs) (x200 x201 u200 u201 : Value), SlAt rdnE S Y a200 x200 → SlAt attrE S Y a201 x201 → SlAt rdnE S' Y a200 u200 → SlAt attrE S' Y a201 u201 → Calls Try.prog 27 #[.agg #[x200, x201], .agg #[u200, u201]] Y fun e w' => e = .returned (.bool true) ∧ Below Y.heap.size Y w') := Lib.hid (fun z Y S S' x200 x201 u200 u201 g200 g201 k200 k201 => eqEntry_at Y a200 a201 x200 x201 u200 u201 Y (Below.refl _ _) g200 g201 k200 k201 z)
  have HS2 : Hid (∀ (l : Int) (W : World), Below w.heap.size w W → 0 ≤ l → l ≤ 1048576 → Calls Try.prog 22 #[.agg #[v200, v201], .int .i64 l] W fun e w' => e = .returned (.int .i64 (leftR (entryE.sz (a200, a201)) l)) ∧ Below W.heap.size W w') := Lib.hid (fun l W b p q => szEntry_at a200 a201 v200 v201 l W (h2.1.frame (Same.of_below' b)) (h2.2.frame (Same.of_below' b)) f2 p q)
  have HT2 : Hid (entryE.sz (a200, a201) ≤ 1048576 → ∀ Y : World, Below w.heap.size w Y → Calls Try.prog 24 #[.agg #[v200, v201]] Y fun e w' => ∃ u200 u201, e = .returned (.agg #[u200, u201]) ∧ entryE.Own (Fresh Y w') w' (a200, a201) [u200, u201] ∧ Below Y.heap.size Y w') := Lib.hid (fun z Y b => toEntry_at a200 a201 v200 v201 Y (h2.1.frame (Same.of_below' b)) (h2.2.frame (Same.of_below' b)) z)
  have HQ3 : Hid (d3.length + szL strE d3 ≤ 1048576 → ∀ (Y : World) (S S' : Bs) (x u : Value), SlAt strE S Y d3 x → SlAt strE S' Y d3 u → Calls Try.prog 43 #[x, u] Y fun e w' => e = .returned (.bool true) ∧ Below Y.heap.size Y w') := Lib.hid (fun z Y S S' x u h1 h2 => eqStringS_at x u d3 Y h1 h2 z)
  have HS3 : Hid (∀ (l : Int) (W : World), Below w.heap.size w W → 0 ≤ l → l ≤ 1048576 → Calls Try.prog 39 #[v3, .int .i64 l] W fun e w' => e = .returned (.int .i64 (leftR (d3.length + szL strE d3) l)) ∧ Below W.heap.size W w') := Lib.hid (fun l W b p q => szStringS_at v3 d3 l W (h3.frame (Same.of_below' b)) f3 p q)
  have HT3 : Hid (d3.length + szL strE d3 ≤ 1048576 → ∀ Y : World, Below w.heap.size w Y → Calls Try.prog 41 #[v3] Y fun e w' => ∃ u, e = .returned u ∧ SlOwn strE (Fresh Y w') w' d3 u ∧ Below Y.heap.size Y w') := Lib.hid (fun z Y b => toStringS_at v3 d3 Y (h3.frame (Same.of_below' b)) z)
  have HSp : Hid (d0.length + szL ruleE d0 ≤ 1048576 → entryE.sz (a200, a201) ≤ 1048576 → d3.length + szL strE d3 ≤ 1048576 → s1.size ≤ 1048576 → ∀ (Y : World) (S0 S1 S2 S3 : Bs) (u0 u200 u201 u3 : Value), SlAt ruleE S0 Y d0 u0 → SlAt rdnE S1 Y a200 u200 → SlAt attrE S2 Y a201 u201 → SlAt strE S3 Y d3 u3 → Calls Try.prog 40 #[u0, .string s1, .agg #[u200, u201], u3] Y fun e w' => e = .returned (.bool (changeB d0 s1 a200 a201 d3)) ∧ Below Y.heap.size Y w') := Lib.hid (fun z0 z2 z3 z1 Y S0 S1 S2 S3 u0 u200 u201 u3 h0 h200 h201 h3 => SpecMayChange_any u0 d0 s1 a200 a201 u200 u201 u3 d3 Y h0 h200 h201 h3 z0 z2 z3 z1)
  have HIm : Hid (d0.length + szL ruleE d0 ≤ 1048576 → entryE.sz (a200, a201) ≤ 1048576 → d3.length + szL strE d3 ≤ 1048576 → s1.size ≤ 1048576 → ∀ (Y : World) (S0 S1 S2 S3 : Bs) (u0 u200 u201 u3 : Value), SlAt ruleE S0 Y d0 u0 → SlAt rdnE S1 Y a200 u200 → SlAt attrE S2 Y a201 u201 → SlAt strE S3 Y d3 u3 → Calls Try.prog 42 #[u0, .string s1, .agg #[u200, u201], u3] Y fun e w' => e = .returned (.bool (changeB d0 s1 a200 a201 d3)) ∧ Below Y.heap.size Y w') := Lib.hid (fun z0 z2 z3 z1 Y S0 S1 S2 S3 u0 u200 u201 u3 h0 h200 h201 h3 => MayChange_any u0 d0 s1 a200 a201 u200 u201 u3 d3 Y h0 h200 h201 h3 z0 z2 z3 z1)
  by_cases y1 : s1.size ≤ 1048576
  rotate_left
  · have y1' : (1048576 : Int) < (s1.size : Int) := by omega
    unfold maxLen at *
    obtain ⟨o0, k0, rfl⟩ := h0.sl
    obtain ⟨o200, k200, rfl⟩ := h2.1.sl; obtain ⟨o201, k201, rfl⟩ := h2.2.sl
    obtain ⟨o3, k3, rfl⟩ := h3.sl
    go_enter Try.func7, Try.ntmps7
    go_wp2
    go_ret
    first | exact ⟨rfl, Below.refl _ _⟩ | exact ⟨rfl, more' (Below.refl _ _) _⟩ | exact ⟨rfl, more' (more' (Below.refl _ _) _) _⟩
  have y1' : ¬ (1048576 : Int) < (s1.size : Int) := by omega
  clear f1
  obtain ⟨o0, k0, rfl⟩ := h0.sl
  obtain ⟨o200, k200, rfl⟩ := h2.1.sl; obtain ⟨o201, k201, rfl⟩ := h2.2.sl
  obtain ⟨o3, k3, rfl⟩ := h3.sl
  clear h0 f0
  clear h2 f2
  clear h3 f3
  go_enter Try.func7, Try.ntmps7
  go_wp2_with fail
  refine calls_by (fun W => Below w.heap.size w W ∧ Blk W (w.heap.size) [.slice o200 a200.length k200, .slice o201 a201.length k201]) ⟨more' (Below.refl _ _) _, Blk.new _ _ _⟩ ?_
  rintro W0 ⟨b0, t2⟩
  have B := Lib.hid b0; clear b0
  have HP2 := Lib.hid t2; clear t2
  refine (HS0.out (1048576) W0 B.out (by omega) (by omega)).mono ?_
  rintro e W1 ⟨rfl, hb⟩
  have P := Lib.hid (HP2.out.below hb); clear HP2; have HP2 := P; clear P
  have B1 := Lib.hid (B.out.trans (hb.mono B.out.size)); clear B; have B := B1; clear B1
  clear hb HS0
  by_cases g0 : ((d0.length + szL ruleE d0 : Nat) : Int) ≤ 1048576
  rotate_left
  · rw [leftR_neg g0]
    clear g0
    go_wp2
    go_ret
    exact ⟨rfl, B.out⟩
  rw [leftR_pos g0]
  have HZ0 : Hid (d0.length + szL ruleE d0 ≤ 1048576) := Lib.hid (by omega)
  have p0 : (0 : Int) ≤ ((d0.length + szL ruleE d0 : Nat) : Int) := by omega
  have c0 : ¬ 1048576 - ((d0.length + szL ruleE d0 : Nat) : Int) < 0 := by omega
  generalize ((d0.length + szL ruleE d0 : Nat) : Int) = t0 at *
  have pm0 := HP2.out.cell 0 rfl
  have pm1 := HP2.out.cell 1 rfl
  go_wp2_with fail
  clear pm0 pm1
  refine (HS2.out (1048576 - t0) W1 B.out (by omega) (by omega)).mono ?_
  rintro e W2 ⟨rfl, hb⟩
  have P := Lib.hid (HP2.out.below hb); clear HP2; have HP2 := P; clear P
  have B1 := Lib.hid (B.out.trans (hb.mono B.out.size)); clear B; have B := B1; clear B1
  clear hb HS2
  by_cases g2 : ((entryE.sz (a200, a201) : Nat) : Int) ≤ 1048576 - t0
  rotate_left
  · rw [leftR_neg g2]
    clear g2
    go_wp2
    go_ret
    exact ⟨rfl, B.out⟩
  rw [leftR_pos g2]
  have HZ2 : Hid (entryE.sz (a200, a201) ≤ 1048576) := Lib.hid (by omega)
  have p2 : (0 : Int) ≤ ((entryE.sz (a200, a201) : Nat) : Int) := by omega
  have c2 : ¬ 1048576 - t0 - ((entryE.sz (a200, a201) : Nat) : Int) < 0 := by omega
  generalize ((entryE.sz (a200, a201) : Nat) : Int) = t2 at *
  go_wp2_with fail
  refine (HS3.out (1048576 - t0 - t2) W2 B.out (by omega) (by omega)).mono ?_
  rintro e W3 ⟨rfl, hb⟩
  have P := Lib.hid (HP2.out.below hb); clear HP2; have HP2 := P; clear P
  have B1 := Lib.hid (B.out.trans (hb.mono B.out.size)); clear B; have B := B1; clear B1
  clear hb HS3
  by_cases g3 : ((d3.length + szL strE d3 : Nat) : Int) ≤ 1048576 - t0 - t2
  rotate_left
  · rw [leftR_neg g3]
    clear g3
    go_wp2
    go_ret
    exact ⟨rfl, B.out⟩
  rw [leftR_pos g3]
  have HZ3 : Hid (d3.length + szL strE d3 ≤ 1048576) := Lib.hid (by omega)
  have p3 : (0 : Int) ≤ ((d3.length + szL strE d3 : Nat) : Int) := by omega
  have c3 : ¬ 1048576 - t0 - t2 - ((d3.length + szL strE d3 : Nat) : Int) < 0 := by omega
  generalize ((d3.length + szL strE d3 : Nat) : Int) = t3 at *
  have HT := Lib.hid (HT0.out HZ0.out); clear HT0; have HT0 := HT; clear HT
  have HQ := Lib.hid (HQ0.out HZ0.out); clear HQ0; have HQ0 := HQ; clear HQ
  have HT := Lib.hid (HT2.out HZ2.out); clear HT2; have HT2 := HT; clear HT
  have HQ := Lib.hid (HQ2.out HZ2.out); clear HQ2; have HQ2 := HQ; clear HQ
  have HT := Lib.hid (HT3.out HZ3.out); clear HT3; have HT3 := HT; clear HT
  have HQ := Lib.hid (HQ3.out HZ3.out); clear HQ3; have HQ3 := HQ; clear HQ
  have HS := Lib.hid (HSp.out HZ0.out HZ2.out HZ3.out y1); have HI := Lib.hid (HIm.out HZ0.out HZ2.out HZ3.out y1); clear HSp HIm
  generalize (changeB d0 s1 a200 a201 d3) = r at *
  have hrr : (r != r) = false := by simp
  have hrq : (r == r) = true := by simp
  go_wp2
  have hb : Below W3.heap.size W3 W3.drew := (Below.refl _ _).drew
  have SK : Hid (∀ Z' : World, Below W3.heap.size W3 Z' → Z'.cell? ⟨w.heap.size, 0, none⟩ = some (.slice o200 a200.length k200) ∧ Z'.cell? ⟨w.heap.size, 1, none⟩ = some (.slice o201 a201.length k201)) := Lib.hid (fun Z' h => ⟨(HP2.out.below h).cell 0 rfl, (HP2.out.below h).cell 1 rfl⟩)
  have BD : Below W3.heap.size W3 W3.drew := hb
  have P := Lib.hid (HP2.out.below hb); clear HP2; have HP2 := P; clear P
  have B1 := Lib.hid (B.out.trans (hb.mono B.out.size)); clear B; have B := B1; clear B1
  clear hb
  refine wp_region_held_drew (S := (fun Z' => Z'.cell? ⟨w.heap.size, 0, none⟩ = some (.slice o200 a200.length k200) ∧ Z'.cell? ⟨w.heap.size, 1, none⟩ = some (.slice o201 a201.length k201))) (by kernel_rfl) ?_ (fun hHeld => ?_)
  · (try dsimp only)
    first | exact SK.out _ (by assumption) | exact SK.out _ BD
  refine wpAnyH_take (i := 0) (oi := { dst := some 33, op := Op.move (Operand.tmp 0), type := 22, pos := "exact.go:4023", after := #[], guard := none }) (v := ?_) rfl (by kernel_rfl) (by kernel_rfl) (by kernel_rfl) (fun _ _ _ h => h) (Or.inl ⟨by rfl, ?_⟩) (by assumption) ?_
  rotate_left
  · intro w hSw; (try dsimp only at hSw); go_simp; (try with_reducible rfl)
  (try simp only [Act.put, List.setIfInBounds_toArray, List.set_cons_zero, List.set_cons_succ])
  refine wpAnyH_take (i := 2) (oi := { dst := some 35, op := Op.move (Operand.tmp 1), type := 9, pos := "exact.go:4023", after := #[], guard := none }) (v := ?_) rfl (by kernel_rfl) (by kernel_rfl) (by kernel_rfl) (fun _ _ _ h => h) (Or.inl ⟨by rfl, ?_⟩) (by assumption) ?_
  rotate_left
  · intro w hSw; (try dsimp only at hSw); go_simp; (try with_reducible rfl)
  (try simp only [Act.put, List.setIfInBounds_toArray, List.set_cons_zero, List.set_cons_succ])
  refine wpAnyH_take (i := 3) (oi := { dst := some 36, op := Op.load 38 (Operand.tmp 6), type := 38, pos := "exact.go:4023", after := #[], guard := none }) (v := ?_) rfl (by kernel_rfl) (by kernel_rfl) (by kernel_rfl) (fun _ _ _ h => h) (Or.inl ⟨by rfl, ?_⟩) (by assumption) ?_
  rotate_left
  · intro w hSw; (try dsimp only at hSw); go_simp; (try with_reducible rfl)
  (try simp only [Act.put, List.setIfInBounds_toArray, List.set_cons_zero, List.set_cons_succ])
  refine wpAnyH_take (i := 5) (oi := { dst := some 38, op := Op.move (Operand.tmp 3), type := 61, pos := "exact.go:4023", after := #[], guard := none }) (v := ?_) rfl (by kernel_rfl) (by kernel_rfl) (by kernel_rfl) (fun _ _ _ h => h) (Or.inl ⟨by rfl, ?_⟩) (by assumption) ?_
  rotate_left
  · intro w hSw; (try dsimp only at hSw); go_simp; (try with_reducible rfl)
  (try simp only [Act.put, List.setIfInBounds_toArray, List.set_cons_zero, List.set_cons_succ])
  refine wpAnyH_ready (rs := [1]) (by kernel_rfl) (by simp) ?_
  refine AllReadyH.cons (o := { dst := some 34, op := Op.call { callee := Callee.value (Operand.func 14), args := #[Operand.tmp 33], argTypes := #[22] }, type := 25, pos := "exact.go:4023", after := #[{ on := 0, ground := Ground.data }], guard := none }) rfl (fun K hK => ?_) (AllReadyH.nil)
  go_simp
  refine (HT0.out _ B.out).mono ?_
  rintro e W4 ⟨x0, rfl, q, hb⟩
  have BD := BD.trans (hb.mono BD.size)
  have P := Lib.hid (HP2.out.below hb); clear HP2; have HP2 := P; clear P
  have B1 := Lib.hid (B.out.trans (hb.mono B.out.size)); clear B; have B := B1; clear B1
  have Qx0 := Lib.hid q.at; clear q hb
  obtain ⟨px0, cx0, rfl⟩ := Qx0.out.sl
  clear hHeld
  refine hK.out _ _ ?_ (fun hHeld => ?_)
  · (try dsimp only)
    first | exact SK.out _ (by assumption) | exact SK.out _ BD
  clear hK K
  (try simp only [Act.put, List.setIfInBounds_toArray, List.set_cons_zero, List.set_cons_succ])
  refine wpAnyH_ready (rs := [4]) (by kernel_rfl) (by simp) ?_
  refine AllReadyH.cons (o := { dst := some 37, op := Op.call { callee := Callee.value (Operand.func 24), args := #[Operand.tmp 36], argTypes := #[38] }, type := 42, pos := "exact.go:4023", after := #[{ on := 3, ground := Ground.data }, { on := 1, ground := Ground.chain }], guard := none }) rfl (fun K hK => ?_) (AllReadyH.nil)
  go_simp
  refine (HT2.out _ B.out).mono ?_
  rintro e W5 ⟨x200, x201, rfl, q, hb⟩
  have BD := BD.trans (hb.mono BD.size)
  have P := Lib.hid (HP2.out.below hb); clear HP2; have HP2 := P; clear P
  have P := Lib.hid (Qx0.out.frame (Same.of_below' hb)); clear Qx0; have Qx0 := P; clear P
  have B1 := Lib.hid (B.out.trans (hb.mono B.out.size)); clear B; have B := B1; clear B1
  have Qx2 := Lib.hid (entryE.ownAt q); clear q hb
  have Z := entry_atp Qx2.out
  obtain ⟨px200, cx200, rfl⟩ := Z.1.sl
  obtain ⟨px201, cx201, rfl⟩ := Z.2.sl
  clear Z
  clear hHeld
  refine hK.out _ _ ?_ (fun hHeld => ?_)
  · (try dsimp only)
    first | exact SK.out _ (by assumption) | exact SK.out _ BD
  clear hK K
  (try simp only [Act.put, List.setIfInBounds_toArray, List.set_cons_zero, List.set_cons_succ])
  refine wpAnyH_ready (rs := [6]) (by kernel_rfl) (by simp) ?_
  refine AllReadyH.cons (o := { dst := some 39, op := Op.call { callee := Callee.value (Operand.func 41), args := #[Operand.tmp 38], argTypes := #[61] }, type := 61, pos := "exact.go:4023", after := #[{ on := 5, ground := Ground.data }, { on := 4, ground := Ground.chain }], guard := none }) rfl (fun K hK => ?_) (AllReadyH.nil)
  go_simp
  refine (HT3.out _ B.out).mono ?_
  rintro e W6 ⟨x3, rfl, q, hb⟩
  have BD := BD.trans (hb.mono BD.size)
  have P := Lib.hid (HP2.out.below hb); clear HP2; have HP2 := P; clear P
  have P := Lib.hid (Qx0.out.frame (Same.of_below' hb)); clear Qx0; have Qx0 := P; clear P
  have P := Lib.hid (entryE.frame Qx2.out (Same.of_below' hb)); clear Qx2; have Qx2 := P; clear P
  have B1 := Lib.hid (B.out.trans (hb.mono B.out.size)); clear B; have B := B1; clear B1
  have Qx3 := Lib.hid q.at; clear q hb
  obtain ⟨px3, cx3, rfl⟩ := Qx3.out.sl
  clear hHeld
  refine hK.out _ _ ?_ (fun hHeld => ?_)
  · (try dsimp only)
    first | exact SK.out _ (by assumption) | exact SK.out _ BD
  clear hK K
  (try simp only [Act.put, List.setIfInBounds_toArray, List.set_cons_zero, List.set_cons_succ])
  refine wpAnyH_ready (rs := [7]) (by kernel_rfl) (by simp) ?_
  refine AllReadyH.cons (o := { dst := some 40, op := Op.call { callee := Callee.value (Operand.func 40), args := #[Operand.tmp 34, Operand.tmp 35, Operand.tmp 37, Operand.tmp 39], argTypes := #[25, 9, 42, 61] }, type := 4, pos := "exact.go:4023", after := #[{ on := 1, ground := Ground.data }, { on := 2, ground := Ground.data }, { on := 4, ground := Ground.data }, { on := 6, ground := Ground.data }, { on := 6, ground := Ground.chain }], guard := none }) rfl (fun K hK => ?_) (AllReadyH.nil)
  go_simp
  refine (HS.out _ _ _ _ _ _ _ _ _ Qx0.out (entry_atp Qx2.out).1 (entry_atp Qx2.out).2 Qx3.out).mono ?_
  rintro e W7 ⟨rfl, hb⟩
  clear Qx0
  clear Qx2
  clear Qx3
  have BD := BD.trans (hb.mono BD.size)
  have P := Lib.hid (HP2.out.below hb); clear HP2; have HP2 := P; clear P
  have B1 := Lib.hid (B.out.trans (hb.mono B.out.size)); clear B; have B := B1; clear B1
  clear hb
  clear hHeld
  refine hK.out _ _ ?_ (fun hHeld => ?_)
  · (try dsimp only)
    first | exact SK.out _ (by assumption) | exact SK.out _ BD
  clear hK K
  (try simp only [Act.put, List.setIfInBounds_toArray, List.set_cons_zero, List.set_cons_succ])
  refine wpAnyH_take (i := 8) (oi := { dst := some 10, op := Op.assign (Operand.tmp 40), type := 4, pos := "exact.go:4023", after := #[{ on := 7, ground := Ground.data }, { on := 7, ground := Ground.chain }, { on := 0, ground := Ground.phase }, { on := 1, ground := Ground.phase }, { on := 2, ground := Ground.phase }, { on := 3, ground := Ground.phase }, { on := 4, ground := Ground.phase }, { on := 5, ground := Ground.phase }, { on := 6, ground := Ground.phase }, { on := 7, ground := Ground.phase }], guard := none }) (v := ?_) rfl (by kernel_rfl) (by kernel_rfl) (by kernel_rfl) (fun _ _ _ h => h) (Or.inl ⟨by rfl, ?_⟩) (by assumption) ?_
  rotate_left
  · intro w hSw; (try dsimp only at hSw); go_simp; (try with_reducible rfl)
  (try simp only [Act.put, List.setIfInBounds_toArray, List.set_cons_zero, List.set_cons_succ])
  refine wpAnyH_done (by kernel_rfl) ?_ _
  clear SK BD
  go_wp2_with fail
  refine (HT0.out _ B.out).mono ?_
  rintro e W8 ⟨y0, rfl, q, hb⟩
  have P := Lib.hid (HP2.out.below hb); clear HP2; have HP2 := P; clear P
  have B1 := Lib.hid (B.out.trans (hb.mono B.out.size)); clear B; have B := B1; clear B1
  have Qy0 := Lib.hid q.at; clear q hb
  obtain ⟨py0, cy0, rfl⟩ := Qy0.out.sl
  have pm0 := HP2.out.cell 0 rfl
  have pm1 := HP2.out.cell 1 rfl
  go_wp2_with fail
  clear pm0 pm1
  refine (HT2.out _ B.out).mono ?_
  rintro e W9 ⟨y200, y201, rfl, q, hb⟩
  have P := Lib.hid (HP2.out.below hb); clear HP2; have HP2 := P; clear P
  have P := Lib.hid (Qy0.out.frame (Same.of_below' hb)); clear Qy0; have Qy0 := P; clear P
  have B1 := Lib.hid (B.out.trans (hb.mono B.out.size)); clear B; have B := B1; clear B1
  have Qy2 := Lib.hid (entryE.ownAt q); clear q hb
  have Z := entry_atp Qy2.out
  obtain ⟨py200, cy200, rfl⟩ := Z.1.sl
  obtain ⟨py201, cy201, rfl⟩ := Z.2.sl
  clear Z
  go_wp2_with fail
  refine calls_by (fun W => Below W9.heap.size W9 W ∧ Blk W W9.heap.size [.slice py200 a200.length cy200, .slice py201 a201.length cy201]) ⟨more' (Below.refl _ _) _, Blk.new _ _ _⟩ ?_
  rintro V10 ⟨hb, t⟩
  have P := Lib.hid (HP2.out.below hb); clear HP2; have HP2 := P; clear P
  have P := Lib.hid (Qy0.out.frame (Same.of_below' hb)); clear Qy0; have Qy0 := P; clear P
  have P := Lib.hid (entryE.frame Qy2.out (Same.of_below' hb)); clear Qy2; have Qy2 := P; clear P
  have B1 := Lib.hid (B.out.trans (hb.mono B.out.size)); clear B; have B := B1; clear B1
  clear hb
  have HX2 := Lib.hid t; clear t
  refine (HT3.out _ B.out).mono ?_
  rintro e W11 ⟨y3, rfl, q, hb⟩
  have P := Lib.hid (HP2.out.below hb); clear HP2; have HP2 := P; clear P
  have P := Lib.hid (Qy0.out.frame (Same.of_below' hb)); clear Qy0; have Qy0 := P; clear P
  have P := Lib.hid (entryE.frame Qy2.out (Same.of_below' hb)); clear Qy2; have Qy2 := P; clear P
  have P := Lib.hid (HX2.out.below hb); clear HX2; have HX2 := P; clear P
  have B1 := Lib.hid (B.out.trans (hb.mono B.out.size)); clear B; have B := B1; clear B1
  have Qy3 := Lib.hid q.at; clear q hb
  obtain ⟨py3, cy3, rfl⟩ := Qy3.out.sl
  have bm0 := HX2.out.cell 0 rfl
  have bm1 := HX2.out.cell 1 rfl
  go_wp2_with fail
  clear bm0 bm1
  refine (HI.out _ _ _ _ _ _ _ _ _ Qy0.out (entry_atp Qy2.out).1 (entry_atp Qy2.out).2 Qy3.out).mono ?_
  rintro e W12 ⟨rfl, hb⟩
  have P := Lib.hid (HP2.out.below hb); clear HP2; have HP2 := P; clear P
  have P := Lib.hid (Qy0.out.frame (Same.of_below' hb)); clear Qy0; have Qy0 := P; clear P
  have P := Lib.hid (entryE.frame Qy2.out (Same.of_below' hb)); clear Qy2; have Qy2 := P; clear P
  have P := Lib.hid (HX2.out.below hb); clear HX2; have HX2 := P; clear P
  have P := Lib.hid (Qy3.out.frame (Same.of_below' hb)); clear Qy3; have Qy3 := P; clear P
  have B1 := Lib.hid (B.out.trans (hb.mono B.out.size)); clear B; have B := B1; clear B1
  clear hb
  go_wp2_with fail
  refine (HT0.out _ B.out).mono ?_
  rintro e W13 ⟨z0, rfl, q, hb⟩
  have P := Lib.hid (HP2.out.below hb); clear HP2; have HP2 := P; clear P
  have P := Lib.hid (Qy0.out.frame (Same.of_below' hb)); clear Qy0; have Qy0 := P; clear P
  have P := Lib.hid (entryE.frame Qy2.out (Same.of_below' hb)); clear Qy2; have Qy2 := P; clear P
  have P := Lib.hid (HX2.out.below hb); clear HX2; have HX2 := P; clear P
  have P := Lib.hid (Qy3.out.frame (Same.of_below' hb)); clear Qy3; have Qy3 := P; clear P
  have B1 := Lib.hid (B.out.trans (hb.mono B.out.size)); clear B; have B := B1; clear B1
  have Qz0 := Lib.hid q.at; clear q hb
  obtain ⟨pz0, cz0, rfl⟩ := Qz0.out.sl
  go_wp2_with fail
  refine (HQ0.out _ _ _ _ _ Qy0.out Qz0.out).mono ?_
  rintro e W14 ⟨rfl, hb⟩
  have P := Lib.hid (HP2.out.below hb); clear HP2; have HP2 := P; clear P
  have P := Lib.hid (Qy0.out.frame (Same.of_below' hb)); clear Qy0; have Qy0 := P; clear P
  have P := Lib.hid (entryE.frame Qy2.out (Same.of_below' hb)); clear Qy2; have Qy2 := P; clear P
  have P := Lib.hid (HX2.out.below hb); clear HX2; have HX2 := P; clear P
  have P := Lib.hid (Qy3.out.frame (Same.of_below' hb)); clear Qy3; have Qy3 := P; clear P
  have P := Lib.hid (Qz0.out.frame (Same.of_below' hb)); clear Qz0; have Qz0 := P; clear P
  have B1 := Lib.hid (B.out.trans (hb.mono B.out.size)); clear B; have B := B1; clear B1
  clear hb
  clear Qz0
  go_wp2
  have hb : Below W14.heap.size W14 W14.drew := (Below.refl _ _).drew
  have SK : Hid (∀ Z' : World, Below W14.heap.size W14 Z' → Z'.cell? ⟨w.heap.size, 0, none⟩ = some (.slice o200 a200.length k200) ∧ Z'.cell? ⟨w.heap.size, 1, none⟩ = some (.slice o201 a201.length k201) ∧ Z'.cell? ⟨W9.heap.size, 0, none⟩ = some (.slice py200 a200.length cy200) ∧ Z'.cell? ⟨W9.heap.size, 1, none⟩ = some (.slice py201 a201.length cy201)) := Lib.hid (fun Z' h => ⟨(HP2.out.below h).cell 0 rfl, (HP2.out.below h).cell 1 rfl, (HX2.out.below h).cell 0 rfl, (HX2.out.below h).cell 1 rfl⟩)
  have BD : Below W14.heap.size W14 W14.drew := hb
  have P := Lib.hid (HP2.out.below hb); clear HP2; have HP2 := P; clear P
  have P := Lib.hid (Qy0.out.frame (Same.of_below' hb)); clear Qy0; have Qy0 := P; clear P
  have P := Lib.hid (entryE.frame Qy2.out (Same.of_below' hb)); clear Qy2; have Qy2 := P; clear P
  have P := Lib.hid (HX2.out.below hb); clear HX2; have HX2 := P; clear P
  have P := Lib.hid (Qy3.out.frame (Same.of_below' hb)); clear Qy3; have Qy3 := P; clear P
  have B1 := Lib.hid (B.out.trans (hb.mono B.out.size)); clear B; have B := B1; clear B1
  clear hb
  refine wp_region_held_drew (S := (fun Z' => Z'.cell? ⟨w.heap.size, 0, none⟩ = some (.slice o200 a200.length k200) ∧ Z'.cell? ⟨w.heap.size, 1, none⟩ = some (.slice o201 a201.length k201) ∧ Z'.cell? ⟨W9.heap.size, 0, none⟩ = some (.slice py200 a200.length cy200) ∧ Z'.cell? ⟨W9.heap.size, 1, none⟩ = some (.slice py201 a201.length cy201))) (by kernel_rfl) ?_ (fun hHeld => ?_)
  · (try dsimp only)
    first | exact SK.out _ (by assumption) | exact SK.out _ BD
  refine wpAnyH_take (i := 0) (oi := { dst := some 60, op := Op.load 42 (Operand.tmp 12), type := 42, pos := "exact.go:4034", after := #[], guard := none }) (v := ?_) rfl (by kernel_rfl) (by kernel_rfl) (by kernel_rfl) (fun _ _ _ h => h) (Or.inl ⟨by rfl, ?_⟩) (by assumption) ?_
  rotate_left
  · intro w hSw; (try dsimp only at hSw); go_simp; (try with_reducible rfl)
  (try simp only [Act.put, List.setIfInBounds_toArray, List.set_cons_zero, List.set_cons_succ])
  refine wpAnyH_take (i := 1) (oi := { dst := some 61, op := Op.load 38 (Operand.tmp 6), type := 38, pos := "exact.go:4034", after := #[], guard := none }) (v := ?_) rfl (by kernel_rfl) (by kernel_rfl) (by kernel_rfl) (fun _ _ _ h => h) (Or.inl ⟨by rfl, ?_⟩) (by assumption) ?_
  rotate_left
  · intro w hSw; (try dsimp only at hSw); go_simp; (try with_reducible rfl)
  (try simp only [Act.put, List.setIfInBounds_toArray, List.set_cons_zero, List.set_cons_succ])
  refine wpAnyH_ready (rs := [2]) (by kernel_rfl) (by simp) ?_
  refine AllReadyH.cons (o := { dst := some 62, op := Op.call { callee := Callee.value (Operand.func 24), args := #[Operand.tmp 61], argTypes := #[38] }, type := 42, pos := "exact.go:4034", after := #[{ on := 1, ground := Ground.data }], guard := none }) rfl (fun K hK => ?_) (AllReadyH.nil)
  go_simp
  refine (HT2.out _ B.out).mono ?_
  rintro e W15 ⟨z200, z201, rfl, q, hb⟩
  have BD := BD.trans (hb.mono BD.size)
  have P := Lib.hid (HP2.out.below hb); clear HP2; have HP2 := P; clear P
  have P := Lib.hid (Qy0.out.frame (Same.of_below' hb)); clear Qy0; have Qy0 := P; clear P
  have P := Lib.hid (entryE.frame Qy2.out (Same.of_below' hb)); clear Qy2; have Qy2 := P; clear P
  have P := Lib.hid (HX2.out.below hb); clear HX2; have HX2 := P; clear P
  have P := Lib.hid (Qy3.out.frame (Same.of_below' hb)); clear Qy3; have Qy3 := P; clear P
  have B1 := Lib.hid (B.out.trans (hb.mono B.out.size)); clear B; have B := B1; clear B1
  have Qz2 := Lib.hid (entryE.ownAt q); clear q hb
  have Z := entry_atp Qz2.out
  obtain ⟨pz200, cz200, rfl⟩ := Z.1.sl
  obtain ⟨pz201, cz201, rfl⟩ := Z.2.sl
  clear Z
  clear hHeld
  refine hK.out _ _ ?_ (fun hHeld => ?_)
  · (try dsimp only)
    first | exact SK.out _ (by assumption) | exact SK.out _ BD
  clear hK K
  (try simp only [Act.put, List.setIfInBounds_toArray, List.set_cons_zero, List.set_cons_succ])
  refine wpAnyH_ready (rs := [3]) (by kernel_rfl) (by simp) ?_
  refine AllReadyH.cons (o := { dst := some 63, op := Op.call { callee := Callee.value (Operand.func 27), args := #[Operand.tmp 60, Operand.tmp 62], argTypes := #[42, 42] }, type := 4, pos := "exact.go:4034", after := #[{ on := 0, ground := Ground.data }, { on := 2, ground := Ground.data }, { on := 2, ground := Ground.chain }], guard := none }) rfl (fun K hK => ?_) (AllReadyH.nil)
  go_simp
  refine (HQ2.out _ _ _ _ _ _ _ (entry_atp Qy2.out).1 (entry_atp Qy2.out).2 (entry_atp Qz2.out).1 (entry_atp Qz2.out).2).mono ?_
  rintro e W16 ⟨rfl, hb⟩
  have BD := BD.trans (hb.mono BD.size)
  have P := Lib.hid (HP2.out.below hb); clear HP2; have HP2 := P; clear P
  have P := Lib.hid (Qy0.out.frame (Same.of_below' hb)); clear Qy0; have Qy0 := P; clear P
  have P := Lib.hid (entryE.frame Qy2.out (Same.of_below' hb)); clear Qy2; have Qy2 := P; clear P
  have P := Lib.hid (HX2.out.below hb); clear HX2; have HX2 := P; clear P
  have P := Lib.hid (Qy3.out.frame (Same.of_below' hb)); clear Qy3; have Qy3 := P; clear P
  have P := Lib.hid (entryE.frame Qz2.out (Same.of_below' hb)); clear Qz2; have Qz2 := P; clear P
  have B1 := Lib.hid (B.out.trans (hb.mono B.out.size)); clear B; have B := B1; clear B1
  clear hb
  clear hHeld
  refine hK.out _ _ ?_ (fun hHeld => ?_)
  · (try dsimp only)
    first | exact SK.out _ (by assumption) | exact SK.out _ BD
  clear hK K
  (try simp only [Act.put, List.setIfInBounds_toArray, List.set_cons_zero, List.set_cons_succ])
  refine wpAnyH_take (i := 4) (oi := { dst := some 64, op := Op.unOp UnOp.not 4 (Operand.tmp 63), type := 4, pos := "exact.go:4034", after := #[{ on := 3, ground := Ground.data }], guard := none }) (v := ?_) rfl (by kernel_rfl) (by kernel_rfl) (by kernel_rfl) (fun _ _ _ h => h) (Or.inl ⟨by rfl, ?_⟩) (by assumption) ?_
  rotate_left
  · intro w hSw; (try dsimp only at hSw); go_simp; (try with_reducible rfl)
  (try simp only [Act.put, List.setIfInBounds_toArray, List.set_cons_zero, List.set_cons_succ])
  refine wpAnyH_done (by kernel_rfl) ?_ _
  clear SK BD
  clear Qz2
  go_wp2_with fail
  refine (HT3.out _ B.out).mono ?_
  rintro e W17 ⟨z3, rfl, q, hb⟩
  have P := Lib.hid (HP2.out.below hb); clear HP2; have HP2 := P; clear P
  have P := Lib.hid (Qy0.out.frame (Same.of_below' hb)); clear Qy0; have Qy0 := P; clear P
  have P := Lib.hid (entryE.frame Qy2.out (Same.of_below' hb)); clear Qy2; have Qy2 := P; clear P
  have P := Lib.hid (HX2.out.below hb); clear HX2; have HX2 := P; clear P
  have P := Lib.hid (Qy3.out.frame (Same.of_below' hb)); clear Qy3; have Qy3 := P; clear P
  have B1 := Lib.hid (B.out.trans (hb.mono B.out.size)); clear B; have B := B1; clear B1
  have Qz3 := Lib.hid q.at; clear q hb
  obtain ⟨pz3, cz3, rfl⟩ := Qz3.out.sl
  go_wp2_with fail
  refine (HQ3.out _ _ _ _ _ Qy3.out Qz3.out).mono ?_
  rintro e W18 ⟨rfl, hb⟩
  have P := Lib.hid (HP2.out.below hb); clear HP2; have HP2 := P; clear P
  have P := Lib.hid (Qy0.out.frame (Same.of_below' hb)); clear Qy0; have Qy0 := P; clear P
  have P := Lib.hid (entryE.frame Qy2.out (Same.of_below' hb)); clear Qy2; have Qy2 := P; clear P
  have P := Lib.hid (HX2.out.below hb); clear HX2; have HX2 := P; clear P
  have P := Lib.hid (Qy3.out.frame (Same.of_below' hb)); clear Qy3; have Qy3 := P; clear P
  have P := Lib.hid (Qz3.out.frame (Same.of_below' hb)); clear Qz3; have Qz3 := P; clear P
  have B1 := Lib.hid (B.out.trans (hb.mono B.out.size)); clear B; have B := B1; clear B1
  clear hb
  clear Qz3
  go_wp2
  go_ret
  exact ⟨rfl, B.out⟩
end Go.Proofs.Ytglgkocjdockdaa
/- Arguments of the laws: where they lie. -/
namespace Go.Proofs.Ytglgkocjdockdaa
open Go.RowKit

open Go.ChangeShapes Go.WideShapes Go.Joins Go.Deep
theorem opn_str : Opens Try.prog 9 strE := opens_str Try.underlying9
theorem Try.cellStr : Try.prog.cellsOf 9 = strE.n := by kernel_rfl
theorem opn_int : Opens Try.prog 2 intE := opens_int Try.underlying2
theorem opn_bool : Opens Try.prog 4 boolE := opens_bool Try.underlying4
theorem opn_strS : Opens Try.prog 61 (slE strE) := opens_sl Try.underlying61 Try.cellStr (by decide) opn_str
theorem Try.cellRdn : Try.prog.cellsOf 102 = rdnE.n := by kernel_rfl
set_option maxRecDepth 100000 in
theorem opn_rdn : Opens Try.prog 102 rdnE := opens_struct Try.underlying102 Try.cellRdn (ff_cons _ (by rfl) (by rfl) (by kernel_rfl) opn_str (ff_last _ (by rfl) (by rfl) (by kernel_rfl) (by rfl) opn_str))
theorem Try.cellAttr : Try.prog.cellsOf 154 = attrE.n := by kernel_rfl
set_option maxRecDepth 100000 in
theorem opn_attr : Opens Try.prog 154 attrE := opens_struct Try.underlying154 Try.cellAttr (ff_cons _ (by rfl) (by rfl) (by kernel_rfl) opn_str (ff_last _ (by rfl) (by rfl) (by kernel_rfl) (by rfl) opn_strS))
theorem opn_rdnS : Opens Try.prog 29 (slE rdnE) := opens_sl Try.underlying29 Try.cellRdn (by decide) opn_rdn
theorem opn_attrS : Opens Try.prog 36 (slE attrE) := opens_sl Try.underlying36 Try.cellAttr (by decide) opn_attr
theorem Try.cellEntry : Try.prog.cellsOf 38 = entryE.n := by kernel_rfl
set_option maxRecDepth 100000 in
theorem opn_entry : Opens Try.prog 38 entryE := opens_struct Try.underlying38 Try.cellEntry (ff_cons _ (by rfl) (by rfl) (by kernel_rfl) opn_rdnS (ff_last _ (by rfl) (by rfl) (by kernel_rfl) (by rfl) opn_attrS))
theorem Try.cellRule : Try.prog.cellsOf 96 = ruleE.n := by kernel_rfl
set_option maxRecDepth 100000 in
theorem opn_rule : Opens Try.prog 96 ruleE := opens_struct Try.underlying96 Try.cellRule (ff_cons _ (by rfl) (by rfl) (by kernel_rfl) opn_str (ff_cons _ (by rfl) (by rfl) (by kernel_rfl) opn_rdnS (ff_cons _ (by rfl) (by rfl) (by kernel_rfl) opn_strS (ff_cons _ (by rfl) (by rfl) (by kernel_rfl) opn_int (ff_last _ (by rfl) (by rfl) (by kernel_rfl) (by rfl) opn_bool)))))
theorem opn_entryS : Opens Try.prog 53 (slE entryE) := opens_sl Try.underlying53 Try.cellEntry (by decide) opn_entry
theorem opn_ruleS : Opens Try.prog 22 (slE ruleE) := opens_sl Try.underlying22 Try.cellRule (by decide) opn_rule
set_option maxRecDepth 100000 in
theorem opv_rdn {H : Type} {enc : TypeId × Value → H} {w : World} {base : Nat} {spare : Nat → Bool} {held : Bool} {r : Reach} {b0 : Nat} {v : Value} {d : DataW H} {p : List MemPlace} (hv : Value.okWide Try.prog w r b0 102 v) (h : DataW.Trod enc Try.prog w base spare held 102 v d p) :
    ∃ (a0 : ByteArray) (a1 : ByteArray) , v = .agg #[.string a0, .string a1] ∧ (True) ∧ rdnE.long (a0, a1) := by
  obtain ⟨cs, a, rfl, h1, h2⟩ := opv_struct Try.underlying102 opn_rdn hv h
  obtain ⟨a0, a1, rfl, e1, hq⟩ := rdn_atq h1
  refine ⟨a0, a1, agg_eq e1, ?_, h2⟩
  exact hq
set_option maxRecDepth 100000 in
theorem opv_attr {H : Type} {enc : TypeId × Value → H} {w : World} {base : Nat} {spare : Nat → Bool} {held : Bool} {r : Reach} {b0 : Nat} {v : Value} {d : DataW H} {p : List MemPlace} (hv : Value.okWide Try.prog w r b0 154 v) (h : DataW.Trod enc Try.prog w base spare held 154 v d p) :
    ∃ (a0 : ByteArray) (a1 : (List ByteArray)) (v1 : Value), v = .agg #[.string a0, v1] ∧ (SlAt strE (All w) w a1 v1) ∧ attrE.long (a0, a1) := by
  obtain ⟨cs, a, rfl, h1, h2⟩ := opv_struct Try.underlying154 opn_attr hv h
  obtain ⟨a0, a1, v1, rfl, e1, hq⟩ := attr_atq h1
  refine ⟨a0, a1, v1, agg_eq e1, ?_, h2⟩
  exact hq.1
set_option maxRecDepth 100000 in
theorem opv_entry {H : Type} {enc : TypeId × Value → H} {w : World} {base : Nat} {spare : Nat → Bool} {held : Bool} {r : Reach} {b0 : Nat} {v : Value} {d : DataW H} {p : List MemPlace} (hv : Value.okWide Try.prog w r b0 38 v) (h : DataW.Trod enc Try.prog w base spare held 38 v d p) :
    ∃ (a0 : (List RdnT)) (a1 : (List AttrT)) (v0 v1 : Value), v = .agg #[v0, v1] ∧ (SlAt rdnE (All w) w a0 v0 ∧ SlAt attrE (All w) w a1 v1) ∧ entryE.long (a0, a1) := by
  obtain ⟨cs, a, rfl, h1, h2⟩ := opv_struct Try.underlying38 opn_entry hv h
  obtain ⟨a0, a1, v0, v1, rfl, e1, hq⟩ := entry_atq h1
  refine ⟨a0, a1, v0, v1, agg_eq e1, ?_, h2⟩
  exact ⟨hq.1, hq.2.1⟩
set_option maxRecDepth 100000 in
theorem opv_rule {H : Type} {enc : TypeId × Value → H} {w : World} {base : Nat} {spare : Nat → Bool} {held : Bool} {r : Reach} {b0 : Nat} {v : Value} {d : DataW H} {p : List MemPlace} (hv : Value.okWide Try.prog w r b0 96 v) (h : DataW.Trod enc Try.prog w base spare held 96 v d p) :
    ∃ (a0 : ByteArray) (a1 : (List RdnT)) (a2 : (List ByteArray)) (a3 : Int) (a4 : Bool) (v1 v2 : Value), v = .agg #[.string a0, v1, v2, .int .i64 a3, .bool a4] ∧ (SlAt rdnE (All w) w a1 v1 ∧ SlAt strE (All w) w a2 v2) ∧ ruleE.long (a0, a1, a2, a3, a4) := by
  obtain ⟨cs, a, rfl, h1, h2⟩ := opv_struct Try.underlying96 opn_rule hv h
  obtain ⟨a0, a1, a2, a3, a4, v1, v2, rfl, e1, hq⟩ := rule_atq h1
  refine ⟨a0, a1, a2, a3, a4, v1, v2, agg_eq e1, ?_, h2⟩
  exact ⟨hq.1, hq.2.1⟩
end Go.Proofs.Ytglgkocjdockdaa
