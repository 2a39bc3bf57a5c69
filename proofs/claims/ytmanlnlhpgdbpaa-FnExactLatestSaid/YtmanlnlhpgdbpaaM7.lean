/- Merged texts: szAttr, szEntry, szChange, eqRdn, eqString, eqAttr, eqEntry, eqChange, MemL, MemE, markRdn, markString, markAttr, markEntry, markChange, heldRdn, heldString. -/
import Derived.Test.YtmanlnlhpgdbpaaM2
import Derived.Test.YtmanlnlhpgdbpaaM3
import Derived.Test.YtmanlnlhpgdbpaaM6
import Derived.SliceStrings
import Derived.Test.YtmanlnlhpgdbpaaM1
import Derived.Deep.RegionHeld
import Derived.Test.YtmanlnlhpgdbpaaM4
/- The helpers of the laws: sizes. -/
namespace Go.Proofs.Ytmanlnlhpgdbpaa
open Go.RowKit
attribute [local go_sem ↓] Go.wp_at_zero Go.wp_at_succ

set_option maxRecDepth 100000 in
set_option maxHeartbeats 4000000 in
theorem szAttr_at {S : Bs} (a0 : ByteArray) (a1 : (List ByteArray)) (v1 : Value) (left : Int) (w : World) (h1 : SlAt strE S w a1 v1) (hl : attrE.long (a0, a1)) (g0 : 0 ≤ left) (g1 : left ≤ 1048576) :
    Calls Try.prog 123 #[.agg #[.string a0, v1], .int .i64 left] w fun e w' => e = .returned (.int .i64 (leftR (attrE.sz (a0, a1)) left)) ∧ Below w.heap.size w w' := by
  have HE : Hid (attrE.sz (a0, a1) = a0.size + ((a1.length + szL strE a1))) := Lib.hid rfl
  have z0 : a0.size ≤ 9223372036854775807 := by have := hl.1; simp only [strE, maxLen] at this; omega
  have C1 : Hid (∀ (l : Int) (W : World), Below w.heap.size w W → 0 ≤ l → l ≤ 1048576 → Calls Try.prog 138 #[v1, .int .i64 l] W fun e w' => e = .returned (.int .i64 (leftR (a1.length + szL strE a1) l)) ∧ Below W.heap.size W w') := Lib.hid (fun l W b p q => szStringS_at v1 a1 l W (h1.frame (Same.of_below' b)) hl.2 p q)
  obtain ⟨o1, k1, rfl⟩ := h1.sl
  clear h1
  clear hl
  generalize attrE.sz (a0, a1) = z at *
  generalize (a1.length + szL strE a1) = r1 at *
  generalize a1.length = m1 at *
  by_cases g2 : (a0.size : Int) ≤ left
  · have c0 : ¬ left - (a0.size : Int) < 0 := by omega
    go_enter Try.func123, Try.ntmps123
    go_wp2_with fail
    refine calls_by (fun W => Below w.heap.size w W ∧ Blk W w.heap.size [.string a0, .slice o1 m1 k1]) ⟨more' (Below.refl _ _) _, Blk.new _ _ _⟩ ?_
    rintro w1 ⟨b1, t1⟩
    have T1 := Lib.hid t1; clear t1
    refine (C1.out _ w1 b1 (by omega) (by omega)).mono ?_
    rintro e w2 ⟨rfl, hb⟩
    have T2 := Lib.hid (T1.out.below hb); have b2 := b1.trans (hb.mono b1.size)
    clear hb b1 T1 C1
    by_cases g3 : (r1 : Int) ≤ left - (a0.size : Int)
    · rw [leftR_pos g3]
      have c1 : ¬ left - (a0.size : Int) - (r1 : Int) < 0 := by omega
      have q0 := T2.out.cell 0 rfl
      have q1 := T2.out.cell 1 rfl
      have HR : Hid (leftR z left = left - (a0.size : Int) - (r1 : Int)) := Lib.hid (by rw [leftR_pos (by rw [HE.out]; omega), HE.out]; omega)
      go_wp2
      go_ret
      exact ⟨ret_int (by rw [HR.out]), b2⟩
    · rw [leftR_neg g3]
      have HR : Hid (leftR z left = -1) := Lib.hid (leftR_neg (by rw [HE.out]; omega))
      go_wp2
      go_ret
      exact ⟨ret_int (by rw [HR.out]), b2⟩
  · have c0 : left - (a0.size : Int) < 0 := by omega
    have HR : Hid (leftR z left = -1) := Lib.hid (leftR_neg (by rw [HE.out]; omega))
    go_enter Try.func123, Try.ntmps123
    go_wp2
    go_ret
    exact ⟨ret_int (by rw [HR.out]), (Below.refl _ _).alloc (Nat.le_refl _) _⟩
set_option maxRecDepth 100000 in
set_option maxHeartbeats 4000000 in
theorem szAttrS_at {S : Bs} (v : Value) (d : List AttrT) (left : Int) (w : World) (hd : SlAt attrE S w d v) (hf : (slE attrE).long d) (h0 : 0 ≤ left) (h1 : left ≤ 1048576) :
    Calls Try.prog 99 #[v, .int .i64 left] w fun e w' => e = .returned (.int .i64 (leftR (d.length + szL attrE d) left)) ∧ Below w.heap.size w w' := by
  obtain ⟨ao, cap, rfl⟩ := hd.sl
  have hl : d.length ≤ 9223372036854775807 := hf.1
  have HD := Lib.hid hd; have HF := Lib.hid hf; clear hd hf
  by_cases g : (d.length : Int) ≤ left
  · have c1 : ¬ left - (d.length : Int) < 0 := by omega
    go_enter Try.func99, Try.ntmps99
    go_wp2
    go_loopw [1, 5] (fun t i wr => ∃ k : Nat, k ≤ d.length ∧ i = .int .i64 k ∧ ((d.length + szL attrE (d.take k) : Nat) : Int) ≤ left ∧ t = .int .i64 (left - (d.length + szL attrE (d.take k) : Nat)) ∧ Below w.heap.size w wr) (fun _ i _ => d.length - (intOf i).toNat)
    case atStart => exact ⟨0, Nat.zero_le _, rfl, by simp [szL]; omega, by simp [szL], Below.refl _ _⟩
    case round =>
      clear c1
      obtain ⟨k, hk, rfl, hle, rfl, hbel⟩ := hrel
      have hsz := hbel.size
      by_cases hlt : k < d.length
      · obtain ⟨b, off, a0, a1, v1, rfl, _, hb0, hx, ⟨hc0, hc1⟩, s1, _⟩ := attr_row (HD.out.frame (Same.of_below' hbel)) hlt
        have HV1 := Lib.hid s1; clear s1
        have HZ : Hid (attrE.long (a0, a1)) := Lib.hid (by have := HF.out.2 _ (List.getElem_mem hlt); rw [hx] at this; exact this)
        have HT : Hid (szL attrE (d.take (k + 1)) = szL attrE (d.take k) + attrE.sz (a0, a1)) := Lib.hid (by rw [szL_take attrE d k hlt, hx])
        have HTl := Lib.hid (szL_le attrE d (k + 1))
        clear hx
        generalize hq : d.length + szL attrE (d.take k) = q at *
        have Hq := Lib.hid hq; clear hq
        have HC := Lib.hid (szAttr_at a0 a1 v1 (left - (q : Int)) wr HV1.out HZ.out (by omega) (by omega))
        generalize attrE.sz (a0, a1) = r at *
        go_wp2_with fail
        refine HC.out.mono ?_
        rintro e w2 ⟨rfl, hb2⟩
        have B2 := Lib.hid (hbel.trans (hb2.mono hsz)); clear hb2
        by_cases hfit : (r : Int) ≤ left - (q : Int)
        · rw [leftR_pos hfit]
          have c2 : ¬ left - (q : Int) - (r : Int) < 0 := by omega
          go_wp2
          go_roundw
          case rel =>
            have e := HT.out
            have e3 := Hq.out
            exact ⟨k + 1, by omega, by go_num, by omega, by rw [e]; congr 1; omega, B2.out⟩
          case measure => simp [intOf]; omega
        · rw [leftR_neg hfit]
          have HR : Hid (leftR (d.length + szL attrE d) left = -1) := Lib.hid (leftR_neg (by
            have := HT.out; have := HTl.out; have := Hq.out; omega))
          go_wp2
          go_ret
          exact ⟨ret_int (by rw [HR.out]), B2.out⟩
      · have HR : Hid (leftR (d.length + szL attrE d) left = left - (d.length + szL attrE (d.take k) : Nat)) := Lib.hid (by
          rw [List.take_of_length_le (by omega)] at hle ⊢
          exact leftR_pos hle)
        go_wp2
        go_ret
        exact ⟨ret_int (by rw [HR.out]), hbel⟩
  · have HR : Hid (leftR (d.length + szL attrE d) left = -1) := Lib.hid (leftR_neg (by omega))
    have c1 : left - (d.length : Int) < 0 := by omega
    go_enter Try.func99, Try.ntmps99
    go_wp2
    go_ret
    exact ⟨ret_int (by rw [HR.out]), Below.refl _ _⟩
end Go.Proofs.Ytmanlnlhpgdbpaa
/- The helpers of the laws: sizes. -/
namespace Go.Proofs.Ytmanlnlhpgdbpaa
open Go.RowKit
attribute [local go_sem ↓] Go.wp_at_zero Go.wp_at_succ

set_option maxRecDepth 100000 in
set_option maxHeartbeats 4000000 in
theorem szEntry_at {S : Bs} (a0 : (List RdnT)) (a1 : (List AttrT)) (v0 v1 : Value) (left : Int) (w : World) (h0 : SlAt rdnE S w a0 v0) (h1 : SlAt attrE S w a1 v1) (hl : entryE.long (a0, a1)) (g0 : 0 ≤ left) (g1 : left ≤ 1048576) :
    Calls Try.prog 70 #[.agg #[v0, v1], .int .i64 left] w fun e w' => e = .returned (.int .i64 (leftR (entryE.sz (a0, a1)) left)) ∧ Below w.heap.size w w' := by
  have HE : Hid (entryE.sz (a0, a1) = (a0.length + szL rdnE a0) + ((a1.length + szL attrE a1))) := Lib.hid rfl
  have C0 : Hid (∀ (l : Int) (W : World), Below w.heap.size w W → 0 ≤ l → l ≤ 1048576 → Calls Try.prog 98 #[v0, .int .i64 l] W fun e w' => e = .returned (.int .i64 (leftR (a0.length + szL rdnE a0) l)) ∧ Below W.heap.size W w') := Lib.hid (fun l W b p q => szRdnS_at v0 a0 l W (h0.frame (Same.of_below' b)) hl.1 p q)
  have C1 : Hid (∀ (l : Int) (W : World), Below w.heap.size w W → 0 ≤ l → l ≤ 1048576 → Calls Try.prog 99 #[v1, .int .i64 l] W fun e w' => e = .returned (.int .i64 (leftR (a1.length + szL attrE a1) l)) ∧ Below W.heap.size W w') := Lib.hid (fun l W b p q => szAttrS_at v1 a1 l W (h1.frame (Same.of_below' b)) hl.2 p q)
  obtain ⟨o0, k0, rfl⟩ := h0.sl
  obtain ⟨o1, k1, rfl⟩ := h1.sl
  clear h0 h1
  clear hl
  generalize entryE.sz (a0, a1) = z at *
  generalize (a0.length + szL rdnE a0) = r0 at *
  generalize (a1.length + szL attrE a1) = r1 at *
  generalize a0.length = m0 at *
  generalize a1.length = m1 at *
  go_enter Try.func70, Try.ntmps70
  go_wp2_with fail
  refine calls_by (fun W => Below w.heap.size w W ∧ Blk W w.heap.size [.slice o0 m0 k0, .slice o1 m1 k1]) ⟨more' (Below.refl _ _) _, Blk.new _ _ _⟩ ?_
  rintro w1 ⟨b1, t1⟩
  have T1 := Lib.hid t1; clear t1
  refine (C0.out _ w1 b1 (by omega) (by omega)).mono ?_
  rintro e w2 ⟨rfl, hb⟩
  have T2 := Lib.hid (T1.out.below hb); have b2 := b1.trans (hb.mono b1.size)
  clear hb b1 T1 C0
  by_cases g2 : (r0 : Int) ≤ left
  · rw [leftR_pos g2]
    have c0 : ¬ left - (r0 : Int) < 0 := by omega
    have q0 := T2.out.cell 0 rfl
    have q1 := T2.out.cell 1 rfl
    go_wp2_with fail
    refine (C1.out _ w2 b2 (by omega) (by omega)).mono ?_
    rintro e w3 ⟨rfl, hb⟩
    have T3 := Lib.hid (T2.out.below hb); have b3 := b2.trans (hb.mono b2.size)
    clear hb b2 T2 C1 q0 q1
    by_cases g3 : (r1 : Int) ≤ left - (r0 : Int)
    · rw [leftR_pos g3]
      have c1 : ¬ left - (r0 : Int) - (r1 : Int) < 0 := by omega
      have q0 := T3.out.cell 0 rfl
      have q1 := T3.out.cell 1 rfl
      have HR : Hid (leftR z left = left - (r0 : Int) - (r1 : Int)) := Lib.hid (by rw [leftR_pos (by rw [HE.out]; omega), HE.out]; omega)
      go_wp2
      go_ret
      exact ⟨ret_int (by rw [HR.out]), b3⟩
    · rw [leftR_neg g3]
      have HR : Hid (leftR z left = -1) := Lib.hid (leftR_neg (by rw [HE.out]; omega))
      go_wp2
      go_ret
      exact ⟨ret_int (by rw [HR.out]), b3⟩
  · rw [leftR_neg g2]
    have HR : Hid (leftR z left = -1) := Lib.hid (leftR_neg (by rw [HE.out]; omega))
    go_wp2
    go_ret
    exact ⟨ret_int (by rw [HR.out]), b2⟩
end Go.Proofs.Ytmanlnlhpgdbpaa
/- The helpers of the laws: sizes. -/
namespace Go.Proofs.Ytmanlnlhpgdbpaa
open Go.RowKit
attribute [local go_sem ↓] Go.wp_at_zero Go.wp_at_succ

set_option maxRecDepth 100000 in
set_option maxHeartbeats 4000000 in
theorem szChange_at {S : Bs} (a0 : Int) (a1 : Int) (a2 : ByteArray) (a3 : (List RdnT)) (a4 : (List AttrT)) (v3 v4 : Value) (left : Int) (w : World) (h3 : SlAt rdnE S w a3 v3) (h4 : SlAt attrE S w a4 v4) (hl : changeE.long (a0, a1, a2, (a3, a4))) (g0 : 0 ≤ left) (g1 : left ≤ 1048576) :
    Calls Try.prog 35 #[.agg #[.int .i64 a0, .int .i64 a1, .string a2, v3, v4], .int .i64 left] w fun e w' => e = .returned (.int .i64 (leftR (changeE.sz (a0, a1, a2, (a3, a4))) left)) ∧ Below w.heap.size w w' := by
  have HE : Hid (changeE.sz (a0, a1, a2, (a3, a4)) = 0 + (0 + (a2.size + (entryE.sz (a3, a4))))) := Lib.hid rfl
  have z2 : a2.size ≤ 9223372036854775807 := by have := hl.2.2.1; simp only [strE, maxLen] at this; omega
  have C3 : Hid (∀ (l : Int) (W : World), Below w.heap.size w W → 0 ≤ l → l ≤ 1048576 → Calls Try.prog 70 #[.agg #[v3, v4], .int .i64 l] W fun e w' => e = .returned (.int .i64 (leftR (entryE.sz (a3, a4)) l)) ∧ Below W.heap.size W w') := Lib.hid (fun l W b p q => szEntry_at a3 a4 v3 v4 l W (h3.frame (Same.of_below' b)) (h4.frame (Same.of_below' b)) (hl.2.2.2) p q)
  obtain ⟨o3, k3, rfl⟩ := h3.sl
  obtain ⟨o4, k4, rfl⟩ := h4.sl
  clear h3 h4
  clear hl
  generalize changeE.sz (a0, a1, a2, (a3, a4)) = z at *
  generalize entryE.sz (a3, a4) = r3 at *
  generalize a3.length = m3 at *
  generalize a4.length = m4 at *
  by_cases g4 : (a2.size : Int) ≤ left
  · have c2 : ¬ left - (a2.size : Int) < 0 := by omega
    go_enter Try.func35, Try.ntmps35
    go_wp2_with fail
    refine calls_by (fun W => Below w.heap.size w W ∧ Blk W w.heap.size [.int .i64 a0, .int .i64 a1, .string a2, .slice o3 m3 k3, .slice o4 m4 k4]) ⟨more' (Below.refl _ _) _, Blk.new _ _ _⟩ ?_
    rintro w1 ⟨b1, t1⟩
    have T1 := Lib.hid t1; clear t1
    refine (C3.out _ w1 b1 (by omega) (by omega)).mono ?_
    rintro e w2 ⟨rfl, hb⟩
    have T2 := Lib.hid (T1.out.below hb); have b2 := b1.trans (hb.mono b1.size)
    clear hb b1 T1 C3
    by_cases g5 : (r3 : Int) ≤ left - (a2.size : Int)
    · rw [leftR_pos g5]
      have c3 : ¬ left - (a2.size : Int) - (r3 : Int) < 0 := by omega
      have q0 := T2.out.cell 0 rfl
      have q1 := T2.out.cell 1 rfl
      have q2 := T2.out.cell 2 rfl
      have q3 := T2.out.cell 3 rfl
      have q4 := T2.out.cell 4 rfl
      have HR : Hid (leftR z left = left - (a2.size : Int) - (r3 : Int)) := Lib.hid (by rw [leftR_pos (by rw [HE.out]; omega), HE.out]; omega)
      go_wp2
      go_ret
      exact ⟨ret_int (by rw [HR.out]), b2⟩
    · rw [leftR_neg g5]
      have HR : Hid (leftR z left = -1) := Lib.hid (leftR_neg (by rw [HE.out]; omega))
      go_wp2
      go_ret
      exact ⟨ret_int (by rw [HR.out]), b2⟩
  · have c2 : left - (a2.size : Int) < 0 := by omega
    have HR : Hid (leftR z left = -1) := Lib.hid (leftR_neg (by rw [HE.out]; omega))
    go_enter Try.func35, Try.ntmps35
    go_wp2
    go_ret
    exact ⟨ret_int (by rw [HR.out]), (Below.refl _ _).alloc (Nat.le_refl _) _⟩
set_option maxRecDepth 100000 in
set_option maxHeartbeats 4000000 in
theorem szChangeS_at {S : Bs} (v : Value) (d : List ChangeT) (left : Int) (w : World) (hd : SlAt changeE S w d v) (hf : (slE changeE).long d) (h0 : 0 ≤ left) (h1 : left ≤ 1048576) :
    Calls Try.prog 6 #[v, .int .i64 left] w fun e w' => e = .returned (.int .i64 (leftR (d.length + szL changeE d) left)) ∧ Below w.heap.size w w' := by
  obtain ⟨ao, cap, rfl⟩ := hd.sl
  have hl : d.length ≤ 9223372036854775807 := hf.1
  have HD := Lib.hid hd; have HF := Lib.hid hf; clear hd hf
  by_cases g : (d.length : Int) ≤ left
  · have c1 : ¬ left - (d.length : Int) < 0 := by omega
    go_enter Try.func6, Try.ntmps6
    go_wp2
    go_loopw [1, 5] (fun t i wr => ∃ k : Nat, k ≤ d.length ∧ i = .int .i64 k ∧ ((d.length + szL changeE (d.take k) : Nat) : Int) ≤ left ∧ t = .int .i64 (left - (d.length + szL changeE (d.take k) : Nat)) ∧ Below w.heap.size w wr) (fun _ i _ => d.length - (intOf i).toNat)
    case atStart => exact ⟨0, Nat.zero_le _, rfl, by simp [szL]; omega, by simp [szL], Below.refl _ _⟩
    case round =>
      clear c1
      obtain ⟨k, hk, rfl, hle, rfl, hbel⟩ := hrel
      have hsz := hbel.size
      by_cases hlt : k < d.length
      · obtain ⟨b, off, a0, a1, a2, a3, a4, v3, v4, rfl, _, hb0, hx, ⟨hc0, hc1, hc2, hc3, hc4⟩, s3, s4, _⟩ := change_row (HD.out.frame (Same.of_below' hbel)) hlt
        have HV3 := Lib.hid s3; clear s3
        have HV4 := Lib.hid s4; clear s4
        have HZ : Hid (changeE.long (a0, a1, a2, (a3, a4))) := Lib.hid (by have := HF.out.2 _ (List.getElem_mem hlt); rw [hx] at this; exact this)
        have HT : Hid (szL changeE (d.take (k + 1)) = szL changeE (d.take k) + changeE.sz (a0, a1, a2, (a3, a4))) := Lib.hid (by rw [szL_take changeE d k hlt, hx])
        have HTl := Lib.hid (szL_le changeE d (k + 1))
        clear hx
        generalize hq : d.length + szL changeE (d.take k) = q at *
        have Hq := Lib.hid hq; clear hq
        have HC := Lib.hid (szChange_at a0 a1 a2 a3 a4 v3 v4 (left - (q : Int)) wr HV3.out HV4.out HZ.out (by omega) (by omega))
        generalize changeE.sz (a0, a1, a2, (a3, a4)) = r at *
        go_wp2_with fail
        refine HC.out.mono ?_
        rintro e w2 ⟨rfl, hb2⟩
        have B2 := Lib.hid (hbel.trans (hb2.mono hsz)); clear hb2
        by_cases hfit : (r : Int) ≤ left - (q : Int)
        · rw [leftR_pos hfit]
          have c2 : ¬ left - (q : Int) - (r : Int) < 0 := by omega
          go_wp2
          go_roundw
          case rel =>
            have e := HT.out
            have e3 := Hq.out
            exact ⟨k + 1, by omega, by go_num, by omega, by rw [e]; congr 1; omega, B2.out⟩
          case measure => simp [intOf]; omega
        · rw [leftR_neg hfit]
          have HR : Hid (leftR (d.length + szL changeE d) left = -1) := Lib.hid (leftR_neg (by
            have := HT.out; have := HTl.out; have := Hq.out; omega))
          go_wp2
          go_ret
          exact ⟨ret_int (by rw [HR.out]), B2.out⟩
      · have HR : Hid (leftR (d.length + szL changeE d) left = left - (d.length + szL changeE (d.take k) : Nat)) := Lib.hid (by
          rw [List.take_of_length_le (by omega)] at hle ⊢
          exact leftR_pos hle)
        go_wp2
        go_ret
        exact ⟨ret_int (by rw [HR.out]), hbel⟩
  · have HR : Hid (leftR (d.length + szL changeE d) left = -1) := Lib.hid (leftR_neg (by omega))
    have c1 : left - (d.length : Int) < 0 := by omega
    go_enter Try.func6, Try.ntmps6
    go_wp2
    go_ret
    exact ⟨ret_int (by rw [HR.out]), Below.refl _ _⟩
end Go.Proofs.Ytmanlnlhpgdbpaa
/- The helpers of the laws: comparisons. -/
namespace Go.Proofs.Ytmanlnlhpgdbpaa
open Go.RowKit
attribute [local go_sem ↓] Go.wp_at_zero Go.wp_at_succ

set_option maxRecDepth 100000 in
set_option maxHeartbeats 4000000 in
theorem eqRdn_at  (w0 : World) (a0 : ByteArray) (a1 : ByteArray)   (w : World) (hB : Below w0.heap.size w0 w)    :
    Calls Try.prog 126 #[.agg #[.string a0, .string a1], .agg #[.string a0, .string a1]] w fun e w' => e = .returned (.bool true) ∧ Below w0.heap.size w0 w' := by
  have hk0 : (a0.toList == a0.toList) = true := by simp
  have hk1 : (a1.toList == a1.toList) = true := by simp
  have HB := Lib.hid hB
  clear hB
  go_enter Try.func126, Try.ntmps126
  go_wp2
  go_ret
  exact ⟨rfl, more' (more' HB.out _) _⟩
set_option maxRecDepth 100000 in
set_option maxHeartbeats 4000000 in
theorem eqRdnS_at {S S' : Bs} (v u : Value) (d : List RdnT) (w : World) (hd : SlAt rdnE S w d v) (hu : SlAt rdnE S' w d u) (hz : d.length + szL rdnE d ≤ 1048576) :
    Calls Try.prog 104 #[v, u] w fun e w' => e = .returned (.bool true) ∧ Below w.heap.size w w' := by
  obtain ⟨ao, ca, rfl⟩ := hd.sl
  obtain ⟨bo, cb, rfl⟩ := hu.sl
  have HA := Lib.hid hd; have HB := Lib.hid hu; clear hd hu
  have HL := Lib.hid hz
  have hl : d.length ≤ 1048576 := by omega
  clear hz
  go_enter Try.func104, Try.ntmps104
  go_wp2
  go_loopw [5] (fun i wr => ∃ k : Nat, k ≤ d.length ∧ i = .int .i64 k ∧ Below w.heap.size w wr) (fun i _ => d.length - (intOf i).toNat)
  case atStart => exact ⟨0, Nat.zero_le _, rfl, Below.refl _ _⟩
  case round =>
    obtain ⟨k, hk, rfl, hbel⟩ := hrel
    have hsz := hbel.size
    by_cases hlt : k < d.length
    · obtain ⟨p, off, a0, a1, rfl, _, hp0, hx, hc, _⟩ := rdn_row (HA.out.frame (Same.of_below' hbel)) hlt
      obtain ⟨q, off', x0, x1, rfl, _, hq0, hx', hd, _⟩ := rdn_row (HB.out.frame (Same.of_below' hbel)) hlt
      have hxx := hx.symm.trans hx'
      simp only [Prod.mk.injEq] at hxx
      obtain ⟨rfl, rfl⟩ := hxx
      have HZ : Hid (rdnE.sz (a0, a1) ≤ 1048576) := Lib.hid (by have h1 := szL_mem rdnE (List.getElem_mem hlt); rw [hx] at h1; have := HL.out; omega)
      clear hx hx'
      have C : Hid (∀ W : World, Below wr.heap.size wr W → Calls Try.prog 126 #[.agg #[.string a0, .string a1], .agg #[.string a0, .string a1]] W fun e w' => e = .returned (.bool true) ∧ Below wr.heap.size wr w') := Lib.hid (fun W b => eqRdn_at wr a0 a1 W b   )
      have SK : Hid (∀ W : World, Below wr.heap.size wr W → (Below wr.heap.size wr W ∧ (W.cell? ⟨p, off + k * 2, none⟩ = some (.string a0) ∧ W.cell? ⟨p, off + k * 2 + 1, none⟩ = some (.string a1)) ∧ (W.cell? ⟨q, off' + k * 2, none⟩ = some (.string a0) ∧ W.cell? ⟨q, off' + k * 2 + 1, none⟩ = some (.string a1)))) :=
        Lib.hid (fun W h => ⟨h, ⟨(h.cell (p := ⟨p, _, none⟩) hp0).trans hc.1, (h.cell (p := ⟨p, _, none⟩) hp0).trans hc.2⟩, ⟨(h.cell (p := ⟨q, _, none⟩) hq0).trans hd.1, (h.cell (p := ⟨q, _, none⟩) hq0).trans hd.2⟩⟩)
      have hbd : Below wr.heap.size wr wr.drew := (Below.refl _ _).drew
      have hb0 : Below wr.heap.size wr wr := Below.refl _ _
      have HBl := Lib.hid hbel
      clear hc hd hbel
      have g1 : (0 : Int) ≤ (k : Int) := by omega
      have g2 : (k : Int) < (d.length : Int) := by omega
      go_wp2_with fail
      go_region_held3 (fun W => Below wr.heap.size wr W ∧ (W.cell? ⟨p, off + k * 2, none⟩ = some (.string a0) ∧ W.cell? ⟨p, off + k * 2 + 1, none⟩ = some (.string a1)) ∧ (W.cell? ⟨q, off' + k * 2, none⟩ = some (.string a0) ∧ W.cell? ⟨q, off' + k * 2 + 1, none⟩ = some (.string a1)))
        (exact SK.out _ (by assumption))
        (first | (go_at_call 126; refine (C.out _ (by assumption)).mono ?_; rintro e w2 ⟨rfl, hb2⟩) | (fail "none"))
      all_goals
        go_wp2
        go_roundw
        case rel => exact ⟨k + 1, by omega, by go_num, HBl.out.trans (hb2.mono HBl.out.size)⟩
        case measure => simp [intOf]; omega
    · go_wp2
      go_ret
      exact ⟨rfl, hbel⟩
end Go.Proofs.Ytmanlnlhpgdbpaa
/- The helpers of the laws: comparisons. -/
namespace Go.Proofs.Ytmanlnlhpgdbpaa
open Go.RowKit
attribute [local go_sem ↓] Go.wp_at_zero Go.wp_at_succ

set_option maxRecDepth 100000 in
set_option maxHeartbeats 4000000 in
theorem eqStringS_at {S S' : Bs} (v u : Value) (d : List ByteArray) (w : World) (hd : SlAt strE S w d v) (hu : SlAt strE S' w d u) (hz : d.length + szL strE d ≤ 1048576) :
    Calls Try.prog 140 #[v, u] w fun e w' => e = .returned (.bool true) ∧ Below w.heap.size w w' := by
  obtain ⟨ao, ca, rfl⟩ := hd.sl
  obtain ⟨bo, cb, rfl⟩ := hu.sl
  have HA := Lib.hid hd; have HB := Lib.hid hu; clear hd hu
  have HL := Lib.hid hz
  have hl : d.length ≤ 1048576 := by omega
  clear hz
  go_enter Try.func140, Try.ntmps140
  go_wp2
  go_loopw [5] (fun i wr => ∃ k : Nat, k ≤ d.length ∧ i = .int .i64 k ∧ Below w.heap.size w wr) (fun i _ => d.length - (intOf i).toNat)
  case atStart => exact ⟨0, Nat.zero_le _, rfl, Below.refl _ _⟩
  case round =>
    obtain ⟨k, hk, rfl, hbel⟩ := hrel
    have hsz := hbel.size
    by_cases hlt : k < d.length
    · obtain ⟨p, off, A, rfl, _, hp0, hx, c1⟩ := str_row (HA.out.frame (Same.of_below' hbel)) hlt
      obtain ⟨q, off', A', rfl, _, hq0, hx', c2⟩ := str_row (HB.out.frame (Same.of_below' hbel)) hlt
      obtain rfl : A = A' := hx.symm.trans hx'
      clear hx hx'
      have hkk : (A.toList == A.toList) = true := by simp
      have g1 : (0 : Int) ≤ (k : Int) := by omega
      have g2 : (k : Int) < (d.length : Int) := by omega
      have hbd := hbel.drew
      have c1' : wr.drew.cell? ⟨p, off + k, none⟩ = some (.string A) := c1
      have c2' : wr.drew.cell? ⟨q, off' + k, none⟩ = some (.string A) := c2
      go_wp2_with fail
      go_region_held3 (fun W => Below w.heap.size w W ∧ W.cell? ⟨p, off + k, none⟩ = some (.string A) ∧ W.cell? ⟨q, off' + k, none⟩ = some (.string A))
        (first | exact ⟨hbel, c1, c2⟩ | exact ⟨hbd, c1', c2'⟩)
        (fail "none")
      all_goals
        go_wp2
        go_roundw
        case rel => exact ⟨k + 1, by omega, by go_num, by first | exact hbel | exact hbd⟩
        case measure => simp [intOf]; omega
    · go_wp2
      go_ret
      exact ⟨rfl, hbel⟩
end Go.Proofs.Ytmanlnlhpgdbpaa
/- The helpers of the laws: comparisons. -/
namespace Go.Proofs.Ytmanlnlhpgdbpaa
open Go.RowKit
attribute [local go_sem ↓] Go.wp_at_zero Go.wp_at_succ

set_option maxRecDepth 100000 in
set_option maxHeartbeats 4000000 in
theorem eqAttr_at {S S' : Bs} (w0 : World) (a0 : ByteArray) (a1 : (List ByteArray)) (v1 : Value) (u1 : Value) (w : World) (hB : Below w0.heap.size w0 w) (h1 : SlAt strE S w0 a1 v1) (g1 : SlAt strE S' w0 a1 u1) (hz : attrE.sz (a0, a1) ≤ 1048576) :
    Calls Try.prog 127 #[.agg #[.string a0, v1], .agg #[.string a0, u1]] w fun e w' => e = .returned (.bool true) ∧ Below w0.heap.size w0 w' := by
  have HE : attrE.sz (a0, a1) = a0.size + ((a1.length + szL strE a1)) := rfl
  rw [HE] at hz
  have hk0 : (a0.toList == a0.toList) = true := by simp
  have C1 : Hid (∀ W : World, Below w0.heap.size w0 W → Calls Try.prog 140 #[v1, u1] W fun e w' => e = .returned (.bool true) ∧ Below W.heap.size W w') := Lib.hid (fun W b => eqStringS_at v1 u1 a1 W (h1.frame (Same.of_below' b)) (g1.frame (Same.of_below' b)) (by omega))
  obtain ⟨o1, k1, rfl⟩ := h1.sl
  obtain ⟨p1, j1, rfl⟩ := g1.sl
  clear hz HE h1 g1
  have HB := Lib.hid hB
  clear hB
  go_enter Try.func127, Try.ntmps127
  go_wp2_with fail
  refine calls_by (fun W => Below w0.heap.size w0 W ∧ Blk W w.heap.size [.string a0, .slice o1 a1.length k1] ∧ Blk W (w.heap.size + 1) [.string a0, .slice p1 a1.length j1]) ⟨more' (more' HB.out _) _, (Blk.new _ _ _).alloc _, blk_at _ _ _ (by simp)⟩ ?_
  rintro W1 ⟨b1, x1, y1⟩
  have X1 := Lib.hid x1; have Y1 := Lib.hid y1; clear x1 y1
  refine (C1.out W1 b1).mono ?_
  rintro e W2 ⟨rfl, hb⟩
  have X2 := Lib.hid (X1.out.below hb); have Y2 := Lib.hid (Y1.out.below hb); have b2 := b1.trans (hb.mono b1.size)
  clear X1 Y1 hb b1 C1
  have m0 := X2.out.cell 0 rfl
  have n0 := Y2.out.cell 0 rfl
  have m1 := X2.out.cell 1 rfl
  have n1 := Y2.out.cell 1 rfl
  go_wp2
  go_ret
  exact ⟨rfl, b2⟩
set_option maxRecDepth 100000 in
set_option maxHeartbeats 4000000 in
theorem eqAttrS_at {S S' : Bs} (v u : Value) (d : List AttrT) (w : World) (hd : SlAt attrE S w d v) (hu : SlAt attrE S' w d u) (hz : d.length + szL attrE d ≤ 1048576) :
    Calls Try.prog 105 #[v, u] w fun e w' => e = .returned (.bool true) ∧ Below w.heap.size w w' := by
  obtain ⟨ao, ca, rfl⟩ := hd.sl
  obtain ⟨bo, cb, rfl⟩ := hu.sl
  have HA := Lib.hid hd; have HB := Lib.hid hu; clear hd hu
  have HL := Lib.hid hz
  have hl : d.length ≤ 1048576 := by omega
  clear hz
  go_enter Try.func105, Try.ntmps105
  go_wp2
  go_loopw [5] (fun i wr => ∃ k : Nat, k ≤ d.length ∧ i = .int .i64 k ∧ Below w.heap.size w wr) (fun i _ => d.length - (intOf i).toNat)
  case atStart => exact ⟨0, Nat.zero_le _, rfl, Below.refl _ _⟩
  case round =>
    obtain ⟨k, hk, rfl, hbel⟩ := hrel
    have hsz := hbel.size
    by_cases hlt : k < d.length
    · obtain ⟨p, off, a0, a1, v1, rfl, _, hp0, hx, hc, s1, _⟩ := attr_row (HA.out.frame (Same.of_below' hbel)) hlt
      obtain ⟨q, off', x0, x1, u1, rfl, _, hq0, hx', hd, t1, _⟩ := attr_row (HB.out.frame (Same.of_below' hbel)) hlt
      have hxx := hx.symm.trans hx'
      simp only [Prod.mk.injEq] at hxx
      obtain ⟨rfl, rfl⟩ := hxx
      have HZ : Hid (attrE.sz (a0, a1) ≤ 1048576) := Lib.hid (by have h1 := szL_mem attrE (List.getElem_mem hlt); rw [hx] at h1; have := HL.out; omega)
      clear hx hx'
      have C : Hid (∀ W : World, Below wr.heap.size wr W → Calls Try.prog 127 #[.agg #[.string a0, v1], .agg #[.string a0, u1]] W fun e w' => e = .returned (.bool true) ∧ Below wr.heap.size wr w') := Lib.hid (fun W b => eqAttr_at wr a0 a1 v1 u1 W b s1 t1 HZ.out)
      clear s1 t1 HZ
      have SK : Hid (∀ W : World, Below wr.heap.size wr W → (Below wr.heap.size wr W ∧ (W.cell? ⟨p, off + k * 2, none⟩ = some (.string a0) ∧ W.cell? ⟨p, off + k * 2 + 1, none⟩ = some (v1)) ∧ (W.cell? ⟨q, off' + k * 2, none⟩ = some (.string a0) ∧ W.cell? ⟨q, off' + k * 2 + 1, none⟩ = some (u1)))) :=
        Lib.hid (fun W h => ⟨h, ⟨(h.cell (p := ⟨p, _, none⟩) hp0).trans hc.1, (h.cell (p := ⟨p, _, none⟩) hp0).trans hc.2⟩, ⟨(h.cell (p := ⟨q, _, none⟩) hq0).trans hd.1, (h.cell (p := ⟨q, _, none⟩) hq0).trans hd.2⟩⟩)
      have hbd : Below wr.heap.size wr wr.drew := (Below.refl _ _).drew
      have hb0 : Below wr.heap.size wr wr := Below.refl _ _
      have HBl := Lib.hid hbel
      clear hc hd hbel
      have g1 : (0 : Int) ≤ (k : Int) := by omega
      have g2 : (k : Int) < (d.length : Int) := by omega
      go_wp2_with fail
      go_region_held3 (fun W => Below wr.heap.size wr W ∧ (W.cell? ⟨p, off + k * 2, none⟩ = some (.string a0) ∧ W.cell? ⟨p, off + k * 2 + 1, none⟩ = some (v1)) ∧ (W.cell? ⟨q, off' + k * 2, none⟩ = some (.string a0) ∧ W.cell? ⟨q, off' + k * 2 + 1, none⟩ = some (u1)))
        (exact SK.out _ (by assumption))
        (first | (go_at_call 127; refine (C.out _ (by assumption)).mono ?_; rintro e w2 ⟨rfl, hb2⟩) | (fail "none"))
      all_goals
        go_wp2
        go_roundw
        case rel => exact ⟨k + 1, by omega, by go_num, HBl.out.trans (hb2.mono HBl.out.size)⟩
        case measure => simp [intOf]; omega
    · go_wp2
      go_ret
      exact ⟨rfl, hbel⟩
end Go.Proofs.Ytmanlnlhpgdbpaa
/- The helpers of the laws: comparisons. -/
namespace Go.Proofs.Ytmanlnlhpgdbpaa
open Go.RowKit
attribute [local go_sem ↓] Go.wp_at_zero Go.wp_at_succ

set_option maxRecDepth 100000 in
set_option maxHeartbeats 4000000 in
theorem eqEntry_at {S S' : Bs} (w0 : World) (a0 : (List RdnT)) (a1 : (List AttrT)) (v0 v1 : Value) (u0 u1 : Value) (w : World) (hB : Below w0.heap.size w0 w) (h0 : SlAt rdnE S w0 a0 v0) (h1 : SlAt attrE S w0 a1 v1) (g0 : SlAt rdnE S' w0 a0 u0) (g1 : SlAt attrE S' w0 a1 u1) (hz : entryE.sz (a0, a1) ≤ 1048576) :
    Calls Try.prog 77 #[.agg #[v0, v1], .agg #[u0, u1]] w fun e w' => e = .returned (.bool true) ∧ Below w0.heap.size w0 w' := by
  have HE : entryE.sz (a0, a1) = (a0.length + szL rdnE a0) + ((a1.length + szL attrE a1)) := rfl
  rw [HE] at hz
  have C0 : Hid (∀ W : World, Below w0.heap.size w0 W → Calls Try.prog 104 #[v0, u0] W fun e w' => e = .returned (.bool true) ∧ Below W.heap.size W w') := Lib.hid (fun W b => eqRdnS_at v0 u0 a0 W (h0.frame (Same.of_below' b)) (g0.frame (Same.of_below' b)) (by omega))
  have C1 : Hid (∀ W : World, Below w0.heap.size w0 W → Calls Try.prog 105 #[v1, u1] W fun e w' => e = .returned (.bool true) ∧ Below W.heap.size W w') := Lib.hid (fun W b => eqAttrS_at v1 u1 a1 W (h1.frame (Same.of_below' b)) (g1.frame (Same.of_below' b)) (by omega))
  obtain ⟨o0, k0, rfl⟩ := h0.sl
  obtain ⟨p0, j0, rfl⟩ := g0.sl
  obtain ⟨o1, k1, rfl⟩ := h1.sl
  obtain ⟨p1, j1, rfl⟩ := g1.sl
  clear hz HE h0 g0 h1 g1
  have HB := Lib.hid hB
  clear hB
  go_enter Try.func77, Try.ntmps77
  go_wp2_with fail
  refine calls_by (fun W => Below w0.heap.size w0 W ∧ Blk W w.heap.size [.slice o0 a0.length k0, .slice o1 a1.length k1] ∧ Blk W (w.heap.size + 1) [.slice p0 a0.length j0, .slice p1 a1.length j1]) ⟨more' (more' HB.out _) _, (Blk.new _ _ _).alloc _, blk_at _ _ _ (by simp)⟩ ?_
  rintro W1 ⟨b1, x1, y1⟩
  have X1 := Lib.hid x1; have Y1 := Lib.hid y1; clear x1 y1
  refine (C0.out W1 b1).mono ?_
  rintro e W2 ⟨rfl, hb⟩
  have X2 := Lib.hid (X1.out.below hb); have Y2 := Lib.hid (Y1.out.below hb); have b2 := b1.trans (hb.mono b1.size)
  clear X1 Y1 hb b1 C0
  have m0 := X2.out.cell 0 rfl
  have n0 := Y2.out.cell 0 rfl
  have m1 := X2.out.cell 1 rfl
  have n1 := Y2.out.cell 1 rfl
  go_wp2_with fail
  refine (C1.out W2 b2).mono ?_
  rintro e W3 ⟨rfl, hb⟩
  have X3 := Lib.hid (X2.out.below hb); have Y3 := Lib.hid (Y2.out.below hb); have b3 := b2.trans (hb.mono b2.size)
  clear X2 Y2 hb b2 C1 m0 n0 m1 n1
  have m0 := X3.out.cell 0 rfl
  have n0 := Y3.out.cell 0 rfl
  have m1 := X3.out.cell 1 rfl
  have n1 := Y3.out.cell 1 rfl
  go_wp2
  go_ret
  exact ⟨rfl, b3⟩
end Go.Proofs.Ytmanlnlhpgdbpaa
/- The helpers of the laws: comparisons. -/
namespace Go.Proofs.Ytmanlnlhpgdbpaa
open Go.RowKit
attribute [local go_sem ↓] Go.wp_at_zero Go.wp_at_succ

set_option maxRecDepth 100000 in
set_option maxHeartbeats 4000000 in
theorem eqChange_at {S S' : Bs} (w0 : World) (a0 : Int) (a1 : Int) (a2 : ByteArray) (a3 : (List RdnT)) (a4 : (List AttrT)) (v3 v4 : Value) (u3 u4 : Value) (w : World) (hB : Below w0.heap.size w0 w) (h3 : SlAt rdnE S w0 a3 v3) (h4 : SlAt attrE S w0 a4 v4) (g3 : SlAt rdnE S' w0 a3 u3) (g4 : SlAt attrE S' w0 a4 u4) (hz : changeE.sz (a0, a1, a2, (a3, a4)) ≤ 1048576) :
    Calls Try.prog 40 #[.agg #[.int .i64 a0, .int .i64 a1, .string a2, v3, v4], .agg #[.int .i64 a0, .int .i64 a1, .string a2, u3, u4]] w fun e w' => e = .returned (.bool true) ∧ Below w0.heap.size w0 w' := by
  have HE : changeE.sz (a0, a1, a2, (a3, a4)) = 0 + (0 + (a2.size + (entryE.sz (a3, a4)))) := rfl
  rw [HE] at hz
  have hk0 : (a0 == a0) = true := by simp
  have hj0 : (a0 != a0) = false := by simp
  have hk1 : (a1 == a1) = true := by simp
  have hj1 : (a1 != a1) = false := by simp
  have hk2 : (a2.toList == a2.toList) = true := by simp
  have C3 : Hid (∀ W : World, Below w0.heap.size w0 W → Calls Try.prog 77 #[.agg #[v3, v4], .agg #[u3, u4]] W fun e w' => e = .returned (.bool true) ∧ Below W.heap.size W w') := Lib.hid (fun W b => eqEntry_at W a3 a4 v3 v4 u3 u4 W (Below.refl _ _) (h3.frame (Same.of_below' b)) (h4.frame (Same.of_below' b)) (g3.frame (Same.of_below' b)) (g4.frame (Same.of_below' b)) (by omega))
  obtain ⟨o3, k3, rfl⟩ := h3.sl
  obtain ⟨p3, j3, rfl⟩ := g3.sl
  obtain ⟨o4, k4, rfl⟩ := h4.sl
  obtain ⟨p4, j4, rfl⟩ := g4.sl
  clear hz HE h3 g3 h4 g4
  have HB := Lib.hid hB
  clear hB
  go_enter Try.func40, Try.ntmps40
  go_wp2_with fail
  refine calls_by (fun W => Below w0.heap.size w0 W ∧ Blk W w.heap.size [.int .i64 a0, .int .i64 a1, .string a2, .slice o3 a3.length k3, .slice o4 a4.length k4] ∧ Blk W (w.heap.size + 1) [.int .i64 a0, .int .i64 a1, .string a2, .slice p3 a3.length j3, .slice p4 a4.length j4]) ⟨more' (more' HB.out _) _, (Blk.new _ _ _).alloc _, blk_at _ _ _ (by simp)⟩ ?_
  rintro W1 ⟨b1, x1, y1⟩
  have X1 := Lib.hid x1; have Y1 := Lib.hid y1; clear x1 y1
  refine (C3.out W1 b1).mono ?_
  rintro e W2 ⟨rfl, hb⟩
  have X2 := Lib.hid (X1.out.below hb); have Y2 := Lib.hid (Y1.out.below hb); have b2 := b1.trans (hb.mono b1.size)
  clear X1 Y1 hb b1 C3
  have m0 := X2.out.cell 0 rfl
  have n0 := Y2.out.cell 0 rfl
  have m1 := X2.out.cell 1 rfl
  have n1 := Y2.out.cell 1 rfl
  have m2 := X2.out.cell 2 rfl
  have n2 := Y2.out.cell 2 rfl
  have m3 := X2.out.cell 3 rfl
  have n3 := Y2.out.cell 3 rfl
  have m4 := X2.out.cell 4 rfl
  have n4 := Y2.out.cell 4 rfl
  go_wp2
  go_ret
  exact ⟨rfl, b2⟩
set_option maxRecDepth 100000 in
set_option maxHeartbeats 4000000 in
theorem eqChangeS_at {S S' : Bs} (v u : Value) (d : List ChangeT) (w : World) (hd : SlAt changeE S w d v) (hu : SlAt changeE S' w d u) (hz : d.length + szL changeE d ≤ 1048576) :
    Calls Try.prog 10 #[v, u] w fun e w' => e = .returned (.bool true) ∧ Below w.heap.size w w' := by
  obtain ⟨ao, ca, rfl⟩ := hd.sl
  obtain ⟨bo, cb, rfl⟩ := hu.sl
  have HA := Lib.hid hd; have HB := Lib.hid hu; clear hd hu
  have HL := Lib.hid hz
  have hl : d.length ≤ 1048576 := by omega
  clear hz
  go_enter Try.func10, Try.ntmps10
  go_wp2
  go_loopw [5] (fun i wr => ∃ k : Nat, k ≤ d.length ∧ i = .int .i64 k ∧ Below w.heap.size w wr) (fun i _ => d.length - (intOf i).toNat)
  case atStart => exact ⟨0, Nat.zero_le _, rfl, Below.refl _ _⟩
  case round =>
    obtain ⟨k, hk, rfl, hbel⟩ := hrel
    have hsz := hbel.size
    by_cases hlt : k < d.length
    · obtain ⟨p, off, a0, a1, a2, a3, a4, v3, v4, rfl, _, hp0, hx, hc, s3, s4, _⟩ := change_row (HA.out.frame (Same.of_below' hbel)) hlt
      obtain ⟨q, off', x0, x1, x2, x3, x4, u3, u4, rfl, _, hq0, hx', hd, t3, t4, _⟩ := change_row (HB.out.frame (Same.of_below' hbel)) hlt
      have hxx := hx.symm.trans hx'
      simp only [Prod.mk.injEq] at hxx
      obtain ⟨rfl, rfl, rfl, ⟨rfl, rfl⟩⟩ := hxx
      have HZ : Hid (changeE.sz (a0, a1, a2, (a3, a4)) ≤ 1048576) := Lib.hid (by have h1 := szL_mem changeE (List.getElem_mem hlt); rw [hx] at h1; have := HL.out; omega)
      clear hx hx'
      have C : Hid (∀ W : World, Below wr.heap.size wr W → Calls Try.prog 40 #[.agg #[.int .i64 a0, .int .i64 a1, .string a2, v3, v4], .agg #[.int .i64 a0, .int .i64 a1, .string a2, u3, u4]] W fun e w' => e = .returned (.bool true) ∧ Below wr.heap.size wr w') := Lib.hid (fun W b => eqChange_at wr a0 a1 a2 a3 a4 v3 v4 u3 u4 W b s3 s4 t3 t4 HZ.out)
      clear s3 t3 s4 t4 HZ
      have SK : Hid (∀ W : World, Below wr.heap.size wr W → (Below wr.heap.size wr W ∧ (W.cell? ⟨p, off + k * 5, none⟩ = some (.int .i64 a0) ∧ W.cell? ⟨p, off + k * 5 + 1, none⟩ = some (.int .i64 a1) ∧ W.cell? ⟨p, off + k * 5 + 2, none⟩ = some (.string a2) ∧ W.cell? ⟨p, off + k * 5 + 3, none⟩ = some (v3) ∧ W.cell? ⟨p, off + k * 5 + 4, none⟩ = some (v4)) ∧ (W.cell? ⟨q, off' + k * 5, none⟩ = some (.int .i64 a0) ∧ W.cell? ⟨q, off' + k * 5 + 1, none⟩ = some (.int .i64 a1) ∧ W.cell? ⟨q, off' + k * 5 + 2, none⟩ = some (.string a2) ∧ W.cell? ⟨q, off' + k * 5 + 3, none⟩ = some (u3) ∧ W.cell? ⟨q, off' + k * 5 + 4, none⟩ = some (u4)))) :=
        Lib.hid (fun W h => ⟨h, ⟨(h.cell (p := ⟨p, _, none⟩) hp0).trans hc.1, (h.cell (p := ⟨p, _, none⟩) hp0).trans hc.2.1, (h.cell (p := ⟨p, _, none⟩) hp0).trans hc.2.2.1, (h.cell (p := ⟨p, _, none⟩) hp0).trans hc.2.2.2.1, (h.cell (p := ⟨p, _, none⟩) hp0).trans hc.2.2.2.2⟩, ⟨(h.cell (p := ⟨q, _, none⟩) hq0).trans hd.1, (h.cell (p := ⟨q, _, none⟩) hq0).trans hd.2.1, (h.cell (p := ⟨q, _, none⟩) hq0).trans hd.2.2.1, (h.cell (p := ⟨q, _, none⟩) hq0).trans hd.2.2.2.1, (h.cell (p := ⟨q, _, none⟩) hq0).trans hd.2.2.2.2⟩⟩)
      have hbd : Below wr.heap.size wr wr.drew := (Below.refl _ _).drew
      have hb0 : Below wr.heap.size wr wr := Below.refl _ _
      have HBl := Lib.hid hbel
      clear hc hd hbel
      have g1 : (0 : Int) ≤ (k : Int) := by omega
      have g2 : (k : Int) < (d.length : Int) := by omega
      go_wp2_with fail
      go_region_held3 (fun W => Below wr.heap.size wr W ∧ (W.cell? ⟨p, off + k * 5, none⟩ = some (.int .i64 a0) ∧ W.cell? ⟨p, off + k * 5 + 1, none⟩ = some (.int .i64 a1) ∧ W.cell? ⟨p, off + k * 5 + 2, none⟩ = some (.string a2) ∧ W.cell? ⟨p, off + k * 5 + 3, none⟩ = some (v3) ∧ W.cell? ⟨p, off + k * 5 + 4, none⟩ = some (v4)) ∧ (W.cell? ⟨q, off' + k * 5, none⟩ = some (.int .i64 a0) ∧ W.cell? ⟨q, off' + k * 5 + 1, none⟩ = some (.int .i64 a1) ∧ W.cell? ⟨q, off' + k * 5 + 2, none⟩ = some (.string a2) ∧ W.cell? ⟨q, off' + k * 5 + 3, none⟩ = some (u3) ∧ W.cell? ⟨q, off' + k * 5 + 4, none⟩ = some (u4)))
        (exact SK.out _ (by assumption))
        (first | (go_at_call 40; refine (C.out _ (by assumption)).mono ?_; rintro e w2 ⟨rfl, hb2⟩) | (fail "none"))
      all_goals
        go_wp2
        go_roundw
        case rel => exact ⟨k + 1, by omega, by go_num, HBl.out.trans (hb2.mono HBl.out.size)⟩
        case measure => simp [intOf]; omega
    · go_wp2
      go_ret
      exact ⟨rfl, hbel⟩
end Go.Proofs.Ytmanlnlhpgdbpaa
/- Laws whose result lies in memory: what a walk of them needs. -/
namespace Go.Proofs.Ytmanlnlhpgdbpaa
open Go Go.RowKit

/-- what holds behind a statement, however its order was drawn -/
def OnlyNormal (F : Act → World → Prop) (e : Exit) (a : Act) (w : World) : Prop := match e with | .normal => F a w | _ => False
theorem region_join (F : Act → Act → World → Prop) {P : Program} {c : Code} {Q : Exit → Act → World → Prop} {a : Act} {w : World} (h : c.wp P (OnlyNormal (F a)) a w) (hq : ∀ a' w', F a a' w' → Q .normal a' w') : c.wp P Q a w :=
  Code.wp_mono (fun e a' w' he => by cases e <;> first | exact hq _ _ he | exact he.elim) h
theorem Blk.turn {S : Bs} {w w' : World} {g : Nat} {cs : List Value} (h : Blk w g cs) (ht : Turn S w w') (hg : ¬ S g) : Blk w' g cs := by
  have hl := h.lt
  obtain ⟨T, e⟩ := h
  exact ⟨T, (ht.block g hl hg).trans e⟩
theorem cnt_fit {α : Type} {e : Enc α} (l : List α) (hc : e.c ≤ 50) (h : l.length + szL e l ≤ 1048576) : cntL e l ≤ 52428800 := by
  have h1 := cntL_le e l
  have h2 : e.c * (l.length + szL e l) ≤ 50 * 1048576 := Nat.mul_le_mul hc h
  omega
end Go.Proofs.Ytmanlnlhpgdbpaa
/- An owned entry and an owned answer, taken apart. -/
namespace Go.Proofs.Ytmanlnlhpgdbpaa
open Go Go.RowKit
theorem entry_ownp {S : Bs} {w : World} {a0 : List RdnT} {a1 : List AttrT} {v0 v1 : Value} (h : entryE.Own S w (a0, a1) [v0, v1]) :
    ∃ S0 S1 : Bs, SlOwn rdnE S0 w a0 v0 ∧ (∀ k, S0 k → S k) ∧ SlOwn attrE S1 w a1 v1 ∧ (∀ k, S1 k → S k) ∧ ∀ k, S0 k → ¬ S1 k := by
  obtain ⟨b0, b1, y0, y1, S0, S1, e1, e2, q0, i0, q1, i1, d, _⟩ := entry_own h
  simp only [Prod.mk.injEq] at e1
  obtain ⟨rfl, rfl⟩ := e1
  simp only [List.cons.injEq, and_true] at e2
  obtain ⟨rfl, rfl⟩ := e2
  exact ⟨S0, S1, q0, i0, q1, i1, d⟩
theorem entryOut_ownp {S : Bs} {w : World} {a0 : List RdnT} {a1 : List AttrT} {a2 : Int} {v0 v1 : Value} (h : entryOutE.Own S w ((a0, a1), a2) [v0, v1, .int .i64 a2]) :
    ∃ S0 S1 : Bs, SlOwn rdnE S0 w a0 v0 ∧ (∀ k, S0 k → S k) ∧ SlOwn attrE S1 w a1 v1 ∧ (∀ k, S1 k → S k) ∧ ∀ k, S0 k → ¬ S1 k := by
  obtain ⟨b0, b1, b2, y0, y1, S0, S1, e1, e2, q0, i0, q1, i1, d, _⟩ := entryOut_own h
  simp only [Prod.mk.injEq] at e1
  obtain ⟨⟨rfl, rfl⟩, rfl⟩ := e1
  simp only [List.cons.injEq, and_true] at e2
  obtain ⟨rfl, rfl⟩ := e2
  exact ⟨S0, S1, q0, i0, q1, i1, d⟩
example : ruleE.c ≤ 50 := by decide
example : attrE.c ≤ 50 := by decide
end Go.Proofs.Ytmanlnlhpgdbpaa
/- The helpers of the laws: marks. -/
namespace Go.Proofs.Ytmanlnlhpgdbpaa
open Go.RowKit
attribute [local go_sem ↓] Go.wp_at_zero Go.wp_at_succ

set_option maxRecDepth 100000 in
set_option maxHeartbeats 4000000 in
theorem markRdnS_at {S : Bs} (v : Value) (d : List RdnT) (k : Nat) (w : World) (h : SlOwn rdnE S w d v) (hl : d.length ≤ 1048576) (hz : szL rdnE d ≤ 1048576) (hk1 : 0 < k) (hk2 : k + cntL rdnE d ≤ 1000000000) :
    Calls Try.prog 42 #[v, .int .i64 k] w fun e w' => e = .returned (.int .i64 ((k + cntL rdnE d : Nat) : Int)) ∧ SlOwn rdnE S w' (mkAll rdnE k d) v ∧ Turn S w w' := by
  obtain ⟨ao, cap, rfl⟩ := h.at.sl
  have HS := Lib.hid h; clear h
  have HTx : Hid (∀ (X : World) (m : Nat) (q : Int), q = (m : Int) → 0 < m → m ≤ 1000000000 → Calls Try.prog 41 #[.int .i64 q] X fun e w' => e = .returned (.string (mkT m)) ∧ Below X.heap.size X w') := Lib.hid (fun X m q e h1 h2 => by subst e; exact markText_any m X h1 h2)
  go_enter Try.func42, Try.ntmps42
  go_wp2
  go_loopw [1, 5] (fun t i wr => ∃ j : Nat, j ≤ d.length ∧ i = .int .i64 j ∧ t = .int .i64 ((k + cntL rdnE (d.take j) : Nat) : Int) ∧ SlOwn rdnE S wr (mkTo rdnE k d j) (.slice ao d.length cap) ∧ Turn S w wr) (fun _ i _ => d.length - (intOf i).toNat)
  case atStart => exact ⟨0, Nat.zero_le _, rfl, by simp [cntL], by rw [mkTo_zero]; exact HS.out, Turn.refl _ _⟩
  case round =>
    obtain ⟨j, hj, rfl, rfl, hO, hT⟩ := hrel
    have HO := Lib.hid hO; have HT := Lib.hid hT; clear hO hT
    have hcl := cntL_take_le rdnE d j
    by_cases hlt : j < d.length
    · obtain ⟨g, Sr, cs, rfl, hcap, hSg, hSr, hSub, hR, hrow, hown⟩ := mk_open HO.out hlt
      have HCs := Lib.hid (cntL_take rdnE d j hlt)
      have hcs : cntL rdnE (d.take j) + (rdnE).cnt d[j] ≤ cntL rdnE d := by have := cntL_take_le rdnE d (j + 1); rw [HCs.out] at this; exact this
      obtain ⟨a0, a1, hx, rfl, _⟩ := rdn_own hown
      rw [hx] at hcs
      have hct : (rdnE).cnt (a0, a1) = 1 + (1) := rfl
      rw [hct] at hcs
      have HX := Lib.hid hx
      clear hx hown
      have HR0 := Lib.hid hR; have HW0 := Lib.hid hrow; have HT0 := HT; clear hR hrow
      generalize hc : cntL rdnE (d.take j) = c at *
      have Hc := Lib.hid hc; clear hc
      have g1 : (0 : Int) ≤ (j : Int) := by omega
      have g2 : (j : Int) < (d.length : Int) := by omega
      go_wp2_with fail
      refine (HTx.out wr (k + c) _ (by omega) (by omega) (by omega)).mono ?_
      rintro e X1 ⟨rfl, hb⟩
      have HW1 := Lib.hid (HW0.out.same (hb.block _ HW0.out.lt)); have HR1 := Lib.hid (HR0.out.turn (by rw [mkTo_length _ _ _ hj]; exact hlt) (Turn.of_below hb)); have HT1 := Lib.hid (HT0.out.trans (Turn.of_below hb))
      clear hb HW0 HR0 HT0 
      have HW0 := HW1; have HR0 := HR1; have HT0 := HT1; clear HW1 HR1 HT1
      have c0 := HW0.out.cells 0 (by simp)
      have c0 : X1.cell? ⟨g, j * 2, none⟩ = some (.string a0) := c0
      have f0 : X1.frozen? ⟨g, j * 2, none⟩ = false := HW0.out.soft _
      have c1 := HW0.out.cells 1 (by simp)
      have c1 : X1.cell? ⟨g, j * 2 + 1, none⟩ = some (.string a1) := c1
      have f1 : X1.frozen? ⟨g, j * 2 + 1, none⟩ = false := HW0.out.soft _
      go_wp2_with fail
      refine calls_by (fun W => (∃ cs : List Value, RowAt W g (j * (rdnE).n) cs ∧ cs = [.string (mkT (k + c)), .string a1]) ∧ Rest rdnE S W (mkTo rdnE k d j) g j Sr ∧ Turn S w W) ⟨⟨_, (HW0.out.store (j := 0) (by simp) _), by simp only [List.set_cons_zero, List.set_cons_succ, List.cons.injEq, Value.int.injEq, Value.bool.injEq, true_and, and_true] <;> omega⟩, (HR0.out.store (u := 0) (by decide) _), (HT0.out.trans (Turn.store _ _ _ hSg))⟩ ?_
      try clear c0; try clear f0; try clear c1; try clear f1
      clear HR0 HW0 HT0 
      rintro X2 ⟨⟨cs, hw, rfl⟩, hr, ht⟩
      have HW0 := Lib.hid hw; have HR0 := Lib.hid hr; have HT0 := Lib.hid ht; clear hw hr ht
      refine (HTx.out X2 (k + c + 1) _ (by omega) (by omega) (by omega)).mono ?_
      rintro e X3 ⟨rfl, hb⟩
      have HW1 := Lib.hid (HW0.out.same (hb.block _ HW0.out.lt)); have HR1 := Lib.hid (HR0.out.turn (by rw [mkTo_length _ _ _ hj]; exact hlt) (Turn.of_below hb)); have HT1 := Lib.hid (HT0.out.trans (Turn.of_below hb))
      clear hb HW0 HR0 HT0 
      have HW0 := HW1; have HR0 := HR1; have HT0 := HT1; clear HW1 HR1 HT1
      have c0 := HW0.out.cells 0 (by simp)
      have c0 : X3.cell? ⟨g, j * 2, none⟩ = some (.string (mkT (k + c))) := c0
      have f0 : X3.frozen? ⟨g, j * 2, none⟩ = false := HW0.out.soft _
      have c1 := HW0.out.cells 1 (by simp)
      have c1 : X3.cell? ⟨g, j * 2 + 1, none⟩ = some (.string a1) := c1
      have f1 : X3.frozen? ⟨g, j * 2 + 1, none⟩ = false := HW0.out.soft _
      go_wp2
      go_roundw
      case rel =>
        refine ⟨j + 1, by omega, by go_num, ?_, mk_close (cs := [.string (mkT (k + c)), .string (mkT (k + c + 1))]) (HR0.out.store (u := 1) (by decide) _) hlt hcap (RowAt.cong (HW0.out.store (j := 1) (by simp) _) ?_) ?_, (HT0.out.trans (Turn.store _ _ _ hSg))⟩
        · rw [HCs.out, HX.out, hct]; first | (congr 1; done) | (congr 1; omega)
        · simp only [List.set_cons_zero, List.set_cons_succ, List.cons.injEq, Value.int.injEq, Value.bool.injEq, true_and, and_true]
          first | done | omega | (refine ⟨?_, ?_⟩ <;> first | omega | (rw [Bool.eq_iff_iff]; simp; omega)) | (rw [Bool.eq_iff_iff]; simp; omega)
        · rw [Hc.out, HX.out]
          exact rdn_pack (mkT (k + c)) (mkT (k + c + 1))   trivial
      case measure => simp [intOf]; omega
    · have e : j = d.length := by omega
      subst e
      have HOO : Hid (SlOwn rdnE S wr (mkAll rdnE k d) (.slice ao d.length cap)) := Lib.hid (by have := HO.out; rw [mkTo_all] at this; exact this)
      have hce : cntL rdnE (d.take d.length) = cntL rdnE d := by rw [List.take_length]
      rw [hce]
      go_wp2
      go_ret
      exact ⟨rfl, HOO.out, HT.out⟩
end Go.Proofs.Ytmanlnlhpgdbpaa
/- The helpers of the laws: marks. -/
namespace Go.Proofs.Ytmanlnlhpgdbpaa
open Go.RowKit
attribute [local go_sem ↓] Go.wp_at_zero Go.wp_at_succ

set_option maxRecDepth 100000 in
set_option maxHeartbeats 4000000 in
theorem markStringS_at {S : Bs} (v : Value) (d : List ByteArray) (k : Nat) (w : World) (h : SlOwn strE S w d v) (hl : d.length ≤ 1048576) (hz : szL strE d ≤ 1048576) (hk1 : 0 < k) (hk2 : k + cntL strE d ≤ 1000000000) :
    Calls Try.prog 78 #[v, .int .i64 k] w fun e w' => e = .returned (.int .i64 ((k + cntL strE d : Nat) : Int)) ∧ SlOwn strE S w' (mkAll strE k d) v ∧ Turn S w w' := by
  obtain ⟨ao, cap, rfl⟩ := h.at.sl
  have HS := Lib.hid h; clear h
  have HTx : Hid (∀ (X : World) (m : Nat) (q : Int), q = (m : Int) → 0 < m → m ≤ 1000000000 → Calls Try.prog 41 #[.int .i64 q] X fun e w' => e = .returned (.string (mkT m)) ∧ Below X.heap.size X w') := Lib.hid (fun X m q e h1 h2 => by subst e; exact markText_any m X h1 h2)
  go_enter Try.func78, Try.ntmps78
  go_wp2
  go_loopw [1, 5] (fun t i wr => ∃ j : Nat, j ≤ d.length ∧ i = .int .i64 j ∧ t = .int .i64 ((k + cntL strE (d.take j) : Nat) : Int) ∧ SlOwn strE S wr (mkTo strE k d j) (.slice ao d.length cap) ∧ Turn S w wr) (fun _ i _ => d.length - (intOf i).toNat)
  case atStart => exact ⟨0, Nat.zero_le _, rfl, by simp [cntL], by rw [mkTo_zero]; exact HS.out, Turn.refl _ _⟩
  case round =>
    obtain ⟨j, hj, rfl, rfl, hO, hT⟩ := hrel
    have HO := Lib.hid hO; have HT := Lib.hid hT; clear hO hT
    have hcl := cntL_take_le strE d j
    by_cases hlt : j < d.length
    · obtain ⟨g, Sr, cs, rfl, hcap, hSg, hSr, hSub, hR, hrow, hown⟩ := mk_open HO.out hlt
      have HCs := Lib.hid (cntL_take strE d j hlt)
      have hcs : cntL strE (d.take j) + (strE).cnt d[j] ≤ cntL strE d := by have := cntL_take_le strE d (j + 1); rw [HCs.out] at this; exact this
      obtain ⟨a0, hx, rfl⟩ := txt_own hown
      rw [hx] at hcs
      have hct : (strE).cnt a0 = 1 := rfl
      rw [hct] at hcs
      have HX := Lib.hid hx
      clear hx hown
      have HR0 := Lib.hid hR; have HW0 := Lib.hid hrow; have HT0 := HT; clear hR hrow
      have HJ : Hid (j * (strE).n = j) := Lib.hid (Nat.mul_one j)
      rw [HJ.out] at HW0
      generalize hc : cntL strE (d.take j) = c at *
      have Hc := Lib.hid hc; clear hc
      have g1 : (0 : Int) ≤ (j : Int) := by omega
      have g2 : (j : Int) < (d.length : Int) := by omega
      go_wp2_with fail
      refine (HTx.out wr (k + c) _ (by omega) (by omega) (by omega)).mono ?_
      rintro e X1 ⟨rfl, hb⟩
      have HW1 := Lib.hid (HW0.out.same (hb.block _ HW0.out.lt)); have HR1 := Lib.hid (HR0.out.turn (by rw [mkTo_length _ _ _ hj]; exact hlt) (Turn.of_below hb)); have HT1 := Lib.hid (HT0.out.trans (Turn.of_below hb))
      clear hb HW0 HR0 HT0 
      have HW0 := HW1; have HR0 := HR1; have HT0 := HT1; clear HW1 HR1 HT1
      have c0 := HW0.out.cells 0 (by simp)
      have c0 : X1.cell? ⟨g, j, none⟩ = some (.string a0) := c0
      have f0 : X1.frozen? ⟨g, j, none⟩ = false := HW0.out.soft _
      go_wp2
      go_roundw
      case rel =>
        refine ⟨j + 1, by omega, by go_num, ?_, mk_close (cs := [.string (mkT (k + c))]) (HR0.out.store1 rfl _) hlt hcap (RowAt.cong (by rw [HJ.out]; exact (HW0.out.store (j := 0) (by simp) _)) ?_) ?_, (HT0.out.trans (Turn.store _ _ _ hSg))⟩
        · rw [HCs.out, HX.out, hct]; first | (congr 1; done) | (congr 1; omega)
        · simp only [List.set_cons_zero, List.set_cons_succ, List.cons.injEq, Value.int.injEq, Value.bool.injEq, true_and, and_true]
          first | done | omega | (refine ⟨?_, ?_⟩ <;> first | omega | (rw [Bool.eq_iff_iff]; simp; omega)) | (rw [Bool.eq_iff_iff]; simp; omega)
        · rw [Hc.out, HX.out]
          exact rfl
      case measure => simp [intOf]; omega
    · have e : j = d.length := by omega
      subst e
      have HOO : Hid (SlOwn strE S wr (mkAll strE k d) (.slice ao d.length cap)) := Lib.hid (by have := HO.out; rw [mkTo_all] at this; exact this)
      have hce : cntL strE (d.take d.length) = cntL strE d := by rw [List.take_length]
      rw [hce]
      go_wp2
      go_ret
      exact ⟨rfl, HOO.out, HT.out⟩
end Go.Proofs.Ytmanlnlhpgdbpaa
/- The helpers of the laws: marks. -/
namespace Go.Proofs.Ytmanlnlhpgdbpaa
open Go.RowKit
attribute [local go_sem ↓] Go.wp_at_zero Go.wp_at_succ

set_option maxRecDepth 100000 in
set_option maxHeartbeats 4000000 in
theorem markAttrS_at {S : Bs} (v : Value) (d : List AttrT) (k : Nat) (w : World) (h : SlOwn attrE S w d v) (hl : d.length ≤ 1048576) (hz : szL attrE d ≤ 1048576) (hk1 : 0 < k) (hk2 : k + cntL attrE d ≤ 1000000000) :
    Calls Try.prog 43 #[v, .int .i64 k] w fun e w' => e = .returned (.int .i64 ((k + cntL attrE d : Nat) : Int)) ∧ SlOwn attrE S w' (mkAll attrE k d) v ∧ Turn S w w' := by
  obtain ⟨ao, cap, rfl⟩ := h.at.sl
  have HS := Lib.hid h; clear h
  have HTx : Hid (∀ (X : World) (m : Nat) (q : Int), q = (m : Int) → 0 < m → m ≤ 1000000000 → Calls Try.prog 41 #[.int .i64 q] X fun e w' => e = .returned (.string (mkT m)) ∧ Below X.heap.size X w') := Lib.hid (fun X m q e h1 h2 => by subst e; exact markText_any m X h1 h2)
  have HM1 : Hid (∀ (X : World) (Sx : Bs) (u : Value) (V : List ByteArray) (m : Nat) (q : Int), q = (m : Int) → SlOwn strE Sx X V u → V.length ≤ 1048576 → szL strE V ≤ 1048576 → 0 < m → m + cntL strE V ≤ 1000000000 → Calls Try.prog 78 #[u, .int .i64 q] X fun e w' => e = .returned (.int .i64 ((m + cntL strE V : Nat) : Int)) ∧ SlOwn strE Sx w' (mkAll strE m V) u ∧ Turn Sx X w') := Lib.hid (fun X Sx u V m q e h h0 hz h1 h2 => by subst e; exact markStringS_at u V m X h h0 hz h1 h2)
  go_enter Try.func43, Try.ntmps43
  go_wp2
  go_loopw [1, 5] (fun t i wr => ∃ j : Nat, j ≤ d.length ∧ i = .int .i64 j ∧ t = .int .i64 ((k + cntL attrE (d.take j) : Nat) : Int) ∧ SlOwn attrE S wr (mkTo attrE k d j) (.slice ao d.length cap) ∧ Turn S w wr) (fun _ i _ => d.length - (intOf i).toNat)
  case atStart => exact ⟨0, Nat.zero_le _, rfl, by simp [cntL], by rw [mkTo_zero]; exact HS.out, Turn.refl _ _⟩
  case round =>
    obtain ⟨j, hj, rfl, rfl, hO, hT⟩ := hrel
    have HO := Lib.hid hO; have HT := Lib.hid hT; clear hO hT
    have hcl := cntL_take_le attrE d j
    by_cases hlt : j < d.length
    · obtain ⟨g, Sr, cs, rfl, hcap, hSg, hSr, hSub, hR, hrow, hown⟩ := mk_open HO.out hlt
      have HCs := Lib.hid (cntL_take attrE d j hlt)
      have hcs : cntL attrE (d.take j) + (attrE).cnt d[j] ≤ cntL attrE d := by have := cntL_take_le attrE d (j + 1); rw [HCs.out] at this; exact this
      obtain ⟨a0, a1, u1, S1, hx, rfl, q1, i1, _⟩ := attr_own hown
      rw [hx] at hcs
      have hct : (attrE).cnt (a0, a1) = 1 + (cntL strE a1) := rfl
      rw [hct] at hcs
      have HX := Lib.hid hx
      have hl1 : a1.length ≤ 1048576 := by have := szL_mem attrE (List.getElem_mem hlt); rw [hx] at this; have h2 : (attrE).sz (a0, a1) = a0.size + ((a1.length + szL strE a1)) := rfl; rw [h2] at this; omega
      have hz1 : szL strE a1 ≤ 1048576 := by have := szL_mem attrE (List.getElem_mem hlt); rw [hx] at this; have h2 : (attrE).sz (a0, a1) = a0.size + ((a1.length + szL strE a1)) := rfl; rw [h2] at this; omega
      clear hx hown
      have HR0 := Lib.hid hR; have HW0 := Lib.hid hrow; have HT0 := HT; clear hR hrow
      have HQ1 := Lib.hid q1; clear q1
      generalize hc : cntL attrE (d.take j) = c at *
      have Hc := Lib.hid hc; clear hc
      have g1 : (0 : Int) ≤ (j : Int) := by omega
      have g2 : (j : Int) < (d.length : Int) := by omega
      generalize hm1 : cntL strE a1 = m1 at *
      have Hm1 := Lib.hid hm1; clear hm1
      go_wp2_with fail
      refine (HTx.out wr (k + c) _ (by omega) (by omega) (by omega)).mono ?_
      rintro e X1 ⟨rfl, hb⟩
      have HW1 := Lib.hid (HW0.out.same (hb.block _ HW0.out.lt)); have HR1 := Lib.hid (HR0.out.turn (by rw [mkTo_length _ _ _ hj]; exact hlt) (Turn.of_below hb)); have HT1 := Lib.hid (HT0.out.trans (Turn.of_below hb))
      have HP1 := Lib.hid (HQ1.out.frame (Same.of_below' hb))
      clear hb HW0 HR0 HT0 HQ1
      have HW0 := HW1; have HR0 := HR1; have HT0 := HT1; clear HW1 HR1 HT1
      have HQ1 := HP1; clear HP1
      have c0 := HW0.out.cells 0 (by simp)
      have c0 : X1.cell? ⟨g, j * 2, none⟩ = some (.string a0) := c0
      have f0 : X1.frozen? ⟨g, j * 2, none⟩ = false := HW0.out.soft _
      have c1 := HW0.out.cells 1 (by simp)
      have c1 : X1.cell? ⟨g, j * 2 + 1, none⟩ = some (u1) := c1
      have f1 : X1.frozen? ⟨g, j * 2 + 1, none⟩ = false := HW0.out.soft _
      go_wp2_with fail
      refine calls_by (fun W => (∃ cs : List Value, RowAt W g (j * (attrE).n) cs ∧ cs = [.string (mkT (k + c)), u1]) ∧ Rest attrE S W (mkTo attrE k d j) g j Sr ∧ Turn S w W ∧ SlOwn strE S1 W (a1) u1) ⟨⟨_, (HW0.out.store (j := 0) (by simp) _), by simp only [List.set_cons_zero, List.set_cons_succ, List.cons.injEq, Value.int.injEq, Value.bool.injEq, true_and, and_true] <;> omega⟩, (HR0.out.store (u := 0) (by decide) _), (HT0.out.trans (Turn.store _ _ _ hSg)), (HQ1.out.frame (Same.set _ _ _ (fun z => hSr (i1 g z))))⟩ ?_
      try clear c0; try clear f0; try clear c1; try clear f1
      clear HR0 HW0 HT0 HQ1
      rintro X2 ⟨⟨cs, hw, rfl⟩, hr, ht, q1⟩
      have HW0 := Lib.hid hw; have HR0 := Lib.hid hr; have HT0 := Lib.hid ht; clear hw hr ht
      have HQ1 := Lib.hid q1; clear q1
      refine (HM1.out X2 S1 u1 a1 (k + c + 1) _ (by omega) HQ1.out hl1 hz1 (by omega) (by rw [Hm1.out]; omega)).mono ?_
      rintro e X3 ⟨rfl, q1, ht⟩
      have HW1 := Lib.hid (HW0.out.same (ht.block _ HW0.out.lt (fun z => hSr (i1 g z)))); have HR1 := Lib.hid (HR0.out.turn (by rw [mkTo_length _ _ _ hj]; exact hlt) (ht.wide i1)); have HT1 := Lib.hid (HT0.out.trans (ht.wide (fun z y => hSub z (i1 z y))))
      have HP1 := Lib.hid q1; clear q1
      clear ht HW0 HR0 HT0 HQ1
      have HW0 := HW1; have HR0 := HR1; have HT0 := HT1; clear HW1 HR1 HT1
      have HQ1 := HP1; clear HP1
      rw [Hm1.out]
      have c0 := HW0.out.cells 0 (by simp)
      have c0 : X3.cell? ⟨g, j * 2, none⟩ = some (.string (mkT (k + c))) := c0
      have f0 : X3.frozen? ⟨g, j * 2, none⟩ = false := HW0.out.soft _
      have c1 := HW0.out.cells 1 (by simp)
      have c1 : X3.cell? ⟨g, j * 2 + 1, none⟩ = some (u1) := c1
      have f1 : X3.frozen? ⟨g, j * 2 + 1, none⟩ = false := HW0.out.soft _
      go_wp2
      go_roundw
      case rel =>
        refine ⟨j + 1, by omega, by go_num, ?_, mk_close (cs := [.string (mkT (k + c)), u1]) HR0.out hlt hcap (RowAt.cong HW0.out ?_) ?_, HT0.out⟩
        · rw [HCs.out, HX.out, hct]; first | (congr 1; done) | (congr 1; omega)
        · simp only [List.set_cons_zero, List.set_cons_succ, List.cons.injEq, Value.int.injEq, Value.bool.injEq, true_and, and_true]
          first | done | omega | (refine ⟨?_, ?_⟩ <;> first | omega | (rw [Bool.eq_iff_iff]; simp; omega)) | (rw [Bool.eq_iff_iff]; simp; omega)
        · rw [Hc.out, HX.out]
          have e1 := Hm1.out
          subst e1
          exact attr_pack (mkT (k + c)) (mkAll strE (k + c + 1) a1) _ S1 ⟨HQ1.out, i1, trivial⟩
      case measure => simp [intOf]; omega
    · have e : j = d.length := by omega
      subst e
      have HOO : Hid (SlOwn attrE S wr (mkAll attrE k d) (.slice ao d.length cap)) := Lib.hid (by have := HO.out; rw [mkTo_all] at this; exact this)
      have hce : cntL attrE (d.take d.length) = cntL attrE d := by rw [List.take_length]
      rw [hce]
      go_wp2
      go_ret
      exact ⟨rfl, HOO.out, HT.out⟩
end Go.Proofs.Ytmanlnlhpgdbpaa
/- The helpers of the laws: marks. -/
namespace Go.Proofs.Ytmanlnlhpgdbpaa
open Go.RowKit
attribute [local go_sem ↓] Go.wp_at_zero Go.wp_at_succ

end Go.Proofs.Ytmanlnlhpgdbpaa
/- The helpers of the laws: marks. -/
namespace Go.Proofs.Ytmanlnlhpgdbpaa
open Go.RowKit
attribute [local go_sem ↓] Go.wp_at_zero Go.wp_at_succ

set_option maxRecDepth 100000 in
set_option maxHeartbeats 4000000 in
theorem markChangeS_at {S : Bs} (v : Value) (d : List ChangeT) (k : Nat) (w : World) (h : SlOwn changeE S w d v) (hl : d.length ≤ 1048576) (hz : szL changeE d ≤ 1048576) (hk1 : 0 < k) (hk2 : k + cntL changeE d ≤ 1000000000) :
    Calls Try.prog 11 #[v, .int .i64 k] w fun e w' => e = .returned (.int .i64 ((k + cntL changeE d : Nat) : Int)) ∧ SlOwn changeE S w' (mkAll changeE k d) v ∧ Turn S w w' := by
  obtain ⟨ao, cap, rfl⟩ := h.at.sl
  have HS := Lib.hid h; clear h
  have HTx : Hid (∀ (X : World) (m : Nat) (q : Int), q = (m : Int) → 0 < m → m ≤ 1000000000 → Calls Try.prog 41 #[.int .i64 q] X fun e w' => e = .returned (.string (mkT m)) ∧ Below X.heap.size X w') := Lib.hid (fun X m q e h1 h2 => by subst e; exact markText_any m X h1 h2)
  have HM3 : Hid (∀ (X : World) (Sx : Bs) (u : Value) (V : List RdnT) (m : Nat) (q : Int), q = (m : Int) → SlOwn rdnE Sx X V u → V.length ≤ 1048576 → szL rdnE V ≤ 1048576 → 0 < m → m + cntL rdnE V ≤ 1000000000 → Calls Try.prog 42 #[u, .int .i64 q] X fun e w' => e = .returned (.int .i64 ((m + cntL rdnE V : Nat) : Int)) ∧ SlOwn rdnE Sx w' (mkAll rdnE m V) u ∧ Turn Sx X w') := Lib.hid (fun X Sx u V m q e h h0 hz h1 h2 => by subst e; exact markRdnS_at u V m X h h0 hz h1 h2)
  have HM4 : Hid (∀ (X : World) (Sx : Bs) (u : Value) (V : List AttrT) (m : Nat) (q : Int), q = (m : Int) → SlOwn attrE Sx X V u → V.length ≤ 1048576 → szL attrE V ≤ 1048576 → 0 < m → m + cntL attrE V ≤ 1000000000 → Calls Try.prog 43 #[u, .int .i64 q] X fun e w' => e = .returned (.int .i64 ((m + cntL attrE V : Nat) : Int)) ∧ SlOwn attrE Sx w' (mkAll attrE m V) u ∧ Turn Sx X w') := Lib.hid (fun X Sx u V m q e h h0 hz h1 h2 => by subst e; exact markAttrS_at u V m X h h0 hz h1 h2)
  go_enter Try.func11, Try.ntmps11
  go_wp2
  go_loopw [1, 5] (fun t i wr => ∃ j : Nat, j ≤ d.length ∧ i = .int .i64 j ∧ t = .int .i64 ((k + cntL changeE (d.take j) : Nat) : Int) ∧ SlOwn changeE S wr (mkTo changeE k d j) (.slice ao d.length cap) ∧ Turn S w wr) (fun _ i _ => d.length - (intOf i).toNat)
  case atStart => exact ⟨0, Nat.zero_le _, rfl, by simp [cntL], by rw [mkTo_zero]; exact HS.out, Turn.refl _ _⟩
  case round =>
    obtain ⟨j, hj, rfl, rfl, hO, hT⟩ := hrel
    have HO := Lib.hid hO; have HT := Lib.hid hT; clear hO hT
    have hcl := cntL_take_le changeE d j
    by_cases hlt : j < d.length
    · obtain ⟨g, Sr, cs, rfl, hcap, hSg, hSr, hSub, hR, hrow, hown⟩ := mk_open HO.out hlt
      have HCs := Lib.hid (cntL_take changeE d j hlt)
      have hcs : cntL changeE (d.take j) + (changeE).cnt d[j] ≤ cntL changeE d := by have := cntL_take_le changeE d (j + 1); rw [HCs.out] at this; exact this
      obtain ⟨a0, a1, a2, a3, a4, u3, u4, S3, S4, hx, rfl, q3, i3, q4, i4, d3_4, _⟩ := change_own hown
      rw [hx] at hcs
      have hct : (changeE).cnt (a0, a1, a2, (a3, a4)) = 1 + (1 + (1 + ((cntL rdnE a3 + (cntL attrE a4))))) := rfl
      rw [hct] at hcs
      have HX := Lib.hid hx
      have hl3 : a3.length ≤ 1048576 := by have := szL_mem changeE (List.getElem_mem hlt); rw [hx] at this; have h2 : (changeE).sz (a0, a1, a2, (a3, a4)) = 0 + (0 + (a2.size + (((a3.length + szL rdnE a3) + ((a4.length + szL attrE a4)))))) := rfl; rw [h2] at this; omega
      have hz3 : szL rdnE a3 ≤ 1048576 := by have := szL_mem changeE (List.getElem_mem hlt); rw [hx] at this; have h2 : (changeE).sz (a0, a1, a2, (a3, a4)) = 0 + (0 + (a2.size + (((a3.length + szL rdnE a3) + ((a4.length + szL attrE a4)))))) := rfl; rw [h2] at this; omega
      have hl4 : a4.length ≤ 1048576 := by have := szL_mem changeE (List.getElem_mem hlt); rw [hx] at this; have h2 : (changeE).sz (a0, a1, a2, (a3, a4)) = 0 + (0 + (a2.size + (((a3.length + szL rdnE a3) + ((a4.length + szL attrE a4)))))) := rfl; rw [h2] at this; omega
      have hz4 : szL attrE a4 ≤ 1048576 := by have := szL_mem changeE (List.getElem_mem hlt); rw [hx] at this; have h2 : (changeE).sz (a0, a1, a2, (a3, a4)) = 0 + (0 + (a2.size + (((a3.length + szL rdnE a3) + ((a4.length + szL attrE a4)))))) := rfl; rw [h2] at this; omega
      clear hx hown
      have HR0 := Lib.hid hR; have HW0 := Lib.hid hrow; have HT0 := HT; clear hR hrow
      have HQ3 := Lib.hid q3; clear q3
      have HQ4 := Lib.hid q4; clear q4
      generalize hc : cntL changeE (d.take j) = c at *
      have Hc := Lib.hid hc; clear hc
      have g1 : (0 : Int) ≤ (j : Int) := by omega
      have g2 : (j : Int) < (d.length : Int) := by omega
      generalize hm3 : cntL rdnE a3 = m3 at *
      have Hm3 := Lib.hid hm3; clear hm3
      generalize hm4 : cntL attrE a4 = m4 at *
      have Hm4 := Lib.hid hm4; clear hm4
      have c0 := HW0.out.cells 0 (by simp)
      have c0 : wr.cell? ⟨g, j * 5, none⟩ = some (.int .i64 a0) := c0
      have f0 : wr.frozen? ⟨g, j * 5, none⟩ = false := HW0.out.soft _
      have c1 := HW0.out.cells 1 (by simp)
      have c1 : wr.cell? ⟨g, j * 5 + 1, none⟩ = some (.int .i64 a1) := c1
      have f1 : wr.frozen? ⟨g, j * 5 + 1, none⟩ = false := HW0.out.soft _
      have c2 := HW0.out.cells 2 (by simp)
      have c2 : wr.cell? ⟨g, j * 5 + 2, none⟩ = some (.string a2) := c2
      have f2 : wr.frozen? ⟨g, j * 5 + 2, none⟩ = false := HW0.out.soft _
      have c3 := HW0.out.cells 3 (by simp)
      have c3 : wr.cell? ⟨g, j * 5 + 3, none⟩ = some (u3) := c3
      have f3 : wr.frozen? ⟨g, j * 5 + 3, none⟩ = false := HW0.out.soft _
      have c4 := HW0.out.cells 4 (by simp)
      have c4 : wr.cell? ⟨g, j * 5 + 4, none⟩ = some (u4) := c4
      have f4 : wr.frozen? ⟨g, j * 5 + 4, none⟩ = false := HW0.out.soft _
      go_wp2_with fail
      refine calls_by (fun W => (∃ cs : List Value, RowAt W g (j * (changeE).n) cs ∧ cs = [.int .i64 ((k + c : Nat) : Int), .int .i64 ((k + c + 1 : Nat) : Int), .string a2, u3, u4]) ∧ Rest changeE S W (mkTo changeE k d j) g j Sr ∧ Turn S w W ∧ SlOwn rdnE S3 W (a3) u3 ∧ SlOwn attrE S4 W (a4) u4) ⟨⟨_, ((HW0.out.store (j := 0) (by simp) _).store (j := 1) (by simp) _), by simp only [List.set_cons_zero, List.set_cons_succ, List.cons.injEq, Value.int.injEq, Value.bool.injEq, true_and, and_true] <;> omega⟩, ((HR0.out.store (u := 0) (by decide) _).store (u := 1) (by decide) _), ((HT0.out.trans (Turn.store _ _ _ hSg)).trans (Turn.store _ _ _ hSg)), ((HQ3.out.frame (Same.set _ _ _ (fun z => hSr (i3 g z)))).frame (Same.set _ _ _ (fun z => hSr (i3 g z)))), ((HQ4.out.frame (Same.set _ _ _ (fun z => hSr (i4 g z)))).frame (Same.set _ _ _ (fun z => hSr (i4 g z))))⟩ ?_
      try clear c0; try clear f0; try clear c1; try clear f1; try clear c2; try clear f2; try clear c3; try clear f3; try clear c4; try clear f4
      clear HR0 HW0 HT0 HQ3 HQ4
      rintro X1 ⟨⟨cs, hw, rfl⟩, hr, ht, q3, q4⟩
      have HW0 := Lib.hid hw; have HR0 := Lib.hid hr; have HT0 := Lib.hid ht; clear hw hr ht
      have HQ3 := Lib.hid q3; clear q3
      have HQ4 := Lib.hid q4; clear q4
      refine (HTx.out X1 (k + c + 1 + 1) _ (by omega) (by omega) (by omega)).mono ?_
      rintro e X2 ⟨rfl, hb⟩
      have HW1 := Lib.hid (HW0.out.same (hb.block _ HW0.out.lt)); have HR1 := Lib.hid (HR0.out.turn (by rw [mkTo_length _ _ _ hj]; exact hlt) (Turn.of_below hb)); have HT1 := Lib.hid (HT0.out.trans (Turn.of_below hb))
      have HP3 := Lib.hid (HQ3.out.frame (Same.of_below' hb))
      have HP4 := Lib.hid (HQ4.out.frame (Same.of_below' hb))
      clear hb HW0 HR0 HT0 HQ3 HQ4
      have HW0 := HW1; have HR0 := HR1; have HT0 := HT1; clear HW1 HR1 HT1
      have HQ3 := HP3; clear HP3
      have HQ4 := HP4; clear HP4
      have c0 := HW0.out.cells 0 (by simp)
      have c0 : X2.cell? ⟨g, j * 5, none⟩ = some (.int .i64 ((k + c : Nat) : Int)) := c0
      have f0 : X2.frozen? ⟨g, j * 5, none⟩ = false := HW0.out.soft _
      have c1 := HW0.out.cells 1 (by simp)
      have c1 : X2.cell? ⟨g, j * 5 + 1, none⟩ = some (.int .i64 ((k + c + 1 : Nat) : Int)) := c1
      have f1 : X2.frozen? ⟨g, j * 5 + 1, none⟩ = false := HW0.out.soft _
      have c2 := HW0.out.cells 2 (by simp)
      have c2 : X2.cell? ⟨g, j * 5 + 2, none⟩ = some (.string a2) := c2
      have f2 : X2.frozen? ⟨g, j * 5 + 2, none⟩ = false := HW0.out.soft _
      have c3 := HW0.out.cells 3 (by simp)
      have c3 : X2.cell? ⟨g, j * 5 + 3, none⟩ = some (u3) := c3
      have f3 : X2.frozen? ⟨g, j * 5 + 3, none⟩ = false := HW0.out.soft _
      have c4 := HW0.out.cells 4 (by simp)
      have c4 : X2.cell? ⟨g, j * 5 + 4, none⟩ = some (u4) := c4
      have f4 : X2.frozen? ⟨g, j * 5 + 4, none⟩ = false := HW0.out.soft _
      go_wp2_with fail
      refine calls_by (fun W => (∃ cs : List Value, RowAt W g (j * (changeE).n) cs ∧ cs = [.int .i64 ((k + c : Nat) : Int), .int .i64 ((k + c + 1 : Nat) : Int), .string (mkT (k + c + 1 + 1)), u3, u4]) ∧ Rest changeE S W (mkTo changeE k d j) g j Sr ∧ Turn S w W ∧ SlOwn rdnE S3 W (a3) u3 ∧ SlOwn attrE S4 W (a4) u4) ⟨⟨_, (HW0.out.store (j := 2) (by simp) _), by simp only [List.set_cons_zero, List.set_cons_succ, List.cons.injEq, Value.int.injEq, Value.bool.injEq, true_and, and_true] <;> omega⟩, (HR0.out.store (u := 2) (by decide) _), (HT0.out.trans (Turn.store _ _ _ hSg)), (HQ3.out.frame (Same.set _ _ _ (fun z => hSr (i3 g z)))), (HQ4.out.frame (Same.set _ _ _ (fun z => hSr (i4 g z))))⟩ ?_
      try clear c0; try clear f0; try clear c1; try clear f1; try clear c2; try clear f2; try clear c3; try clear f3; try clear c4; try clear f4
      clear HR0 HW0 HT0 HQ3 HQ4
      rintro X3 ⟨⟨cs, hw, rfl⟩, hr, ht, q3, q4⟩
      have HW0 := Lib.hid hw; have HR0 := Lib.hid hr; have HT0 := Lib.hid ht; clear hw hr ht
      have HQ3 := Lib.hid q3; clear q3
      have HQ4 := Lib.hid q4; clear q4
      refine (HM3.out X3 S3 u3 a3 (k + c + 1 + 1 + 1) _ (by omega) HQ3.out hl3 hz3 (by omega) (by rw [Hm3.out]; omega)).mono ?_
      rintro e X4 ⟨rfl, q3, ht⟩
      have HW1 := Lib.hid (HW0.out.same (ht.block _ HW0.out.lt (fun z => hSr (i3 g z)))); have HR1 := Lib.hid (HR0.out.turn (by rw [mkTo_length _ _ _ hj]; exact hlt) (ht.wide i3)); have HT1 := Lib.hid (HT0.out.trans (ht.wide (fun z y => hSub z (i3 z y))))
      have HP3 := Lib.hid q3; clear q3
      have HP4 := Lib.hid (HQ4.out.frame (ht.same (fun z y1 y2 => d3_4 z y2 y1)))
      clear ht HW0 HR0 HT0 HQ3 HQ4
      have HW0 := HW1; have HR0 := HR1; have HT0 := HT1; clear HW1 HR1 HT1
      have HQ3 := HP3; clear HP3
      have HQ4 := HP4; clear HP4
      rw [Hm3.out]
      have c0 := HW0.out.cells 0 (by simp)
      have c0 : X4.cell? ⟨g, j * 5, none⟩ = some (.int .i64 ((k + c : Nat) : Int)) := c0
      have f0 : X4.frozen? ⟨g, j * 5, none⟩ = false := HW0.out.soft _
      have c1 := HW0.out.cells 1 (by simp)
      have c1 : X4.cell? ⟨g, j * 5 + 1, none⟩ = some (.int .i64 ((k + c + 1 : Nat) : Int)) := c1
      have f1 : X4.frozen? ⟨g, j * 5 + 1, none⟩ = false := HW0.out.soft _
      have c2 := HW0.out.cells 2 (by simp)
      have c2 : X4.cell? ⟨g, j * 5 + 2, none⟩ = some (.string (mkT (k + c + 1 + 1))) := c2
      have f2 : X4.frozen? ⟨g, j * 5 + 2, none⟩ = false := HW0.out.soft _
      have c3 := HW0.out.cells 3 (by simp)
      have c3 : X4.cell? ⟨g, j * 5 + 3, none⟩ = some (u3) := c3
      have f3 : X4.frozen? ⟨g, j * 5 + 3, none⟩ = false := HW0.out.soft _
      have c4 := HW0.out.cells 4 (by simp)
      have c4 : X4.cell? ⟨g, j * 5 + 4, none⟩ = some (u4) := c4
      have f4 : X4.frozen? ⟨g, j * 5 + 4, none⟩ = false := HW0.out.soft _
      go_wp2_with fail
      refine (HM4.out X4 S4 u4 a4 (k + c + 1 + 1 + 1 + m3) _ (by omega) HQ4.out hl4 hz4 (by omega) (by rw [Hm4.out]; omega)).mono ?_
      rintro e X5 ⟨rfl, q4, ht⟩
      have HW1 := Lib.hid (HW0.out.same (ht.block _ HW0.out.lt (fun z => hSr (i4 g z)))); have HR1 := Lib.hid (HR0.out.turn (by rw [mkTo_length _ _ _ hj]; exact hlt) (ht.wide i4)); have HT1 := Lib.hid (HT0.out.trans (ht.wide (fun z y => hSub z (i4 z y))))
      have HP3 := Lib.hid (HQ3.out.frame (ht.same (d3_4)))
      have HP4 := Lib.hid q4; clear q4
      clear ht HW0 HR0 HT0 HQ3 HQ4
      have HW0 := HW1; have HR0 := HR1; have HT0 := HT1; clear HW1 HR1 HT1
      have HQ3 := HP3; clear HP3
      have HQ4 := HP4; clear HP4
      rw [Hm4.out]
      try clear c0; try clear f0; try clear c1; try clear f1; try clear c2; try clear f2; try clear c3; try clear f3; try clear c4; try clear f4
      have c0 := HW0.out.cells 0 (by simp)
      have c0 : X5.cell? ⟨g, j * 5, none⟩ = some (.int .i64 ((k + c : Nat) : Int)) := c0
      have f0 : X5.frozen? ⟨g, j * 5, none⟩ = false := HW0.out.soft _
      have c1 := HW0.out.cells 1 (by simp)
      have c1 : X5.cell? ⟨g, j * 5 + 1, none⟩ = some (.int .i64 ((k + c + 1 : Nat) : Int)) := c1
      have f1 : X5.frozen? ⟨g, j * 5 + 1, none⟩ = false := HW0.out.soft _
      have c2 := HW0.out.cells 2 (by simp)
      have c2 : X5.cell? ⟨g, j * 5 + 2, none⟩ = some (.string (mkT (k + c + 1 + 1))) := c2
      have f2 : X5.frozen? ⟨g, j * 5 + 2, none⟩ = false := HW0.out.soft _
      have c3 := HW0.out.cells 3 (by simp)
      have c3 : X5.cell? ⟨g, j * 5 + 3, none⟩ = some (u3) := c3
      have f3 : X5.frozen? ⟨g, j * 5 + 3, none⟩ = false := HW0.out.soft _
      have c4 := HW0.out.cells 4 (by simp)
      have c4 : X5.cell? ⟨g, j * 5 + 4, none⟩ = some (u4) := c4
      have f4 : X5.frozen? ⟨g, j * 5 + 4, none⟩ = false := HW0.out.soft _
      go_wp2
      go_roundw
      case rel =>
        refine ⟨j + 1, by omega, by go_num, ?_, mk_close (cs := [.int .i64 ((k + c : Nat) : Int), .int .i64 ((k + c + 1 : Nat) : Int), .string (mkT (k + c + 1 + 1)), u3, u4]) HR0.out hlt hcap (RowAt.cong HW0.out ?_) ?_, HT0.out⟩
        · rw [HCs.out, HX.out, hct]; first | (congr 1; done) | (congr 1; omega)
        · simp only [List.set_cons_zero, List.set_cons_succ, List.cons.injEq, Value.int.injEq, Value.bool.injEq, true_and, and_true]
          first | done | omega | (refine ⟨?_, ?_⟩ <;> first | omega | (rw [Bool.eq_iff_iff]; simp; omega)) | (rw [Bool.eq_iff_iff]; simp; omega)
        · rw [Hc.out, HX.out]
          have e3 := Hm3.out
          have e4 := Hm4.out
          subst e3 e4
          exact change_pack ((k + c : Nat) : Int) ((k + c + 1 : Nat) : Int) (mkT (k + c + 1 + 1)) (mkAll rdnE (k + c + 1 + 1 + 1) a3) (mkAll attrE (k + c + 1 + 1 + 1 + (cntL rdnE a3)) a4) _ _ S3 S4 ⟨HQ3.out, i3, HQ4.out, i4, d3_4, trivial⟩
      case measure => simp [intOf]; omega
    · have e : j = d.length := by omega
      subst e
      have HOO : Hid (SlOwn changeE S wr (mkAll changeE k d) (.slice ao d.length cap)) := Lib.hid (by have := HO.out; rw [mkTo_all] at this; exact this)
      have hce : cntL changeE (d.take d.length) = cntL changeE d := by rw [List.take_length]
      rw [hce]
      go_wp2
      go_ret
      exact ⟨rfl, HOO.out, HT.out⟩
end Go.Proofs.Ytmanlnlhpgdbpaa
/- The helpers of the laws: marks asked. -/
namespace Go.Proofs.Ytmanlnlhpgdbpaa
open Go.RowKit
attribute [local go_sem ↓] Go.wp_at_zero Go.wp_at_succ

set_option maxRecDepth 100000 in
set_option maxHeartbeats 4000000 in
theorem heldRdnS_at {S : Bs} (v : Value) (d : List RdnT) (k : Nat) (w : World) (h : SlAt rdnE S w (mkAll rdnE k d) v) (hl : d.length ≤ 1048576) (hz : szL rdnE d ≤ 1048576) (hk1 : 0 < k) (hk2 : k + cntL rdnE d ≤ 1000000000) :
    Calls Try.prog 44 #[v, .int .i64 k] w fun e w' => e = .returned (.int .i64 ((k + cntL rdnE d : Nat) : Int)) ∧ Below w.heap.size w w' := by
  obtain ⟨ao, cap, rfl⟩ := h.sl
  have hml := mkAll_length rdnE k d
  rw [hml]
  rw [hml] at h
  have HS := Lib.hid h; clear h
  have HTx : Hid (∀ (X : World) (m : Nat) (q : Int), q = (m : Int) → 0 < m → m ≤ 1000000000 → Calls Try.prog 41 #[.int .i64 q] X fun e w' => e = .returned (.string (mkT m)) ∧ Below X.heap.size X w') := Lib.hid (fun X m q e h1 h2 => by subst e; exact markText_any m X h1 h2)
  go_enter Try.func44, Try.ntmps44
  go_wp2
  go_loopw [1, 5] (fun t i wr => ∃ j : Nat, j ≤ d.length ∧ i = .int .i64 j ∧ t = .int .i64 ((k + cntL rdnE (d.take j) : Nat) : Int) ∧ Below w.heap.size w wr) (fun _ i _ => d.length - (intOf i).toNat)
  case atStart => exact ⟨0, Nat.zero_le _, rfl, by simp [cntL], Below.refl _ _⟩
  case round =>
    obtain ⟨j, hj, rfl, rfl, hbel⟩ := hrel
    have hcl := cntL_take_le rdnE d j
    by_cases hlt : j < d.length
    · obtain ⟨b, off, x0, x1, rfl, _, hb0, hx, hc, _⟩ := rdn_row (HS.out.frame (Same.of_below' hbel)) (k := j) (by rw [hml]; exact hlt)
      have HCs := Lib.hid (cntL_take rdnE d j hlt)
      have hcs : cntL rdnE (d.take j) + (rdnE).cnt d[j] ≤ cntL rdnE d := by have := cntL_take_le rdnE d (j + 1); rw [HCs.out] at this; exact this
      rw [mkAll_get rdnE k d j hlt] at hx
      rcases hd : d[j] with ⟨a0, a1⟩
      rw [hd] at hx hcs
      have HX := Lib.hid hd
      have hct : (rdnE).cnt (a0, a1) = 1 + (1) := rfl
      rw [hct] at hcs
      have hm : ((x0, x1) : RdnT) = (mkT (k + cntL rdnE (d.take j)), mkT (k + cntL rdnE (d.take j) + 1)) := hx.symm.trans rfl
      simp only [Prod.mk.injEq] at hm
      obtain ⟨rfl, rfl⟩ := hm
      clear hx hd
      generalize hc' : cntL rdnE (d.take j) = c at *
      clear hc'
      have SK : Hid (∀ W : World, Below wr.heap.size wr W → (Below wr.heap.size wr W ∧ W.cell? ⟨b, off + j * 2, none⟩ = some (.string (mkT (k + c))) ∧ W.cell? ⟨b, off + j * 2 + 1, none⟩ = some (.string (mkT (k + c + 1))))) := Lib.hid (fun W h => ⟨h, (h.cell (p := ⟨b, _, none⟩) hb0).trans hc.1, (h.cell (p := ⟨b, _, none⟩) hb0).trans hc.2⟩)
      have hw0 : Below wr.heap.size wr wr := Below.refl _ _
      have hbd : Below wr.heap.size wr wr.drew := hw0.drew
      have HBl := Lib.hid hbel
      clear hbel hc
      have g1 : (0 : Int) ≤ (j : Int) := by omega
      have g2 : (j : Int) < (d.length : Int) := by omega
      have HT1 : Hid (∀ (X : World) (q : Int), q = ((k + c : Nat) : Int) → Below wr.heap.size wr X → Calls Try.prog 41 #[.int .i64 q] X fun e w' => e = .returned (.string (mkT (k + c))) ∧ Below wr.heap.size wr w') := Lib.hid (fun X q e h => (HTx.out X (k + c) q e (by omega) (by omega)).mono fun _ _ z => ⟨z.1, h.trans (z.2.mono h.size)⟩)
      have hkk : ((mkT (k + c)).toList == (mkT (k + c)).toList) = true := by simp
      generalize mkT (k + c) = A0 at *
      go_wp2_with fail
      go_region_held3 (fun W => Below wr.heap.size wr W ∧ W.cell? ⟨b, off + j * 2, none⟩ = some (.string A0) ∧ W.cell? ⟨b, off + j * 2 + 1, none⟩ = some (.string (mkT (k + c + 1))))
        (exact SK.out _ (by assumption))
        (first | (go_at_call 41; refine (HT1.out _ _ (by omega) (by assumption)).mono ?_; rintro e X1 ⟨rfl, hx1⟩) | (fail "none"))
      clear HT1 hkk
      have HT1 : Hid (∀ (X : World) (q : Int), q = ((k + c + 1 : Nat) : Int) → Below wr.heap.size wr X → Calls Try.prog 41 #[.int .i64 q] X fun e w' => e = .returned (.string (mkT (k + c + 1))) ∧ Below wr.heap.size wr w') := Lib.hid (fun X q e h => (HTx.out X (k + c + 1) q e (by omega) (by omega)).mono fun _ _ z => ⟨z.1, h.trans (z.2.mono h.size)⟩)
      have hkk : ((mkT (k + c + 1)).toList == (mkT (k + c + 1)).toList) = true := by simp
      generalize mkT (k + c + 1) = A1 at *
      have hdd2 := hx1.drew
      go_wp2_with fail
      go_region_held3 (fun W => Below wr.heap.size wr W ∧ W.cell? ⟨b, off + j * 2, none⟩ = some (.string A0) ∧ W.cell? ⟨b, off + j * 2 + 1, none⟩ = some (.string A1))
        (exact SK.out _ (by assumption))
        (first | (go_at_call 41; refine (HT1.out _ _ (by omega) (by assumption)).mono ?_; rintro e X2 ⟨rfl, hx2⟩) | (fail "none"))
      clear HT1 hkk
      go_wp2
      go_roundw
      case rel => exact ⟨j + 1, by omega, by go_num, by rw [HCs.out, HX.out, hct]; first | (congr 1; done) | (congr 1; omega), HBl.out.trans (hx2.mono HBl.out.size)⟩
      case measure => simp [intOf]; omega
    · have e : j = d.length := by omega
      subst e
      have hce : cntL rdnE (d.take d.length) = cntL rdnE d := by rw [List.take_length]
      rw [hce]
      go_wp2
      go_ret
      exact ⟨rfl, hbel⟩
end Go.Proofs.Ytmanlnlhpgdbpaa
/- The helpers of the laws: marks asked. -/
namespace Go.Proofs.Ytmanlnlhpgdbpaa
open Go.RowKit
attribute [local go_sem ↓] Go.wp_at_zero Go.wp_at_succ

set_option maxRecDepth 100000 in
set_option maxHeartbeats 4000000 in
theorem heldStringS_at {S : Bs} (v : Value) (d : List ByteArray) (k : Nat) (w : World) (h : SlAt strE S w (mkAll strE k d) v) (hl : d.length ≤ 1048576) (hz : szL strE d ≤ 1048576) (hk1 : 0 < k) (hk2 : k + cntL strE d ≤ 1000000000) :
    Calls Try.prog 79 #[v, .int .i64 k] w fun e w' => e = .returned (.int .i64 ((k + cntL strE d : Nat) : Int)) ∧ Below w.heap.size w w' := by
  obtain ⟨ao, cap, rfl⟩ := h.sl
  have hml := mkAll_length strE k d
  rw [hml]
  rw [hml] at h
  have HS := Lib.hid h; clear h
  have HTx : Hid (∀ (X : World) (m : Nat) (q : Int), q = (m : Int) → 0 < m → m ≤ 1000000000 → Calls Try.prog 41 #[.int .i64 q] X fun e w' => e = .returned (.string (mkT m)) ∧ Below X.heap.size X w') := Lib.hid (fun X m q e h1 h2 => by subst e; exact markText_any m X h1 h2)
  go_enter Try.func79, Try.ntmps79
  go_wp2
  go_loopw [1, 5] (fun t i wr => ∃ j : Nat, j ≤ d.length ∧ i = .int .i64 j ∧ t = .int .i64 ((k + cntL strE (d.take j) : Nat) : Int) ∧ Below w.heap.size w wr) (fun _ i _ => d.length - (intOf i).toNat)
  case atStart => exact ⟨0, Nat.zero_le _, rfl, by simp [cntL], Below.refl _ _⟩
  case round =>
    obtain ⟨j, hj, rfl, rfl, hbel⟩ := hrel
    have hcl := cntL_take_le strE d j
    by_cases hlt : j < d.length
    · obtain ⟨b, off, x0, rfl, _, hb0, hx, hc0⟩ := str_row (HS.out.frame (Same.of_below' hbel)) (k := j) (by rw [hml]; exact hlt)
      have HCs := Lib.hid (cntL_take strE d j hlt)
      have hcs : cntL strE (d.take j) + (strE).cnt d[j] ≤ cntL strE d := by have := cntL_take_le strE d (j + 1); rw [HCs.out] at this; exact this
      rw [mkAll_get strE k d j hlt] at hx
      have hx : mkT (k + cntL strE (d.take j)) = x0 := hx
      subst hx
      have hct : strE.cnt d[j] = 1 := rfl
      rw [hct] at hcs
      generalize d[j] = a0 at *
      generalize hc' : cntL strE (d.take j) = c at *
      clear hc'
      have SK : Hid (∀ W : World, Below wr.heap.size wr W → (Below wr.heap.size wr W ∧ W.cell? ⟨b, off + j, none⟩ = some (.string (mkT (k + c))))) := Lib.hid (fun W h => ⟨h, (h.cell (p := ⟨b, _, none⟩) hb0).trans hc0⟩)
      have hw0 : Below wr.heap.size wr wr := Below.refl _ _
      have hbd : Below wr.heap.size wr wr.drew := hw0.drew
      have HBl := Lib.hid hbel
      clear hbel hc0
      have g1 : (0 : Int) ≤ (j : Int) := by omega
      have g2 : (j : Int) < (d.length : Int) := by omega
      have HT1 : Hid (∀ (X : World) (q : Int), q = ((k + c : Nat) : Int) → Below wr.heap.size wr X → Calls Try.prog 41 #[.int .i64 q] X fun e w' => e = .returned (.string (mkT (k + c))) ∧ Below wr.heap.size wr w') := Lib.hid (fun X q e h => (HTx.out X (k + c) q e (by omega) (by omega)).mono fun _ _ z => ⟨z.1, h.trans (z.2.mono h.size)⟩)
      have hkk : ((mkT (k + c)).toList == (mkT (k + c)).toList) = true := by simp
      generalize mkT (k + c) = A0 at *
      go_wp2_with fail
      go_region_held3 (fun W => Below wr.heap.size wr W ∧ W.cell? ⟨b, off + j, none⟩ = some (.string A0))
        (exact SK.out _ (by assumption))
        (first | (go_at_call 41; refine (HT1.out _ _ (by omega) (by assumption)).mono ?_; rintro e X1 ⟨rfl, hx1⟩) | (fail "none"))
      clear HT1 hkk
      go_wp2
      go_roundw
      case rel => exact ⟨j + 1, by omega, by go_num, by rw [HCs.out, hct]; first | (congr 1; done) | (congr 1; omega), HBl.out.trans (hx1.mono HBl.out.size)⟩
      case measure => simp [intOf]; omega
    · have e : j = d.length := by omega
      subst e
      have hce : cntL strE (d.take d.length) = cntL strE d := by rw [List.take_length]
      rw [hce]
      go_wp2
      go_ret
      exact ⟨rfl, hbel⟩
end Go.Proofs.Ytmanlnlhpgdbpaa
