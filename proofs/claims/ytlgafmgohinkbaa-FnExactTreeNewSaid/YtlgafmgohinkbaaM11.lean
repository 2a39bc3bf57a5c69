/- Merged texts: MemT, szString, szClass, eqString, eqClass, MemE, markString, markClass, markRdn, markAttr, markEntry, markTreeV, heldString, heldClass. -/
import Derived.Test.YtlgafmgohinkbaaM2
import Derived.Test.YtlgafmgohinkbaaM10
import Derived.Test.YtlgafmgohinkbaaM3
import Derived.SliceStrings
import Derived.Test.YtlgafmgohinkbaaM4
/- An owned tree, taken apart. -/
namespace Go.Proofs.Ytlgafmgohinkbaa
open Go Go.RowKit
theorem tree_ownp {S : Bs} {w : World} {a0 : List ClassT} {a1 : List EntryT} {v0 v1 : Value} (h : treeE.Own S w (a0, a1) [v0, v1]) :
    ∃ S0 S1 : Bs, SlOwn classE S0 w a0 v0 ∧ (∀ k, S0 k → S k) ∧ SlOwn entryE S1 w a1 v1 ∧ (∀ k, S1 k → S k) ∧ ∀ k, S0 k → ¬ S1 k := by
  obtain ⟨b0, b1, y0, y1, S0, S1, e1, e2, q0, i0, q1, i1, d, _⟩ := tree_own h
  simp only [Prod.mk.injEq] at e1
  obtain ⟨rfl, rfl⟩ := e1
  simp only [List.cons.injEq, and_true] at e2
  obtain ⟨rfl, rfl⟩ := e2
  exact ⟨S0, S1, q0, i0, q1, i1, d⟩
end Go.Proofs.Ytlgafmgohinkbaa
/- The helpers of the laws: sizes. -/
namespace Go.Proofs.Ytlgafmgohinkbaa
open Go.RowKit
attribute [local go_sem ↓] Go.wp_at_zero Go.wp_at_succ

set_option maxRecDepth 100000 in
set_option maxHeartbeats 4000000 in
theorem szStringS_at {S : Bs} (v : Value) (d : List ByteArray) (left : Int) (w : World) (hd : SlAt strE S w d v) (hf : (slE strE).long d) (h0 : 0 ≤ left) (h1 : left ≤ 1048576) :
    Calls Try.prog 81 #[v, .int .i64 left] w fun e w' => e = .returned (.int .i64 (leftR (d.length + szL strE d) left)) ∧ Below w.heap.size w w' := by
  obtain ⟨ao, cap, rfl⟩ := hd.sl
  have hl : d.length ≤ 9223372036854775807 := hf.1
  have HD := Lib.hid hd; have HF := Lib.hid hf; clear hd hf
  by_cases g : (d.length : Int) ≤ left
  · have c1 : ¬ left - (d.length : Int) < 0 := by omega
    go_enter Try.func81, Try.ntmps81
    go_wp2
    go_loopw [1, 5] (fun t i wr => ∃ k : Nat, k ≤ d.length ∧ i = .int .i64 k ∧ ((d.length + szL strE (d.take k) : Nat) : Int) ≤ left ∧ t = .int .i64 (left - (d.length + szL strE (d.take k) : Nat)) ∧ Below w.heap.size w wr) (fun _ i _ => d.length - (intOf i).toNat)
    case atStart => exact ⟨0, Nat.zero_le _, rfl, by simp [szL]; omega, by simp [szL], Below.refl _ _⟩
    case round =>
      clear c1
      obtain ⟨k, hk, rfl, hle, rfl, hbel⟩ := hrel
      have hsz := hbel.size
      by_cases hlt : k < d.length
      · obtain ⟨b, off, A, rfl, _, hb0, hx, hc1⟩ := str_row (HD.out.frame (Same.of_below' hbel)) hlt
        have hz : A.size ≤ maxLen := by have := HF.out.2 _ (List.getElem_mem hlt); rw [hx] at this; exact this
        unfold maxLen at hz
        have HT : Hid (szL strE (d.take (k + 1)) = szL strE (d.take k) + A.size) := Lib.hid (by rw [szL_take strE d k hlt, hx]; rfl)
        have HTl := Lib.hid (szL_le strE d (k + 1))
        clear hx
        generalize hq : d.length + szL strE (d.take k) = q at *
        have Hq := Lib.hid hq; clear hq
        by_cases hfit : ((A.size : Nat) : Int) ≤ left - (q : Int)
        · have c2 : ¬ left - (q : Int) - (A.size : Int) < 0 := by omega
          go_wp2
          go_roundw
          case rel =>
            have e := HT.out
            have e3 := Hq.out
            exact ⟨k + 1, by omega, by go_num, by omega, by rw [e]; congr 1; omega, hbel⟩
          case measure => simp [intOf]; omega
        · have c2 : left - (q : Int) - (A.size : Int) < 0 := by omega
          have HR : Hid (leftR (d.length + szL strE d) left = -1) := Lib.hid (leftR_neg (by
            have := HT.out; have := HTl.out; have := Hq.out; omega))
          go_wp2
          go_ret
          exact ⟨ret_int (by rw [HR.out]), hbel⟩
      · have HR : Hid (leftR (d.length + szL strE d) left = left - (d.length + szL strE (d.take k) : Nat)) := Lib.hid (by
          rw [List.take_of_length_le (by omega)] at hle ⊢
          exact leftR_pos hle)
        go_wp2
        go_ret
        exact ⟨ret_int (by rw [HR.out]), hbel⟩
  · have HR : Hid (leftR (d.length + szL strE d) left = -1) := Lib.hid (leftR_neg (by omega))
    have c1 : left - (d.length : Int) < 0 := by omega
    go_enter Try.func81, Try.ntmps81
    go_wp2
    go_ret
    exact ⟨ret_int (by rw [HR.out]), Below.refl _ _⟩
end Go.Proofs.Ytlgafmgohinkbaa
/- The helpers of the laws: sizes. -/
namespace Go.Proofs.Ytlgafmgohinkbaa
open Go.RowKit
attribute [local go_sem ↓] Go.wp_at_zero Go.wp_at_succ

set_option maxRecDepth 100000 in
set_option maxHeartbeats 4000000 in
theorem szClass_at {S : Bs} (a0 : ByteArray) (a1 : (List ByteArray)) (a2 : (List ByteArray)) (a3 : (List ByteArray)) (v1 v2 v3 : Value) (left : Int) (w : World) (h1 : SlAt strE S w a1 v1) (h2 : SlAt strE S w a2 v2) (h3 : SlAt strE S w a3 v3) (hl : classE.long (a0, a1, a2, a3)) (g0 : 0 ≤ left) (g1 : left ≤ 1048576) :
    Calls Try.prog 98 #[.agg #[.string a0, v1, v2, v3], .int .i64 left] w fun e w' => e = .returned (.int .i64 (leftR (classE.sz (a0, a1, a2, a3)) left)) ∧ Below w.heap.size w w' := by
  have HE : Hid (classE.sz (a0, a1, a2, a3) = a0.size + ((a1.length + szL strE a1) + ((a2.length + szL strE a2) + ((a3.length + szL strE a3))))) := Lib.hid rfl
  have z0 : a0.size ≤ 9223372036854775807 := by have := hl.1; simp only [strE, maxLen] at this; omega
  have C1 : Hid (∀ (l : Int) (W : World), Below w.heap.size w W → 0 ≤ l → l ≤ 1048576 → Calls Try.prog 81 #[v1, .int .i64 l] W fun e w' => e = .returned (.int .i64 (leftR (a1.length + szL strE a1) l)) ∧ Below W.heap.size W w') := Lib.hid (fun l W b p q => szStringS_at v1 a1 l W (h1.frame (Same.of_below' b)) hl.2.1 p q)
  have C2 : Hid (∀ (l : Int) (W : World), Below w.heap.size w W → 0 ≤ l → l ≤ 1048576 → Calls Try.prog 81 #[v2, .int .i64 l] W fun e w' => e = .returned (.int .i64 (leftR (a2.length + szL strE a2) l)) ∧ Below W.heap.size W w') := Lib.hid (fun l W b p q => szStringS_at v2 a2 l W (h2.frame (Same.of_below' b)) hl.2.2.1 p q)
  have C3 : Hid (∀ (l : Int) (W : World), Below w.heap.size w W → 0 ≤ l → l ≤ 1048576 → Calls Try.prog 81 #[v3, .int .i64 l] W fun e w' => e = .returned (.int .i64 (leftR (a3.length + szL strE a3) l)) ∧ Below W.heap.size W w') := Lib.hid (fun l W b p q => szStringS_at v3 a3 l W (h3.frame (Same.of_below' b)) hl.2.2.2 p q)
  obtain ⟨o1, k1, rfl⟩ := h1.sl
  obtain ⟨o2, k2, rfl⟩ := h2.sl
  obtain ⟨o3, k3, rfl⟩ := h3.sl
  clear h1 h2 h3
  clear hl
  generalize classE.sz (a0, a1, a2, a3) = z at *
  generalize (a1.length + szL strE a1) = r1 at *
  generalize (a2.length + szL strE a2) = r2 at *
  generalize (a3.length + szL strE a3) = r3 at *
  generalize a1.length = m1 at *
  generalize a2.length = m2 at *
  generalize a3.length = m3 at *
  by_cases g2 : (a0.size : Int) ≤ left
  · have c0 : ¬ left - (a0.size : Int) < 0 := by omega
    go_enter Try.func98, Try.ntmps98
    go_wp2_with fail
    refine calls_by (fun W => Below w.heap.size w W ∧ Blk W w.heap.size [.string a0, .slice o1 m1 k1, .slice o2 m2 k2, .slice o3 m3 k3]) ⟨more' (Below.refl _ _) _, Blk.new _ _ _⟩ ?_
    rintro w1 ⟨b1, t1⟩
    have T1 := Lib.hid t1; clear t1
    refine (C1.out _ w1 b1 (by omega) (by omega)).mono ?_
    rintro e w2 ⟨rfl, hb⟩
    have T2 := Lib.hid (T1.out.below hb); have b2 := b1.trans (hb.mono b1.size)
    clear hb b1 T1 C1
    by_cases g3 : (r1 : Int) ≤ left - (a0.size : Int)
    · rw [leftR_pos g3]
      have c1 : ¬ left - (a0.size : Int) - (r1 : Int) < 0 := by omega
      have q0 := T2.out.cell 0 rfl
      have q1 := T2.out.cell 1 rfl
      have q2 := T2.out.cell 2 rfl
      have q3 := T2.out.cell 3 rfl
      go_wp2_with fail
      refine (C2.out _ w2 b2 (by omega) (by omega)).mono ?_
      rintro e w3 ⟨rfl, hb⟩
      have T3 := Lib.hid (T2.out.below hb); have b3 := b2.trans (hb.mono b2.size)
      clear hb b2 T2 C2 q0 q1 q2 q3
      by_cases g4 : (r2 : Int) ≤ left - (a0.size : Int) - (r1 : Int)
      · rw [leftR_pos g4]
        have c2 : ¬ left - (a0.size : Int) - (r1 : Int) - (r2 : Int) < 0 := by omega
        have q0 := T3.out.cell 0 rfl
        have q1 := T3.out.cell 1 rfl
        have q2 := T3.out.cell 2 rfl
        have q3 := T3.out.cell 3 rfl
        go_wp2_with fail
        refine (C3.out _ w3 b3 (by omega) (by omega)).mono ?_
        rintro e w4 ⟨rfl, hb⟩
        have T4 := Lib.hid (T3.out.below hb); have b4 := b3.trans (hb.mono b3.size)
        clear hb b3 T3 C3 q0 q1 q2 q3
        by_cases g5 : (r3 : Int) ≤ left - (a0.size : Int) - (r1 : Int) - (r2 : Int)
        · rw [leftR_pos g5]
          have c3 : ¬ left - (a0.size : Int) - (r1 : Int) - (r2 : Int) - (r3 : Int) < 0 := by omega
          have q0 := T4.out.cell 0 rfl
          have q1 := T4.out.cell 1 rfl
          have q2 := T4.out.cell 2 rfl
          have q3 := T4.out.cell 3 rfl
          have HR : Hid (leftR z left = left - (a0.size : Int) - (r1 : Int) - (r2 : Int) - (r3 : Int)) := Lib.hid (by rw [leftR_pos (by rw [HE.out]; omega), HE.out]; omega)
          go_wp2
          go_ret
          exact ⟨ret_int (by rw [HR.out]), b4⟩
        · rw [leftR_neg g5]
          have HR : Hid (leftR z left = -1) := Lib.hid (leftR_neg (by rw [HE.out]; omega))
          go_wp2
          go_ret
          exact ⟨ret_int (by rw [HR.out]), b4⟩
      · rw [leftR_neg g4]
        have HR : Hid (leftR z left = -1) := Lib.hid (leftR_neg (by rw [HE.out]; omega))
        go_wp2
        go_ret
        exact ⟨ret_int (by rw [HR.out]), b3⟩
    · rw [leftR_neg g3]
      have HR : Hid (leftR z left = -1) := Lib.hid (leftR_neg (by rw [HE.out]; omega))
      go_wp2
      go_ret
      exact ⟨ret_int (by rw [HR.out]), b2⟩
  · have c0 : left - (a0.size : Int) < 0 := by omega
    have HR : Hid (leftR z left = -1) := Lib.hid (leftR_neg (by rw [HE.out]; omega))
    go_enter Try.func98, Try.ntmps98
    go_wp2
    go_ret
    exact ⟨ret_int (by rw [HR.out]), (Below.refl _ _).alloc (Nat.le_refl _) _⟩
set_option maxRecDepth 100000 in
set_option maxHeartbeats 4000000 in
theorem szClassS_at {S : Bs} (v : Value) (d : List ClassT) (left : Int) (w : World) (hd : SlAt classE S w d v) (hf : (slE classE).long d) (h0 : 0 ≤ left) (h1 : left ≤ 1048576) :
    Calls Try.prog 34 #[v, .int .i64 left] w fun e w' => e = .returned (.int .i64 (leftR (d.length + szL classE d) left)) ∧ Below w.heap.size w w' := by
  obtain ⟨ao, cap, rfl⟩ := hd.sl
  have hl : d.length ≤ 9223372036854775807 := hf.1
  have HD := Lib.hid hd; have HF := Lib.hid hf; clear hd hf
  by_cases g : (d.length : Int) ≤ left
  · have c1 : ¬ left - (d.length : Int) < 0 := by omega
    go_enter Try.func34, Try.ntmps34
    go_wp2
    go_loopw [1, 5] (fun t i wr => ∃ k : Nat, k ≤ d.length ∧ i = .int .i64 k ∧ ((d.length + szL classE (d.take k) : Nat) : Int) ≤ left ∧ t = .int .i64 (left - (d.length + szL classE (d.take k) : Nat)) ∧ Below w.heap.size w wr) (fun _ i _ => d.length - (intOf i).toNat)
    case atStart => exact ⟨0, Nat.zero_le _, rfl, by simp [szL]; omega, by simp [szL], Below.refl _ _⟩
    case round =>
      clear c1
      obtain ⟨k, hk, rfl, hle, rfl, hbel⟩ := hrel
      have hsz := hbel.size
      by_cases hlt : k < d.length
      · obtain ⟨b, off, a0, a1, a2, a3, v1, v2, v3, rfl, _, hb0, hx, ⟨hc0, hc1, hc2, hc3⟩, s1, s2, s3, _⟩ := class_row (HD.out.frame (Same.of_below' hbel)) hlt
        have HV1 := Lib.hid s1; clear s1
        have HV2 := Lib.hid s2; clear s2
        have HV3 := Lib.hid s3; clear s3
        have HZ : Hid (classE.long (a0, a1, a2, a3)) := Lib.hid (by have := HF.out.2 _ (List.getElem_mem hlt); rw [hx] at this; exact this)
        have HT : Hid (szL classE (d.take (k + 1)) = szL classE (d.take k) + classE.sz (a0, a1, a2, a3)) := Lib.hid (by rw [szL_take classE d k hlt, hx])
        have HTl := Lib.hid (szL_le classE d (k + 1))
        clear hx
        generalize hq : d.length + szL classE (d.take k) = q at *
        have Hq := Lib.hid hq; clear hq
        have HC := Lib.hid (szClass_at a0 a1 a2 a3 v1 v2 v3 (left - (q : Int)) wr HV1.out HV2.out HV3.out HZ.out (by omega) (by omega))
        generalize classE.sz (a0, a1, a2, a3) = r at *
        go_wp2_with fail
        refine HC.out.mono ?_
        rintro e w2 ⟨rfl, hb2⟩
        have B2 := Lib.hid (hbel.trans (hb2.mono hsz)); clear hb2
        by_cases hfit : (r : Int) ≤ left - (q : Int)
        · rw [leftR_pos hfit]
          have c2 : ¬ left - (q : Int) - (r : Int) < 0 := by omega
          go_wp2
          go_roundw
          case rel =>
            have e := HT.out
            have e3 := Hq.out
            exact ⟨k + 1, by omega, by go_num, by omega, by rw [e]; congr 1; omega, B2.out⟩
          case measure => simp [intOf]; omega
        · rw [leftR_neg hfit]
          have HR : Hid (leftR (d.length + szL classE d) left = -1) := Lib.hid (leftR_neg (by
            have := HT.out; have := HTl.out; have := Hq.out; omega))
          go_wp2
          go_ret
          exact ⟨ret_int (by rw [HR.out]), B2.out⟩
      · have HR : Hid (leftR (d.length + szL classE d) left = left - (d.length + szL classE (d.take k) : Nat)) := Lib.hid (by
          rw [List.take_of_length_le (by omega)] at hle ⊢
          exact leftR_pos hle)
        go_wp2
        go_ret
        exact ⟨ret_int (by rw [HR.out]), hbel⟩
  · have HR : Hid (leftR (d.length + szL classE d) left = -1) := Lib.hid (leftR_neg (by omega))
    have c1 : left - (d.length : Int) < 0 := by omega
    go_enter Try.func34, Try.ntmps34
    go_wp2
    go_ret
    exact ⟨ret_int (by rw [HR.out]), Below.refl _ _⟩
end Go.Proofs.Ytlgafmgohinkbaa
/- The helpers of the laws: comparisons. -/
namespace Go.Proofs.Ytlgafmgohinkbaa
open Go.RowKit
attribute [local go_sem ↓] Go.wp_at_zero Go.wp_at_succ

set_option maxRecDepth 100000 in
set_option maxHeartbeats 4000000 in
theorem eqStringS_at {S S' : Bs} (v u : Value) (d : List ByteArray) (w : World) (hd : SlAt strE S w d v) (hu : SlAt strE S' w d u) (hz : d.length + szL strE d ≤ 1048576) :
    Calls Try.prog 18 #[v, u] w fun e w' => e = .returned (.bool true) ∧ Below w.heap.size w w' := by
  obtain ⟨ao, ca, rfl⟩ := hd.sl
  obtain ⟨bo, cb, rfl⟩ := hu.sl
  have HA := Lib.hid hd; have HB := Lib.hid hu; clear hd hu
  have HL := Lib.hid hz
  have hl : d.length ≤ 1048576 := by omega
  clear hz
  go_enter Try.func18, Try.ntmps18
  go_wp2
  go_loopw [5] (fun i wr => ∃ k : Nat, k ≤ d.length ∧ i = .int .i64 k ∧ Below w.heap.size w wr) (fun i _ => d.length - (intOf i).toNat)
  case atStart => exact ⟨0, Nat.zero_le _, rfl, Below.refl _ _⟩
  case round =>
    obtain ⟨k, hk, rfl, hbel⟩ := hrel
    have hsz := hbel.size
    by_cases hlt : k < d.length
    · obtain ⟨p, off, A, rfl, _, hp0, hx, c1⟩ := str_row (HA.out.frame (Same.of_below' hbel)) hlt
      obtain ⟨q, off', A', rfl, _, hq0, hx', c2⟩ := str_row (HB.out.frame (Same.of_below' hbel)) hlt
      obtain rfl : A = A' := hx.symm.trans hx'
      clear hx hx'
      have hkk : (A.toList == A.toList) = true := by simp
      have g1 : (0 : Int) ≤ (k : Int) := by omega
      have g2 : (k : Int) < (d.length : Int) := by omega
      have hbd := hbel.drew
      have c1' : wr.drew.cell? ⟨p, off + k, none⟩ = some (.string A) := c1
      have c2' : wr.drew.cell? ⟨q, off' + k, none⟩ = some (.string A) := c2
      go_wp2_with fail
      go_region_held3 (fun W => Below w.heap.size w W ∧ W.cell? ⟨p, off + k, none⟩ = some (.string A) ∧ W.cell? ⟨q, off' + k, none⟩ = some (.string A))
        (first | exact ⟨hbel, c1, c2⟩ | exact ⟨hbd, c1', c2'⟩)
        (fail "none")
      all_goals
        go_wp2
        go_roundw
        case rel => exact ⟨k + 1, by omega, by go_num, by first | exact hbel | exact hbd⟩
        case measure => simp [intOf]; omega
    · go_wp2
      go_ret
      exact ⟨rfl, hbel⟩
end Go.Proofs.Ytlgafmgohinkbaa
/- The helpers of the laws: comparisons. -/
namespace Go.Proofs.Ytlgafmgohinkbaa
open Go.RowKit
attribute [local go_sem ↓] Go.wp_at_zero Go.wp_at_succ

set_option maxRecDepth 100000 in
set_option maxHeartbeats 4000000 in
theorem eqClass_at {S S' : Bs} (w0 : World) (a0 : ByteArray) (a1 : (List ByteArray)) (a2 : (List ByteArray)) (a3 : (List ByteArray)) (v1 v2 v3 : Value) (u1 u2 u3 : Value) (w : World) (hB : Below w0.heap.size w0 w) (h1 : SlAt strE S w0 a1 v1) (h2 : SlAt strE S w0 a2 v2) (h3 : SlAt strE S w0 a3 v3) (g1 : SlAt strE S' w0 a1 u1) (g2 : SlAt strE S' w0 a2 u2) (g3 : SlAt strE S' w0 a3 u3) (hz : classE.sz (a0, a1, a2, a3) ≤ 1048576) :
    Calls Try.prog 45 #[.agg #[.string a0, v1, v2, v3], .agg #[.string a0, u1, u2, u3]] w fun e w' => e = .returned (.bool true) ∧ Below w0.heap.size w0 w' := by
  have HE : classE.sz (a0, a1, a2, a3) = a0.size + ((a1.length + szL strE a1) + ((a2.length + szL strE a2) + ((a3.length + szL strE a3)))) := rfl
  rw [HE] at hz
  have hk0 : (a0.toList == a0.toList) = true := by simp
  have C1 : Hid (∀ W : World, Below w0.heap.size w0 W → Calls Try.prog 18 #[v1, u1] W fun e w' => e = .returned (.bool true) ∧ Below W.heap.size W w') := Lib.hid (fun W b => eqStringS_at v1 u1 a1 W (h1.frame (Same.of_below' b)) (g1.frame (Same.of_below' b)) (by omega))
  have C2 : Hid (∀ W : World, Below w0.heap.size w0 W → Calls Try.prog 18 #[v2, u2] W fun e w' => e = .returned (.bool true) ∧ Below W.heap.size W w') := Lib.hid (fun W b => eqStringS_at v2 u2 a2 W (h2.frame (Same.of_below' b)) (g2.frame (Same.of_below' b)) (by omega))
  have C3 : Hid (∀ W : World, Below w0.heap.size w0 W → Calls Try.prog 18 #[v3, u3] W fun e w' => e = .returned (.bool true) ∧ Below W.heap.size W w') := Lib.hid (fun W b => eqStringS_at v3 u3 a3 W (h3.frame (Same.of_below' b)) (g3.frame (Same.of_below' b)) (by omega))
  obtain ⟨o1, k1, rfl⟩ := h1.sl
  obtain ⟨p1, j1, rfl⟩ := g1.sl
  obtain ⟨o2, k2, rfl⟩ := h2.sl
  obtain ⟨p2, j2, rfl⟩ := g2.sl
  obtain ⟨o3, k3, rfl⟩ := h3.sl
  obtain ⟨p3, j3, rfl⟩ := g3.sl
  clear hz HE h1 g1 h2 g2 h3 g3
  have HB := Lib.hid hB
  clear hB
  go_enter Try.func45, Try.ntmps45
  go_wp2_with fail
  refine calls_by (fun W => Below w0.heap.size w0 W ∧ Blk W w.heap.size [.string a0, .slice o1 a1.length k1, .slice o2 a2.length k2, .slice o3 a3.length k3] ∧ Blk W (w.heap.size + 1) [.string a0, .slice p1 a1.length j1, .slice p2 a2.length j2, .slice p3 a3.length j3]) ⟨more' (more' HB.out _) _, (Blk.new _ _ _).alloc _, blk_at _ _ _ (by simp)⟩ ?_
  rintro W1 ⟨b1, x1, y1⟩
  have X1 := Lib.hid x1; have Y1 := Lib.hid y1; clear x1 y1
  refine (C1.out W1 b1).mono ?_
  rintro e W2 ⟨rfl, hb⟩
  have X2 := Lib.hid (X1.out.below hb); have Y2 := Lib.hid (Y1.out.below hb); have b2 := b1.trans (hb.mono b1.size)
  clear X1 Y1 hb b1 C1
  have m0 := X2.out.cell 0 rfl
  have n0 := Y2.out.cell 0 rfl
  have m1 := X2.out.cell 1 rfl
  have n1 := Y2.out.cell 1 rfl
  have m2 := X2.out.cell 2 rfl
  have n2 := Y2.out.cell 2 rfl
  have m3 := X2.out.cell 3 rfl
  have n3 := Y2.out.cell 3 rfl
  go_wp2_with fail
  refine (C2.out W2 b2).mono ?_
  rintro e W3 ⟨rfl, hb⟩
  have X3 := Lib.hid (X2.out.below hb); have Y3 := Lib.hid (Y2.out.below hb); have b3 := b2.trans (hb.mono b2.size)
  clear X2 Y2 hb b2 C2 m0 n0 m1 n1 m2 n2 m3 n3
  have m0 := X3.out.cell 0 rfl
  have n0 := Y3.out.cell 0 rfl
  have m1 := X3.out.cell 1 rfl
  have n1 := Y3.out.cell 1 rfl
  have m2 := X3.out.cell 2 rfl
  have n2 := Y3.out.cell 2 rfl
  have m3 := X3.out.cell 3 rfl
  have n3 := Y3.out.cell 3 rfl
  go_wp2_with fail
  refine (C3.out W3 b3).mono ?_
  rintro e W4 ⟨rfl, hb⟩
  have X4 := Lib.hid (X3.out.below hb); have Y4 := Lib.hid (Y3.out.below hb); have b4 := b3.trans (hb.mono b3.size)
  clear X3 Y3 hb b3 C3 m0 n0 m1 n1 m2 n2 m3 n3
  have m0 := X4.out.cell 0 rfl
  have n0 := Y4.out.cell 0 rfl
  have m1 := X4.out.cell 1 rfl
  have n1 := Y4.out.cell 1 rfl
  have m2 := X4.out.cell 2 rfl
  have n2 := Y4.out.cell 2 rfl
  have m3 := X4.out.cell 3 rfl
  have n3 := Y4.out.cell 3 rfl
  go_wp2
  go_ret
  exact ⟨rfl, b4⟩
set_option maxRecDepth 100000 in
set_option maxHeartbeats 4000000 in
theorem eqClassS_at {S S' : Bs} (v u : Value) (d : List ClassT) (w : World) (hd : SlAt classE S w d v) (hu : SlAt classE S' w d u) (hz : d.length + szL classE d ≤ 1048576) :
    Calls Try.prog 39 #[v, u] w fun e w' => e = .returned (.bool true) ∧ Below w.heap.size w w' := by
  obtain ⟨ao, ca, rfl⟩ := hd.sl
  obtain ⟨bo, cb, rfl⟩ := hu.sl
  have HA := Lib.hid hd; have HB := Lib.hid hu; clear hd hu
  have HL := Lib.hid hz
  have hl : d.length ≤ 1048576 := by omega
  clear hz
  go_enter Try.func39, Try.ntmps39
  go_wp2
  go_loopw [5] (fun i wr => ∃ k : Nat, k ≤ d.length ∧ i = .int .i64 k ∧ Below w.heap.size w wr) (fun i _ => d.length - (intOf i).toNat)
  case atStart => exact ⟨0, Nat.zero_le _, rfl, Below.refl _ _⟩
  case round =>
    obtain ⟨k, hk, rfl, hbel⟩ := hrel
    have hsz := hbel.size
    by_cases hlt : k < d.length
    · obtain ⟨p, off, a0, a1, a2, a3, v1, v2, v3, rfl, _, hp0, hx, hc, s1, s2, s3, _⟩ := class_row (HA.out.frame (Same.of_below' hbel)) hlt
      obtain ⟨q, off', x0, x1, x2, x3, u1, u2, u3, rfl, _, hq0, hx', hd, t1, t2, t3, _⟩ := class_row (HB.out.frame (Same.of_below' hbel)) hlt
      have hxx := hx.symm.trans hx'
      simp only [Prod.mk.injEq] at hxx
      obtain ⟨rfl, rfl, rfl, rfl⟩ := hxx
      have HZ : Hid (classE.sz (a0, a1, a2, a3) ≤ 1048576) := Lib.hid (by have h1 := szL_mem classE (List.getElem_mem hlt); rw [hx] at h1; have := HL.out; omega)
      clear hx hx'
      have C : Hid (∀ W : World, Below wr.heap.size wr W → Calls Try.prog 45 #[.agg #[.string a0, v1, v2, v3], .agg #[.string a0, u1, u2, u3]] W fun e w' => e = .returned (.bool true) ∧ Below wr.heap.size wr w') := Lib.hid (fun W b => eqClass_at wr a0 a1 a2 a3 v1 v2 v3 u1 u2 u3 W b s1 s2 s3 t1 t2 t3 HZ.out)
      clear s1 t1 s2 t2 s3 t3 HZ
      have SK : Hid (∀ W : World, Below wr.heap.size wr W → (Below wr.heap.size wr W ∧ (W.cell? ⟨p, off + k * 4, none⟩ = some (.string a0) ∧ W.cell? ⟨p, off + k * 4 + 1, none⟩ = some (v1) ∧ W.cell? ⟨p, off + k * 4 + 2, none⟩ = some (v2) ∧ W.cell? ⟨p, off + k * 4 + 3, none⟩ = some (v3)) ∧ (W.cell? ⟨q, off' + k * 4, none⟩ = some (.string a0) ∧ W.cell? ⟨q, off' + k * 4 + 1, none⟩ = some (u1) ∧ W.cell? ⟨q, off' + k * 4 + 2, none⟩ = some (u2) ∧ W.cell? ⟨q, off' + k * 4 + 3, none⟩ = some (u3)))) :=
        Lib.hid (fun W h => ⟨h, ⟨(h.cell (p := ⟨p, _, none⟩) hp0).trans hc.1, (h.cell (p := ⟨p, _, none⟩) hp0).trans hc.2.1, (h.cell (p := ⟨p, _, none⟩) hp0).trans hc.2.2.1, (h.cell (p := ⟨p, _, none⟩) hp0).trans hc.2.2.2⟩, ⟨(h.cell (p := ⟨q, _, none⟩) hq0).trans hd.1, (h.cell (p := ⟨q, _, none⟩) hq0).trans hd.2.1, (h.cell (p := ⟨q, _, none⟩) hq0).trans hd.2.2.1, (h.cell (p := ⟨q, _, none⟩) hq0).trans hd.2.2.2⟩⟩)
      have hbd : Below wr.heap.size wr wr.drew := (Below.refl _ _).drew
      have hb0 : Below wr.heap.size wr wr := Below.refl _ _
      have HBl := Lib.hid hbel
      clear hc hd hbel
      have g1 : (0 : Int) ≤ (k : Int) := by omega
      have g2 : (k : Int) < (d.length : Int) := by omega
      go_wp2_with fail
      go_region_held3 (fun W => Below wr.heap.size wr W ∧ (W.cell? ⟨p, off + k * 4, none⟩ = some (.string a0) ∧ W.cell? ⟨p, off + k * 4 + 1, none⟩ = some (v1) ∧ W.cell? ⟨p, off + k * 4 + 2, none⟩ = some (v2) ∧ W.cell? ⟨p, off + k * 4 + 3, none⟩ = some (v3)) ∧ (W.cell? ⟨q, off' + k * 4, none⟩ = some (.string a0) ∧ W.cell? ⟨q, off' + k * 4 + 1, none⟩ = some (u1) ∧ W.cell? ⟨q, off' + k * 4 + 2, none⟩ = some (u2) ∧ W.cell? ⟨q, off' + k * 4 + 3, none⟩ = some (u3)))
        (exact SK.out _ (by assumption))
        (first | (go_at_call 45; refine (C.out _ (by assumption)).mono ?_; rintro e w2 ⟨rfl, hb2⟩) | (fail "none"))
      all_goals
        go_wp2
        go_roundw
        case rel => exact ⟨k + 1, by omega, by go_num, HBl.out.trans (hb2.mono HBl.out.size)⟩
        case measure => simp [intOf]; omega
    · go_wp2
      go_ret
      exact ⟨rfl, hbel⟩
end Go.Proofs.Ytlgafmgohinkbaa
/- An owned entry and an owned answer, taken apart. -/
namespace Go.Proofs.Ytlgafmgohinkbaa
open Go Go.RowKit
theorem entry_ownp {S : Bs} {w : World} {a0 : List RdnT} {a1 : List AttrT} {v0 v1 : Value} (h : entryE.Own S w (a0, a1) [v0, v1]) :
    ∃ S0 S1 : Bs, SlOwn rdnE S0 w a0 v0 ∧ (∀ k, S0 k → S k) ∧ SlOwn attrE S1 w a1 v1 ∧ (∀ k, S1 k → S k) ∧ ∀ k, S0 k → ¬ S1 k := by
  obtain ⟨b0, b1, y0, y1, S0, S1, e1, e2, q0, i0, q1, i1, d, _⟩ := entry_own h
  simp only [Prod.mk.injEq] at e1
  obtain ⟨rfl, rfl⟩ := e1
  simp only [List.cons.injEq, and_true] at e2
  obtain ⟨rfl, rfl⟩ := e2
  exact ⟨S0, S1, q0, i0, q1, i1, d⟩
theorem entryOut_ownp {S : Bs} {w : World} {a0 : List RdnT} {a1 : List AttrT} {a2 : Int} {v0 v1 : Value} (h : entryOutE.Own S w ((a0, a1), a2) [v0, v1, .int .i64 a2]) :
    ∃ S0 S1 : Bs, SlOwn rdnE S0 w a0 v0 ∧ (∀ k, S0 k → S k) ∧ SlOwn attrE S1 w a1 v1 ∧ (∀ k, S1 k → S k) ∧ ∀ k, S0 k → ¬ S1 k := by
  obtain ⟨b0, b1, b2, y0, y1, S0, S1, e1, e2, q0, i0, q1, i1, d, _⟩ := entryOut_own h
  simp only [Prod.mk.injEq] at e1
  obtain ⟨⟨rfl, rfl⟩, rfl⟩ := e1
  simp only [List.cons.injEq, and_true] at e2
  obtain ⟨rfl, rfl⟩ := e2
  exact ⟨S0, S1, q0, i0, q1, i1, d⟩
example : ruleE.c ≤ 50 := by decide
example : attrE.c ≤ 50 := by decide
end Go.Proofs.Ytlgafmgohinkbaa
/- The helpers of the laws: marks. -/
namespace Go.Proofs.Ytlgafmgohinkbaa
open Go.RowKit
attribute [local go_sem ↓] Go.wp_at_zero Go.wp_at_succ

set_option maxRecDepth 100000 in
set_option maxHeartbeats 4000000 in
theorem markStringS_at {S : Bs} (v : Value) (d : List ByteArray) (k : Nat) (w : World) (h : SlOwn strE S w d v) (hl : d.length ≤ 1048576) (hz : szL strE d ≤ 1048576) (hk1 : 0 < k) (hk2 : k + cntL strE d ≤ 1000000000) :
    Calls Try.prog 20 #[v, .int .i64 k] w fun e w' => e = .returned (.int .i64 ((k + cntL strE d : Nat) : Int)) ∧ SlOwn strE S w' (mkAll strE k d) v ∧ Turn S w w' := by
  obtain ⟨ao, cap, rfl⟩ := h.at.sl
  have HS := Lib.hid h; clear h
  have HTx : Hid (∀ (X : World) (m : Nat) (q : Int), q = (m : Int) → 0 < m → m ≤ 1000000000 → Calls Try.prog 80 #[.int .i64 q] X fun e w' => e = .returned (.string (mkT m)) ∧ Below X.heap.size X w') := Lib.hid (fun X m q e h1 h2 => by subst e; exact markText_any m X h1 h2)
  go_enter Try.func20, Try.ntmps20
  go_wp2
  go_loopw [1, 5] (fun t i wr => ∃ j : Nat, j ≤ d.length ∧ i = .int .i64 j ∧ t = .int .i64 ((k + cntL strE (d.take j) : Nat) : Int) ∧ SlOwn strE S wr (mkTo strE k d j) (.slice ao d.length cap) ∧ Turn S w wr) (fun _ i _ => d.length - (intOf i).toNat)
  case atStart => exact ⟨0, Nat.zero_le _, rfl, by simp [cntL], by rw [mkTo_zero]; exact HS.out, Turn.refl _ _⟩
  case round =>
    obtain ⟨j, hj, rfl, rfl, hO, hT⟩ := hrel
    have HO := Lib.hid hO; have HT := Lib.hid hT; clear hO hT
    have hcl := cntL_take_le strE d j
    by_cases hlt : j < d.length
    · obtain ⟨g, Sr, cs, rfl, hcap, hSg, hSr, hSub, hR, hrow, hown⟩ := mk_open HO.out hlt
      have HCs := Lib.hid (cntL_take strE d j hlt)
      have hcs : cntL strE (d.take j) + (strE).cnt d[j] ≤ cntL strE d := by have := cntL_take_le strE d (j + 1); rw [HCs.out] at this; exact this
      obtain ⟨a0, hx, rfl⟩ := txt_own hown
      rw [hx] at hcs
      have hct : (strE).cnt a0 = 1 := rfl
      rw [hct] at hcs
      have HX := Lib.hid hx
      clear hx hown
      have HR0 := Lib.hid hR; have HW0 := Lib.hid hrow; have HT0 := HT; clear hR hrow
      have HJ : Hid (j * (strE).n = j) := Lib.hid (Nat.mul_one j)
      rw [HJ.out] at HW0
      generalize hc : cntL strE (d.take j) = c at *
      have Hc := Lib.hid hc; clear hc
      have g1 : (0 : Int) ≤ (j : Int) := by omega
      have g2 : (j : Int) < (d.length : Int) := by omega
      go_wp2_with fail
      refine (HTx.out wr (k + c) _ (by omega) (by omega) (by omega)).mono ?_
      rintro e X1 ⟨rfl, hb⟩
      have HW1 := Lib.hid (HW0.out.same (hb.block _ HW0.out.lt)); have HR1 := Lib.hid (HR0.out.turn (by rw [mkTo_length _ _ _ hj]; exact hlt) (Turn.of_below hb)); have HT1 := Lib.hid (HT0.out.trans (Turn.of_below hb))
      clear hb HW0 HR0 HT0 
      have HW0 := HW1; have HR0 := HR1; have HT0 := HT1; clear HW1 HR1 HT1
      have c0 := HW0.out.cells 0 (by simp)
      have c0 : X1.cell? ⟨g, j, none⟩ = some (.string a0) := c0
      have f0 : X1.frozen? ⟨g, j, none⟩ = false := HW0.out.soft _
      go_wp2
      go_roundw
      case rel =>
        refine ⟨j + 1, by omega, by go_num, ?_, mk_close (cs := [.string (mkT (k + c))]) (HR0.out.store1 rfl _) hlt hcap (RowAt.cong (by rw [HJ.out]; exact (HW0.out.store (j := 0) (by simp) _)) ?_) ?_, (HT0.out.trans (Turn.store _ _ _ hSg))⟩
        · rw [HCs.out, HX.out, hct]; first | (congr 1; done) | (congr 1; omega)
        · simp only [List.set_cons_zero, List.set_cons_succ, List.cons.injEq, Value.int.injEq, Value.bool.injEq, true_and, and_true]
          first | done | omega | (refine ⟨?_, ?_⟩ <;> first | omega | (rw [Bool.eq_iff_iff]; simp; omega)) | (rw [Bool.eq_iff_iff]; simp; omega)
        · rw [Hc.out, HX.out]
          exact rfl
      case measure => simp [intOf]; omega
    · have e : j = d.length := by omega
      subst e
      have HOO : Hid (SlOwn strE S wr (mkAll strE k d) (.slice ao d.length cap)) := Lib.hid (by have := HO.out; rw [mkTo_all] at this; exact this)
      have hce : cntL strE (d.take d.length) = cntL strE d := by rw [List.take_length]
      rw [hce]
      go_wp2
      go_ret
      exact ⟨rfl, HOO.out, HT.out⟩
end Go.Proofs.Ytlgafmgohinkbaa
/- The helpers of the laws: marks. -/
namespace Go.Proofs.Ytlgafmgohinkbaa
open Go.RowKit
attribute [local go_sem ↓] Go.wp_at_zero Go.wp_at_succ

set_option maxRecDepth 100000 in
set_option maxHeartbeats 4000000 in
theorem markClassS_at {S : Bs} (v : Value) (d : List ClassT) (k : Nat) (w : World) (h : SlOwn classE S w d v) (hl : d.length ≤ 1048576) (hz : szL classE d ≤ 1048576) (hk1 : 0 < k) (hk2 : k + cntL classE d ≤ 1000000000) :
    Calls Try.prog 40 #[v, .int .i64 k] w fun e w' => e = .returned (.int .i64 ((k + cntL classE d : Nat) : Int)) ∧ SlOwn classE S w' (mkAll classE k d) v ∧ Turn S w w' := by
  obtain ⟨ao, cap, rfl⟩ := h.at.sl
  have HS := Lib.hid h; clear h
  have HTx : Hid (∀ (X : World) (m : Nat) (q : Int), q = (m : Int) → 0 < m → m ≤ 1000000000 → Calls Try.prog 80 #[.int .i64 q] X fun e w' => e = .returned (.string (mkT m)) ∧ Below X.heap.size X w') := Lib.hid (fun X m q e h1 h2 => by subst e; exact markText_any m X h1 h2)
  have HM1 : Hid (∀ (X : World) (Sx : Bs) (u : Value) (V : List ByteArray) (m : Nat) (q : Int), q = (m : Int) → SlOwn strE Sx X V u → V.length ≤ 1048576 → szL strE V ≤ 1048576 → 0 < m → m + cntL strE V ≤ 1000000000 → Calls Try.prog 20 #[u, .int .i64 q] X fun e w' => e = .returned (.int .i64 ((m + cntL strE V : Nat) : Int)) ∧ SlOwn strE Sx w' (mkAll strE m V) u ∧ Turn Sx X w') := Lib.hid (fun X Sx u V m q e h h0 hz h1 h2 => by subst e; exact markStringS_at u V m X h h0 hz h1 h2)
  have HM2 : Hid (∀ (X : World) (Sx : Bs) (u : Value) (V : List ByteArray) (m : Nat) (q : Int), q = (m : Int) → SlOwn strE Sx X V u → V.length ≤ 1048576 → szL strE V ≤ 1048576 → 0 < m → m + cntL strE V ≤ 1000000000 → Calls Try.prog 20 #[u, .int .i64 q] X fun e w' => e = .returned (.int .i64 ((m + cntL strE V : Nat) : Int)) ∧ SlOwn strE Sx w' (mkAll strE m V) u ∧ Turn Sx X w') := Lib.hid (fun X Sx u V m q e h h0 hz h1 h2 => by subst e; exact markStringS_at u V m X h h0 hz h1 h2)
  have HM3 : Hid (∀ (X : World) (Sx : Bs) (u : Value) (V : List ByteArray) (m : Nat) (q : Int), q = (m : Int) → SlOwn strE Sx X V u → V.length ≤ 1048576 → szL strE V ≤ 1048576 → 0 < m → m + cntL strE V ≤ 1000000000 → Calls Try.prog 20 #[u, .int .i64 q] X fun e w' => e = .returned (.int .i64 ((m + cntL strE V : Nat) : Int)) ∧ SlOwn strE Sx w' (mkAll strE m V) u ∧ Turn Sx X w') := Lib.hid (fun X Sx u V m q e h h0 hz h1 h2 => by subst e; exact markStringS_at u V m X h h0 hz h1 h2)
  go_enter Try.func40, Try.ntmps40
  go_wp2
  go_loopw [1, 5] (fun t i wr => ∃ j : Nat, j ≤ d.length ∧ i = .int .i64 j ∧ t = .int .i64 ((k + cntL classE (d.take j) : Nat) : Int) ∧ SlOwn classE S wr (mkTo classE k d j) (.slice ao d.length cap) ∧ Turn S w wr) (fun _ i _ => d.length - (intOf i).toNat)
  case atStart => exact ⟨0, Nat.zero_le _, rfl, by simp [cntL], by rw [mkTo_zero]; exact HS.out, Turn.refl _ _⟩
  case round =>
    obtain ⟨j, hj, rfl, rfl, hO, hT⟩ := hrel
    have HO := Lib.hid hO; have HT := Lib.hid hT; clear hO hT
    have hcl := cntL_take_le classE d j
    by_cases hlt : j < d.length
    · obtain ⟨g, Sr, cs, rfl, hcap, hSg, hSr, hSub, hR, hrow, hown⟩ := mk_open HO.out hlt
      have HCs := Lib.hid (cntL_take classE d j hlt)
      have hcs : cntL classE (d.take j) + (classE).cnt d[j] ≤ cntL classE d := by have := cntL_take_le classE d (j + 1); rw [HCs.out] at this; exact this
      obtain ⟨a0, a1, a2, a3, u1, u2, u3, S1, S2, S3, hx, rfl, q1, i1, q2, i2, q3, i3, d1_2, d1_3, d2_3, _⟩ := class_own hown
      rw [hx] at hcs
      have hct : (classE).cnt (a0, a1, a2, a3) = 1 + (cntL strE a1 + (cntL strE a2 + (cntL strE a3))) := rfl
      rw [hct] at hcs
      have HX := Lib.hid hx
      have hl1 : a1.length ≤ 1048576 := by have := szL_mem classE (List.getElem_mem hlt); rw [hx] at this; have h2 : (classE).sz (a0, a1, a2, a3) = a0.size + ((a1.length + szL strE a1) + ((a2.length + szL strE a2) + ((a3.length + szL strE a3)))) := rfl; rw [h2] at this; omega
      have hz1 : szL strE a1 ≤ 1048576 := by have := szL_mem classE (List.getElem_mem hlt); rw [hx] at this; have h2 : (classE).sz (a0, a1, a2, a3) = a0.size + ((a1.length + szL strE a1) + ((a2.length + szL strE a2) + ((a3.length + szL strE a3)))) := rfl; rw [h2] at this; omega
      have hl2 : a2.length ≤ 1048576 := by have := szL_mem classE (List.getElem_mem hlt); rw [hx] at this; have h2 : (classE).sz (a0, a1, a2, a3) = a0.size + ((a1.length + szL strE a1) + ((a2.length + szL strE a2) + ((a3.length + szL strE a3)))) := rfl; rw [h2] at this; omega
      have hz2 : szL strE a2 ≤ 1048576 := by have := szL_mem classE (List.getElem_mem hlt); rw [hx] at this; have h2 : (classE).sz (a0, a1, a2, a3) = a0.size + ((a1.length + szL strE a1) + ((a2.length + szL strE a2) + ((a3.length + szL strE a3)))) := rfl; rw [h2] at this; omega
      have hl3 : a3.length ≤ 1048576 := by have := szL_mem classE (List.getElem_mem hlt); rw [hx] at this; have h2 : (classE).sz (a0, a1, a2, a3) = a0.size + ((a1.length + szL strE a1) + ((a2.length + szL strE a2) + ((a3.length + szL strE a3)))) := rfl; rw [h2] at this; omega
      have hz3 : szL strE a3 ≤ 1048576 := by have := szL_mem classE (List.getElem_mem hlt); rw [hx] at this; have h2 : (classE).sz (a0, a1, a2, a3) = a0.size + ((a1.length + szL strE a1) + ((a2.length + szL strE a2) + ((a3.length + szL strE a3)))) := rfl; rw [h2] at this; omega
      clear hx hown
      have HR0 := Lib.hid hR; have HW0 := Lib.hid hrow; have HT0 := HT; clear hR hrow
      have HQ1 := Lib.hid q1; clear q1
      have HQ2 := Lib.hid q2; clear q2
      have HQ3 := Lib.hid q3; clear q3
      generalize hc : cntL classE (d.take j) = c at *
      have Hc := Lib.hid hc; clear hc
      have g1 : (0 : Int) ≤ (j : Int) := by omega
      have g2 : (j : Int) < (d.length : Int) := by omega
      generalize hm1 : cntL strE a1 = m1 at *
      have Hm1 := Lib.hid hm1; clear hm1
      generalize hm2 : cntL strE a2 = m2 at *
      have Hm2 := Lib.hid hm2; clear hm2
      generalize hm3 : cntL strE a3 = m3 at *
      have Hm3 := Lib.hid hm3; clear hm3
      go_wp2_with fail
      refine (HTx.out wr (k + c) _ (by omega) (by omega) (by omega)).mono ?_
      rintro e X1 ⟨rfl, hb⟩
      have HW1 := Lib.hid (HW0.out.same (hb.block _ HW0.out.lt)); have HR1 := Lib.hid (HR0.out.turn (by rw [mkTo_length _ _ _ hj]; exact hlt) (Turn.of_below hb)); have HT1 := Lib.hid (HT0.out.trans (Turn.of_below hb))
      have HP1 := Lib.hid (HQ1.out.frame (Same.of_below' hb))
      have HP2 := Lib.hid (HQ2.out.frame (Same.of_below' hb))
      have HP3 := Lib.hid (HQ3.out.frame (Same.of_below' hb))
      clear hb HW0 HR0 HT0 HQ1 HQ2 HQ3
      have HW0 := HW1; have HR0 := HR1; have HT0 := HT1; clear HW1 HR1 HT1
      have HQ1 := HP1; clear HP1
      have HQ2 := HP2; clear HP2
      have HQ3 := HP3; clear HP3
      have c0 := HW0.out.cells 0 (by simp)
      have c0 : X1.cell? ⟨g, j * 4, none⟩ = some (.string a0) := c0
      have f0 : X1.frozen? ⟨g, j * 4, none⟩ = false := HW0.out.soft _
      have c1 := HW0.out.cells 1 (by simp)
      have c1 : X1.cell? ⟨g, j * 4 + 1, none⟩ = some (u1) := c1
      have f1 : X1.frozen? ⟨g, j * 4 + 1, none⟩ = false := HW0.out.soft _
      have c2 := HW0.out.cells 2 (by simp)
      have c2 : X1.cell? ⟨g, j * 4 + 2, none⟩ = some (u2) := c2
      have f2 : X1.frozen? ⟨g, j * 4 + 2, none⟩ = false := HW0.out.soft _
      have c3 := HW0.out.cells 3 (by simp)
      have c3 : X1.cell? ⟨g, j * 4 + 3, none⟩ = some (u3) := c3
      have f3 : X1.frozen? ⟨g, j * 4 + 3, none⟩ = false := HW0.out.soft _
      go_wp2_with fail
      refine calls_by (fun W => (∃ cs : List Value, RowAt W g (j * (classE).n) cs ∧ cs = [.string (mkT (k + c)), u1, u2, u3]) ∧ Rest classE S W (mkTo classE k d j) g j Sr ∧ Turn S w W ∧ SlOwn strE S1 W (a1) u1 ∧ SlOwn strE S2 W (a2) u2 ∧ SlOwn strE S3 W (a3) u3) ⟨⟨_, (HW0.out.store (j := 0) (by simp) _), by simp only [List.set_cons_zero, List.set_cons_succ, List.cons.injEq, Value.int.injEq, Value.bool.injEq, true_and, and_true] <;> omega⟩, (HR0.out.store (u := 0) (by decide) _), (HT0.out.trans (Turn.store _ _ _ hSg)), (HQ1.out.frame (Same.set _ _ _ (fun z => hSr (i1 g z)))), (HQ2.out.frame (Same.set _ _ _ (fun z => hSr (i2 g z)))), (HQ3.out.frame (Same.set _ _ _ (fun z => hSr (i3 g z))))⟩ ?_
      try clear c0; try clear f0; try clear c1; try clear f1; try clear c2; try clear f2; try clear c3; try clear f3
      clear HR0 HW0 HT0 HQ1 HQ2 HQ3
      rintro X2 ⟨⟨cs, hw, rfl⟩, hr, ht, q1, q2, q3⟩
      have HW0 := Lib.hid hw; have HR0 := Lib.hid hr; have HT0 := Lib.hid ht; clear hw hr ht
      have HQ1 := Lib.hid q1; clear q1
      have HQ2 := Lib.hid q2; clear q2
      have HQ3 := Lib.hid q3; clear q3
      refine (HM1.out X2 S1 u1 a1 (k + c + 1) _ (by omega) HQ1.out hl1 hz1 (by omega) (by rw [Hm1.out]; omega)).mono ?_
      rintro e X3 ⟨rfl, q1, ht⟩
      have HW1 := Lib.hid (HW0.out.same (ht.block _ HW0.out.lt (fun z => hSr (i1 g z)))); have HR1 := Lib.hid (HR0.out.turn (by rw [mkTo_length _ _ _ hj]; exact hlt) (ht.wide i1)); have HT1 := Lib.hid (HT0.out.trans (ht.wide (fun z y => hSub z (i1 z y))))
      have HP1 := Lib.hid q1; clear q1
      have HP2 := Lib.hid (HQ2.out.frame (ht.same (fun z y1 y2 => d1_2 z y2 y1)))
      have HP3 := Lib.hid (HQ3.out.frame (ht.same (fun z y1 y2 => d1_3 z y2 y1)))
      clear ht HW0 HR0 HT0 HQ1 HQ2 HQ3
      have HW0 := HW1; have HR0 := HR1; have HT0 := HT1; clear HW1 HR1 HT1
      have HQ1 := HP1; clear HP1
      have HQ2 := HP2; clear HP2
      have HQ3 := HP3; clear HP3
      rw [Hm1.out]
      have c0 := HW0.out.cells 0 (by simp)
      have c0 : X3.cell? ⟨g, j * 4, none⟩ = some (.string (mkT (k + c))) := c0
      have f0 : X3.frozen? ⟨g, j * 4, none⟩ = false := HW0.out.soft _
      have c1 := HW0.out.cells 1 (by simp)
      have c1 : X3.cell? ⟨g, j * 4 + 1, none⟩ = some (u1) := c1
      have f1 : X3.frozen? ⟨g, j * 4 + 1, none⟩ = false := HW0.out.soft _
      have c2 := HW0.out.cells 2 (by simp)
      have c2 : X3.cell? ⟨g, j * 4 + 2, none⟩ = some (u2) := c2
      have f2 : X3.frozen? ⟨g, j * 4 + 2, none⟩ = false := HW0.out.soft _
      have c3 := HW0.out.cells 3 (by simp)
      have c3 : X3.cell? ⟨g, j * 4 + 3, none⟩ = some (u3) := c3
      have f3 : X3.frozen? ⟨g, j * 4 + 3, none⟩ = false := HW0.out.soft _
      go_wp2_with fail
      refine (HM2.out X3 S2 u2 a2 (k + c + 1 + m1) _ (by omega) HQ2.out hl2 hz2 (by omega) (by rw [Hm2.out]; omega)).mono ?_
      rintro e X4 ⟨rfl, q2, ht⟩
      have HW1 := Lib.hid (HW0.out.same (ht.block _ HW0.out.lt (fun z => hSr (i2 g z)))); have HR1 := Lib.hid (HR0.out.turn (by rw [mkTo_length _ _ _ hj]; exact hlt) (ht.wide i2)); have HT1 := Lib.hid (HT0.out.trans (ht.wide (fun z y => hSub z (i2 z y))))
      have HP1 := Lib.hid (HQ1.out.frame (ht.same (d1_2)))
      have HP2 := Lib.hid q2; clear q2
      have HP3 := Lib.hid (HQ3.out.frame (ht.same (fun z y1 y2 => d2_3 z y2 y1)))
      clear ht HW0 HR0 HT0 HQ1 HQ2 HQ3
      have HW0 := HW1; have HR0 := HR1; have HT0 := HT1; clear HW1 HR1 HT1
      have HQ1 := HP1; clear HP1
      have HQ2 := HP2; clear HP2
      have HQ3 := HP3; clear HP3
      rw [Hm2.out]
      try clear c0; try clear f0; try clear c1; try clear f1; try clear c2; try clear f2; try clear c3; try clear f3
      have c0 := HW0.out.cells 0 (by simp)
      have c0 : X4.cell? ⟨g, j * 4, none⟩ = some (.string (mkT (k + c))) := c0
      have f0 : X4.frozen? ⟨g, j * 4, none⟩ = false := HW0.out.soft _
      have c1 := HW0.out.cells 1 (by simp)
      have c1 : X4.cell? ⟨g, j * 4 + 1, none⟩ = some (u1) := c1
      have f1 : X4.frozen? ⟨g, j * 4 + 1, none⟩ = false := HW0.out.soft _
      have c2 := HW0.out.cells 2 (by simp)
      have c2 : X4.cell? ⟨g, j * 4 + 2, none⟩ = some (u2) := c2
      have f2 : X4.frozen? ⟨g, j * 4 + 2, none⟩ = false := HW0.out.soft _
      have c3 := HW0.out.cells 3 (by simp)
      have c3 : X4.cell? ⟨g, j * 4 + 3, none⟩ = some (u3) := c3
      have f3 : X4.frozen? ⟨g, j * 4 + 3, none⟩ = false := HW0.out.soft _
      go_wp2_with fail
      refine (HM3.out X4 S3 u3 a3 (k + c + 1 + m1 + m2) _ (by omega) HQ3.out hl3 hz3 (by omega) (by rw [Hm3.out]; omega)).mono ?_
      rintro e X5 ⟨rfl, q3, ht⟩
      have HW1 := Lib.hid (HW0.out.same (ht.block _ HW0.out.lt (fun z => hSr (i3 g z)))); have HR1 := Lib.hid (HR0.out.turn (by rw [mkTo_length _ _ _ hj]; exact hlt) (ht.wide i3)); have HT1 := Lib.hid (HT0.out.trans (ht.wide (fun z y => hSub z (i3 z y))))
      have HP1 := Lib.hid (HQ1.out.frame (ht.same (d1_3)))
      have HP2 := Lib.hid (HQ2.out.frame (ht.same (d2_3)))
      have HP3 := Lib.hid q3; clear q3
      clear ht HW0 HR0 HT0 HQ1 HQ2 HQ3
      have HW0 := HW1; have HR0 := HR1; have HT0 := HT1; clear HW1 HR1 HT1
      have HQ1 := HP1; clear HP1
      have HQ2 := HP2; clear HP2
      have HQ3 := HP3; clear HP3
      rw [Hm3.out]
      try clear c0; try clear f0; try clear c1; try clear f1; try clear c2; try clear f2; try clear c3; try clear f3
      have c0 := HW0.out.cells 0 (by simp)
      have c0 : X5.cell? ⟨g, j * 4, none⟩ = some (.string (mkT (k + c))) := c0
      have f0 : X5.frozen? ⟨g, j * 4, none⟩ = false := HW0.out.soft _
      have c1 := HW0.out.cells 1 (by simp)
      have c1 : X5.cell? ⟨g, j * 4 + 1, none⟩ = some (u1) := c1
      have f1 : X5.frozen? ⟨g, j * 4 + 1, none⟩ = false := HW0.out.soft _
      have c2 := HW0.out.cells 2 (by simp)
      have c2 : X5.cell? ⟨g, j * 4 + 2, none⟩ = some (u2) := c2
      have f2 : X5.frozen? ⟨g, j * 4 + 2, none⟩ = false := HW0.out.soft _
      have c3 := HW0.out.cells 3 (by simp)
      have c3 : X5.cell? ⟨g, j * 4 + 3, none⟩ = some (u3) := c3
      have f3 : X5.frozen? ⟨g, j * 4 + 3, none⟩ = false := HW0.out.soft _
      go_wp2
      go_roundw
      case rel =>
        refine ⟨j + 1, by omega, by go_num, ?_, mk_close (cs := [.string (mkT (k + c)), u1, u2, u3]) HR0.out hlt hcap (RowAt.cong HW0.out ?_) ?_, HT0.out⟩
        · rw [HCs.out, HX.out, hct]; first | (congr 1; done) | (congr 1; omega)
        · simp only [List.set_cons_zero, List.set_cons_succ, List.cons.injEq, Value.int.injEq, Value.bool.injEq, true_and, and_true]
          first | done | omega | (refine ⟨?_, ?_⟩ <;> first | omega | (rw [Bool.eq_iff_iff]; simp; omega)) | (rw [Bool.eq_iff_iff]; simp; omega)
        · rw [Hc.out, HX.out]
          have e1 := Hm1.out
          have e2 := Hm2.out
          have e3 := Hm3.out
          subst e1 e2 e3
          exact class_pack (mkT (k + c)) (mkAll strE (k + c + 1) a1) (mkAll strE (k + c + 1 + (cntL strE a1)) a2) (mkAll strE (k + c + 1 + (cntL strE a1) + (cntL strE a2)) a3) _ _ _ S1 S2 S3 ⟨HQ1.out, i1, HQ2.out, i2, HQ3.out, i3, d1_2, d1_3, d2_3, trivial⟩
      case measure => simp [intOf]; omega
    · have e : j = d.length := by omega
      subst e
      have HOO : Hid (SlOwn classE S wr (mkAll classE k d) (.slice ao d.length cap)) := Lib.hid (by have := HO.out; rw [mkTo_all] at this; exact this)
      have hce : cntL classE (d.take d.length) = cntL classE d := by rw [List.take_length]
      rw [hce]
      go_wp2
      go_ret
      exact ⟨rfl, HOO.out, HT.out⟩
end Go.Proofs.Ytlgafmgohinkbaa
/- The helpers of the laws: marks. -/
namespace Go.Proofs.Ytlgafmgohinkbaa
open Go.RowKit
attribute [local go_sem ↓] Go.wp_at_zero Go.wp_at_succ

set_option maxRecDepth 100000 in
set_option maxHeartbeats 4000000 in
theorem markRdnS_at {S : Bs} (v : Value) (d : List RdnT) (k : Nat) (w : World) (h : SlOwn rdnE S w d v) (hl : d.length ≤ 1048576) (hz : szL rdnE d ≤ 1048576) (hk1 : 0 < k) (hk2 : k + cntL rdnE d ≤ 1000000000) :
    Calls Try.prog 94 #[v, .int .i64 k] w fun e w' => e = .returned (.int .i64 ((k + cntL rdnE d : Nat) : Int)) ∧ SlOwn rdnE S w' (mkAll rdnE k d) v ∧ Turn S w w' := by
  obtain ⟨ao, cap, rfl⟩ := h.at.sl
  have HS := Lib.hid h; clear h
  have HTx : Hid (∀ (X : World) (m : Nat) (q : Int), q = (m : Int) → 0 < m → m ≤ 1000000000 → Calls Try.prog 80 #[.int .i64 q] X fun e w' => e = .returned (.string (mkT m)) ∧ Below X.heap.size X w') := Lib.hid (fun X m q e h1 h2 => by subst e; exact markText_any m X h1 h2)
  go_enter Try.func94, Try.ntmps94
  go_wp2
  go_loopw [1, 5] (fun t i wr => ∃ j : Nat, j ≤ d.length ∧ i = .int .i64 j ∧ t = .int .i64 ((k + cntL rdnE (d.take j) : Nat) : Int) ∧ SlOwn rdnE S wr (mkTo rdnE k d j) (.slice ao d.length cap) ∧ Turn S w wr) (fun _ i _ => d.length - (intOf i).toNat)
  case atStart => exact ⟨0, Nat.zero_le _, rfl, by simp [cntL], by rw [mkTo_zero]; exact HS.out, Turn.refl _ _⟩
  case round =>
    obtain ⟨j, hj, rfl, rfl, hO, hT⟩ := hrel
    have HO := Lib.hid hO; have HT := Lib.hid hT; clear hO hT
    have hcl := cntL_take_le rdnE d j
    by_cases hlt : j < d.length
    · obtain ⟨g, Sr, cs, rfl, hcap, hSg, hSr, hSub, hR, hrow, hown⟩ := mk_open HO.out hlt
      have HCs := Lib.hid (cntL_take rdnE d j hlt)
      have hcs : cntL rdnE (d.take j) + (rdnE).cnt d[j] ≤ cntL rdnE d := by have := cntL_take_le rdnE d (j + 1); rw [HCs.out] at this; exact this
      obtain ⟨a0, a1, hx, rfl, _⟩ := rdn_own hown
      rw [hx] at hcs
      have hct : (rdnE).cnt (a0, a1) = 1 + (1) := rfl
      rw [hct] at hcs
      have HX := Lib.hid hx
      clear hx hown
      have HR0 := Lib.hid hR; have HW0 := Lib.hid hrow; have HT0 := HT; clear hR hrow
      generalize hc : cntL rdnE (d.take j) = c at *
      have Hc := Lib.hid hc; clear hc
      have g1 : (0 : Int) ≤ (j : Int) := by omega
      have g2 : (j : Int) < (d.length : Int) := by omega
      go_wp2_with fail
      refine (HTx.out wr (k + c) _ (by omega) (by omega) (by omega)).mono ?_
      rintro e X1 ⟨rfl, hb⟩
      have HW1 := Lib.hid (HW0.out.same (hb.block _ HW0.out.lt)); have HR1 := Lib.hid (HR0.out.turn (by rw [mkTo_length _ _ _ hj]; exact hlt) (Turn.of_below hb)); have HT1 := Lib.hid (HT0.out.trans (Turn.of_below hb))
      clear hb HW0 HR0 HT0 
      have HW0 := HW1; have HR0 := HR1; have HT0 := HT1; clear HW1 HR1 HT1
      have c0 := HW0.out.cells 0 (by simp)
      have c0 : X1.cell? ⟨g, j * 2, none⟩ = some (.string a0) := c0
      have f0 : X1.frozen? ⟨g, j * 2, none⟩ = false := HW0.out.soft _
      have c1 := HW0.out.cells 1 (by simp)
      have c1 : X1.cell? ⟨g, j * 2 + 1, none⟩ = some (.string a1) := c1
      have f1 : X1.frozen? ⟨g, j * 2 + 1, none⟩ = false := HW0.out.soft _
      go_wp2_with fail
      refine calls_by (fun W => (∃ cs : List Value, RowAt W g (j * (rdnE).n) cs ∧ cs = [.string (mkT (k + c)), .string a1]) ∧ Rest rdnE S W (mkTo rdnE k d j) g j Sr ∧ Turn S w W) ⟨⟨_, (HW0.out.store (j := 0) (by simp) _), by simp only [List.set_cons_zero, List.set_cons_succ, List.cons.injEq, Value.int.injEq, Value.bool.injEq, true_and, and_true] <;> omega⟩, (HR0.out.store (u := 0) (by decide) _), (HT0.out.trans (Turn.store _ _ _ hSg))⟩ ?_
      try clear c0; try clear f0; try clear c1; try clear f1
      clear HR0 HW0 HT0 
      rintro X2 ⟨⟨cs, hw, rfl⟩, hr, ht⟩
      have HW0 := Lib.hid hw; have HR0 := Lib.hid hr; have HT0 := Lib.hid ht; clear hw hr ht
      refine (HTx.out X2 (k + c + 1) _ (by omega) (by omega) (by omega)).mono ?_
      rintro e X3 ⟨rfl, hb⟩
      have HW1 := Lib.hid (HW0.out.same (hb.block _ HW0.out.lt)); have HR1 := Lib.hid (HR0.out.turn (by rw [mkTo_length _ _ _ hj]; exact hlt) (Turn.of_below hb)); have HT1 := Lib.hid (HT0.out.trans (Turn.of_below hb))
      clear hb HW0 HR0 HT0 
      have HW0 := HW1; have HR0 := HR1; have HT0 := HT1; clear HW1 HR1 HT1
      have c0 := HW0.out.cells 0 (by simp)
      have c0 : X3.cell? ⟨g, j * 2, none⟩ = some (.string (mkT (k + c))) := c0
      have f0 : X3.frozen? ⟨g, j * 2, none⟩ = false := HW0.out.soft _
      have c1 := HW0.out.cells 1 (by simp)
      have c1 : X3.cell? ⟨g, j * 2 + 1, none⟩ = some (.string a1) := c1
      have f1 : X3.frozen? ⟨g, j * 2 + 1, none⟩ = false := HW0.out.soft _
      go_wp2
      go_roundw
      case rel =>
        refine ⟨j + 1, by omega, by go_num, ?_, mk_close (cs := [.string (mkT (k + c)), .string (mkT (k + c + 1))]) (HR0.out.store (u := 1) (by decide) _) hlt hcap (RowAt.cong (HW0.out.store (j := 1) (by simp) _) ?_) ?_, (HT0.out.trans (Turn.store _ _ _ hSg))⟩
        · rw [HCs.out, HX.out, hct]; first | (congr 1; done) | (congr 1; omega)
        · simp only [List.set_cons_zero, List.set_cons_succ, List.cons.injEq, Value.int.injEq, Value.bool.injEq, true_and, and_true]
          first | done | omega | (refine ⟨?_, ?_⟩ <;> first | omega | (rw [Bool.eq_iff_iff]; simp; omega)) | (rw [Bool.eq_iff_iff]; simp; omega)
        · rw [Hc.out, HX.out]
          exact rdn_pack (mkT (k + c)) (mkT (k + c + 1))   trivial
      case measure => simp [intOf]; omega
    · have e : j = d.length := by omega
      subst e
      have HOO : Hid (SlOwn rdnE S wr (mkAll rdnE k d) (.slice ao d.length cap)) := Lib.hid (by have := HO.out; rw [mkTo_all] at this; exact this)
      have hce : cntL rdnE (d.take d.length) = cntL rdnE d := by rw [List.take_length]
      rw [hce]
      go_wp2
      go_ret
      exact ⟨rfl, HOO.out, HT.out⟩
end Go.Proofs.Ytlgafmgohinkbaa
/- The helpers of the laws: marks. -/
namespace Go.Proofs.Ytlgafmgohinkbaa
open Go.RowKit
attribute [local go_sem ↓] Go.wp_at_zero Go.wp_at_succ

set_option maxRecDepth 100000 in
set_option maxHeartbeats 4000000 in
theorem markAttrS_at {S : Bs} (v : Value) (d : List AttrT) (k : Nat) (w : World) (h : SlOwn attrE S w d v) (hl : d.length ≤ 1048576) (hz : szL attrE d ≤ 1048576) (hk1 : 0 < k) (hk2 : k + cntL attrE d ≤ 1000000000) :
    Calls Try.prog 95 #[v, .int .i64 k] w fun e w' => e = .returned (.int .i64 ((k + cntL attrE d : Nat) : Int)) ∧ SlOwn attrE S w' (mkAll attrE k d) v ∧ Turn S w w' := by
  obtain ⟨ao, cap, rfl⟩ := h.at.sl
  have HS := Lib.hid h; clear h
  have HTx : Hid (∀ (X : World) (m : Nat) (q : Int), q = (m : Int) → 0 < m → m ≤ 1000000000 → Calls Try.prog 80 #[.int .i64 q] X fun e w' => e = .returned (.string (mkT m)) ∧ Below X.heap.size X w') := Lib.hid (fun X m q e h1 h2 => by subst e; exact markText_any m X h1 h2)
  have HM1 : Hid (∀ (X : World) (Sx : Bs) (u : Value) (V : List ByteArray) (m : Nat) (q : Int), q = (m : Int) → SlOwn strE Sx X V u → V.length ≤ 1048576 → szL strE V ≤ 1048576 → 0 < m → m + cntL strE V ≤ 1000000000 → Calls Try.prog 20 #[u, .int .i64 q] X fun e w' => e = .returned (.int .i64 ((m + cntL strE V : Nat) : Int)) ∧ SlOwn strE Sx w' (mkAll strE m V) u ∧ Turn Sx X w') := Lib.hid (fun X Sx u V m q e h h0 hz h1 h2 => by subst e; exact markStringS_at u V m X h h0 hz h1 h2)
  go_enter Try.func95, Try.ntmps95
  go_wp2
  go_loopw [1, 5] (fun t i wr => ∃ j : Nat, j ≤ d.length ∧ i = .int .i64 j ∧ t = .int .i64 ((k + cntL attrE (d.take j) : Nat) : Int) ∧ SlOwn attrE S wr (mkTo attrE k d j) (.slice ao d.length cap) ∧ Turn S w wr) (fun _ i _ => d.length - (intOf i).toNat)
  case atStart => exact ⟨0, Nat.zero_le _, rfl, by simp [cntL], by rw [mkTo_zero]; exact HS.out, Turn.refl _ _⟩
  case round =>
    obtain ⟨j, hj, rfl, rfl, hO, hT⟩ := hrel
    have HO := Lib.hid hO; have HT := Lib.hid hT; clear hO hT
    have hcl := cntL_take_le attrE d j
    by_cases hlt : j < d.length
    · obtain ⟨g, Sr, cs, rfl, hcap, hSg, hSr, hSub, hR, hrow, hown⟩ := mk_open HO.out hlt
      have HCs := Lib.hid (cntL_take attrE d j hlt)
      have hcs : cntL attrE (d.take j) + (attrE).cnt d[j] ≤ cntL attrE d := by have := cntL_take_le attrE d (j + 1); rw [HCs.out] at this; exact this
      obtain ⟨a0, a1, u1, S1, hx, rfl, q1, i1, _⟩ := attr_own hown
      rw [hx] at hcs
      have hct : (attrE).cnt (a0, a1) = 1 + (cntL strE a1) := rfl
      rw [hct] at hcs
      have HX := Lib.hid hx
      have hl1 : a1.length ≤ 1048576 := by have := szL_mem attrE (List.getElem_mem hlt); rw [hx] at this; have h2 : (attrE).sz (a0, a1) = a0.size + ((a1.length + szL strE a1)) := rfl; rw [h2] at this; omega
      have hz1 : szL strE a1 ≤ 1048576 := by have := szL_mem attrE (List.getElem_mem hlt); rw [hx] at this; have h2 : (attrE).sz (a0, a1) = a0.size + ((a1.length + szL strE a1)) := rfl; rw [h2] at this; omega
      clear hx hown
      have HR0 := Lib.hid hR; have HW0 := Lib.hid hrow; have HT0 := HT; clear hR hrow
      have HQ1 := Lib.hid q1; clear q1
      generalize hc : cntL attrE (d.take j) = c at *
      have Hc := Lib.hid hc; clear hc
      have g1 : (0 : Int) ≤ (j : Int) := by omega
      have g2 : (j : Int) < (d.length : Int) := by omega
      generalize hm1 : cntL strE a1 = m1 at *
      have Hm1 := Lib.hid hm1; clear hm1
      go_wp2_with fail
      refine (HTx.out wr (k + c) _ (by omega) (by omega) (by omega)).mono ?_
      rintro e X1 ⟨rfl, hb⟩
      have HW1 := Lib.hid (HW0.out.same (hb.block _ HW0.out.lt)); have HR1 := Lib.hid (HR0.out.turn (by rw [mkTo_length _ _ _ hj]; exact hlt) (Turn.of_below hb)); have HT1 := Lib.hid (HT0.out.trans (Turn.of_below hb))
      have HP1 := Lib.hid (HQ1.out.frame (Same.of_below' hb))
      clear hb HW0 HR0 HT0 HQ1
      have HW0 := HW1; have HR0 := HR1; have HT0 := HT1; clear HW1 HR1 HT1
      have HQ1 := HP1; clear HP1
      have c0 := HW0.out.cells 0 (by simp)
      have c0 : X1.cell? ⟨g, j * 2, none⟩ = some (.string a0) := c0
      have f0 : X1.frozen? ⟨g, j * 2, none⟩ = false := HW0.out.soft _
      have c1 := HW0.out.cells 1 (by simp)
      have c1 : X1.cell? ⟨g, j * 2 + 1, none⟩ = some (u1) := c1
      have f1 : X1.frozen? ⟨g, j * 2 + 1, none⟩ = false := HW0.out.soft _
      go_wp2_with fail
      refine calls_by (fun W => (∃ cs : List Value, RowAt W g (j * (attrE).n) cs ∧ cs = [.string (mkT (k + c)), u1]) ∧ Rest attrE S W (mkTo attrE k d j) g j Sr ∧ Turn S w W ∧ SlOwn strE S1 W (a1) u1) ⟨⟨_, (HW0.out.store (j := 0) (by simp) _), by simp only [List.set_cons_zero, List.set_cons_succ, List.cons.injEq, Value.int.injEq, Value.bool.injEq, true_and, and_true] <;> omega⟩, (HR0.out.store (u := 0) (by decide) _), (HT0.out.trans (Turn.store _ _ _ hSg)), (HQ1.out.frame (Same.set _ _ _ (fun z => hSr (i1 g z))))⟩ ?_
      try clear c0; try clear f0; try clear c1; try clear f1
      clear HR0 HW0 HT0 HQ1
      rintro X2 ⟨⟨cs, hw, rfl⟩, hr, ht, q1⟩
      have HW0 := Lib.hid hw; have HR0 := Lib.hid hr; have HT0 := Lib.hid ht; clear hw hr ht
      have HQ1 := Lib.hid q1; clear q1
      refine (HM1.out X2 S1 u1 a1 (k + c + 1) _ (by omega) HQ1.out hl1 hz1 (by omega) (by rw [Hm1.out]; omega)).mono ?_
      rintro e X3 ⟨rfl, q1, ht⟩
      have HW1 := Lib.hid (HW0.out.same (ht.block _ HW0.out.lt (fun z => hSr (i1 g z)))); have HR1 := Lib.hid (HR0.out.turn (by rw [mkTo_length _ _ _ hj]; exact hlt) (ht.wide i1)); have HT1 := Lib.hid (HT0.out.trans (ht.wide (fun z y => hSub z (i1 z y))))
      have HP1 := Lib.hid q1; clear q1
      clear ht HW0 HR0 HT0 HQ1
      have HW0 := HW1; have HR0 := HR1; have HT0 := HT1; clear HW1 HR1 HT1
      have HQ1 := HP1; clear HP1
      rw [Hm1.out]
      have c0 := HW0.out.cells 0 (by simp)
      have c0 : X3.cell? ⟨g, j * 2, none⟩ = some (.string (mkT (k + c))) := c0
      have f0 : X3.frozen? ⟨g, j * 2, none⟩ = false := HW0.out.soft _
      have c1 := HW0.out.cells 1 (by simp)
      have c1 : X3.cell? ⟨g, j * 2 + 1, none⟩ = some (u1) := c1
      have f1 : X3.frozen? ⟨g, j * 2 + 1, none⟩ = false := HW0.out.soft _
      go_wp2
      go_roundw
      case rel =>
        refine ⟨j + 1, by omega, by go_num, ?_, mk_close (cs := [.string (mkT (k + c)), u1]) HR0.out hlt hcap (RowAt.cong HW0.out ?_) ?_, HT0.out⟩
        · rw [HCs.out, HX.out, hct]; first | (congr 1; done) | (congr 1; omega)
        · simp only [List.set_cons_zero, List.set_cons_succ, List.cons.injEq, Value.int.injEq, Value.bool.injEq, true_and, and_true]
          first | done | omega | (refine ⟨?_, ?_⟩ <;> first | omega | (rw [Bool.eq_iff_iff]; simp; omega)) | (rw [Bool.eq_iff_iff]; simp; omega)
        · rw [Hc.out, HX.out]
          have e1 := Hm1.out
          subst e1
          exact attr_pack (mkT (k + c)) (mkAll strE (k + c + 1) a1) _ S1 ⟨HQ1.out, i1, trivial⟩
      case measure => simp [intOf]; omega
    · have e : j = d.length := by omega
      subst e
      have HOO : Hid (SlOwn attrE S wr (mkAll attrE k d) (.slice ao d.length cap)) := Lib.hid (by have := HO.out; rw [mkTo_all] at this; exact this)
      have hce : cntL attrE (d.take d.length) = cntL attrE d := by rw [List.take_length]
      rw [hce]
      go_wp2
      go_ret
      exact ⟨rfl, HOO.out, HT.out⟩
end Go.Proofs.Ytlgafmgohinkbaa
/- The helpers of the laws: marks. -/
namespace Go.Proofs.Ytlgafmgohinkbaa
open Go.RowKit
attribute [local go_sem ↓] Go.wp_at_zero Go.wp_at_succ

set_option maxRecDepth 100000 in
set_option maxHeartbeats 4000000 in
theorem markEntryS_at {S : Bs} (v : Value) (d : List EntryT) (k : Nat) (w : World) (h : SlOwn entryE S w d v) (hl : d.length ≤ 1048576) (hz : szL entryE d ≤ 1048576) (hk1 : 0 < k) (hk2 : k + cntL entryE d ≤ 1000000000) :
    Calls Try.prog 32 #[v, .int .i64 k] w fun e w' => e = .returned (.int .i64 ((k + cntL entryE d : Nat) : Int)) ∧ SlOwn entryE S w' (mkAll entryE k d) v ∧ Turn S w w' := by
  obtain ⟨ao, cap, rfl⟩ := h.at.sl
  have HS := Lib.hid h; clear h
  have HTx : Hid (∀ (X : World) (m : Nat) (q : Int), q = (m : Int) → 0 < m → m ≤ 1000000000 → Calls Try.prog 80 #[.int .i64 q] X fun e w' => e = .returned (.string (mkT m)) ∧ Below X.heap.size X w') := Lib.hid (fun X m q e h1 h2 => by subst e; exact markText_any m X h1 h2)
  have HM0 : Hid (∀ (X : World) (Sx : Bs) (u : Value) (V : List RdnT) (m : Nat) (q : Int), q = (m : Int) → SlOwn rdnE Sx X V u → V.length ≤ 1048576 → szL rdnE V ≤ 1048576 → 0 < m → m + cntL rdnE V ≤ 1000000000 → Calls Try.prog 94 #[u, .int .i64 q] X fun e w' => e = .returned (.int .i64 ((m + cntL rdnE V : Nat) : Int)) ∧ SlOwn rdnE Sx w' (mkAll rdnE m V) u ∧ Turn Sx X w') := Lib.hid (fun X Sx u V m q e h h0 hz h1 h2 => by subst e; exact markRdnS_at u V m X h h0 hz h1 h2)
  have HM1 : Hid (∀ (X : World) (Sx : Bs) (u : Value) (V : List AttrT) (m : Nat) (q : Int), q = (m : Int) → SlOwn attrE Sx X V u → V.length ≤ 1048576 → szL attrE V ≤ 1048576 → 0 < m → m + cntL attrE V ≤ 1000000000 → Calls Try.prog 95 #[u, .int .i64 q] X fun e w' => e = .returned (.int .i64 ((m + cntL attrE V : Nat) : Int)) ∧ SlOwn attrE Sx w' (mkAll attrE m V) u ∧ Turn Sx X w') := Lib.hid (fun X Sx u V m q e h h0 hz h1 h2 => by subst e; exact markAttrS_at u V m X h h0 hz h1 h2)
  go_enter Try.func32, Try.ntmps32
  go_wp2
  go_loopw [1, 5] (fun t i wr => ∃ j : Nat, j ≤ d.length ∧ i = .int .i64 j ∧ t = .int .i64 ((k + cntL entryE (d.take j) : Nat) : Int) ∧ SlOwn entryE S wr (mkTo entryE k d j) (.slice ao d.length cap) ∧ Turn S w wr) (fun _ i _ => d.length - (intOf i).toNat)
  case atStart => exact ⟨0, Nat.zero_le _, rfl, by simp [cntL], by rw [mkTo_zero]; exact HS.out, Turn.refl _ _⟩
  case round =>
    obtain ⟨j, hj, rfl, rfl, hO, hT⟩ := hrel
    have HO := Lib.hid hO; have HT := Lib.hid hT; clear hO hT
    have hcl := cntL_take_le entryE d j
    by_cases hlt : j < d.length
    · obtain ⟨g, Sr, cs, rfl, hcap, hSg, hSr, hSub, hR, hrow, hown⟩ := mk_open HO.out hlt
      have HCs := Lib.hid (cntL_take entryE d j hlt)
      have hcs : cntL entryE (d.take j) + (entryE).cnt d[j] ≤ cntL entryE d := by have := cntL_take_le entryE d (j + 1); rw [HCs.out] at this; exact this
      obtain ⟨a0, a1, u0, u1, S0, S1, hx, rfl, q0, i0, q1, i1, d0_1, _⟩ := entry_own hown
      rw [hx] at hcs
      have hct : (entryE).cnt (a0, a1) = cntL rdnE a0 + (cntL attrE a1) := rfl
      rw [hct] at hcs
      have HX := Lib.hid hx
      have hl0 : a0.length ≤ 1048576 := by have := szL_mem entryE (List.getElem_mem hlt); rw [hx] at this; have h2 : (entryE).sz (a0, a1) = (a0.length + szL rdnE a0) + ((a1.length + szL attrE a1)) := rfl; rw [h2] at this; omega
      have hz0 : szL rdnE a0 ≤ 1048576 := by have := szL_mem entryE (List.getElem_mem hlt); rw [hx] at this; have h2 : (entryE).sz (a0, a1) = (a0.length + szL rdnE a0) + ((a1.length + szL attrE a1)) := rfl; rw [h2] at this; omega
      have hl1 : a1.length ≤ 1048576 := by have := szL_mem entryE (List.getElem_mem hlt); rw [hx] at this; have h2 : (entryE).sz (a0, a1) = (a0.length + szL rdnE a0) + ((a1.length + szL attrE a1)) := rfl; rw [h2] at this; omega
      have hz1 : szL attrE a1 ≤ 1048576 := by have := szL_mem entryE (List.getElem_mem hlt); rw [hx] at this; have h2 : (entryE).sz (a0, a1) = (a0.length + szL rdnE a0) + ((a1.length + szL attrE a1)) := rfl; rw [h2] at this; omega
      clear hx hown
      have HR0 := Lib.hid hR; have HW0 := Lib.hid hrow; have HT0 := HT; clear hR hrow
      have HQ0 := Lib.hid q0; clear q0
      have HQ1 := Lib.hid q1; clear q1
      generalize hc : cntL entryE (d.take j) = c at *
      have Hc := Lib.hid hc; clear hc
      have g1 : (0 : Int) ≤ (j : Int) := by omega
      have g2 : (j : Int) < (d.length : Int) := by omega
      generalize hm0 : cntL rdnE a0 = m0 at *
      have Hm0 := Lib.hid hm0; clear hm0
      generalize hm1 : cntL attrE a1 = m1 at *
      have Hm1 := Lib.hid hm1; clear hm1
      have c0 := HW0.out.cells 0 (by simp)
      have c0 : wr.cell? ⟨g, j * 2, none⟩ = some (u0) := c0
      have f0 : wr.frozen? ⟨g, j * 2, none⟩ = false := HW0.out.soft _
      have c1 := HW0.out.cells 1 (by simp)
      have c1 : wr.cell? ⟨g, j * 2 + 1, none⟩ = some (u1) := c1
      have f1 : wr.frozen? ⟨g, j * 2 + 1, none⟩ = false := HW0.out.soft _
      go_wp2_with fail
      refine (HM0.out wr S0 u0 a0 (k + c) _ (by omega) HQ0.out hl0 hz0 (by omega) (by rw [Hm0.out]; omega)).mono ?_
      rintro e X1 ⟨rfl, q0, ht⟩
      have HW1 := Lib.hid (HW0.out.same (ht.block _ HW0.out.lt (fun z => hSr (i0 g z)))); have HR1 := Lib.hid (HR0.out.turn (by rw [mkTo_length _ _ _ hj]; exact hlt) (ht.wide i0)); have HT1 := Lib.hid (HT0.out.trans (ht.wide (fun z y => hSub z (i0 z y))))
      have HP0 := Lib.hid q0; clear q0
      have HP1 := Lib.hid (HQ1.out.frame (ht.same (fun z y1 y2 => d0_1 z y2 y1)))
      clear ht HW0 HR0 HT0 HQ0 HQ1
      have HW0 := HW1; have HR0 := HR1; have HT0 := HT1; clear HW1 HR1 HT1
      have HQ0 := HP0; clear HP0
      have HQ1 := HP1; clear HP1
      rw [Hm0.out]
      try clear c0; try clear f0; try clear c1; try clear f1
      have c0 := HW0.out.cells 0 (by simp)
      have c0 : X1.cell? ⟨g, j * 2, none⟩ = some (u0) := c0
      have f0 : X1.frozen? ⟨g, j * 2, none⟩ = false := HW0.out.soft _
      have c1 := HW0.out.cells 1 (by simp)
      have c1 : X1.cell? ⟨g, j * 2 + 1, none⟩ = some (u1) := c1
      have f1 : X1.frozen? ⟨g, j * 2 + 1, none⟩ = false := HW0.out.soft _
      go_wp2_with fail
      refine (HM1.out X1 S1 u1 a1 (k + c + m0) _ (by omega) HQ1.out hl1 hz1 (by omega) (by rw [Hm1.out]; omega)).mono ?_
      rintro e X2 ⟨rfl, q1, ht⟩
      have HW1 := Lib.hid (HW0.out.same (ht.block _ HW0.out.lt (fun z => hSr (i1 g z)))); have HR1 := Lib.hid (HR0.out.turn (by rw [mkTo_length _ _ _ hj]; exact hlt) (ht.wide i1)); have HT1 := Lib.hid (HT0.out.trans (ht.wide (fun z y => hSub z (i1 z y))))
      have HP0 := Lib.hid (HQ0.out.frame (ht.same (d0_1)))
      have HP1 := Lib.hid q1; clear q1
      clear ht HW0 HR0 HT0 HQ0 HQ1
      have HW0 := HW1; have HR0 := HR1; have HT0 := HT1; clear HW1 HR1 HT1
      have HQ0 := HP0; clear HP0
      have HQ1 := HP1; clear HP1
      rw [Hm1.out]
      try clear c0; try clear f0; try clear c1; try clear f1
      have c0 := HW0.out.cells 0 (by simp)
      have c0 : X2.cell? ⟨g, j * 2, none⟩ = some (u0) := c0
      have f0 : X2.frozen? ⟨g, j * 2, none⟩ = false := HW0.out.soft _
      have c1 := HW0.out.cells 1 (by simp)
      have c1 : X2.cell? ⟨g, j * 2 + 1, none⟩ = some (u1) := c1
      have f1 : X2.frozen? ⟨g, j * 2 + 1, none⟩ = false := HW0.out.soft _
      go_wp2
      go_roundw
      case rel =>
        refine ⟨j + 1, by omega, by go_num, ?_, mk_close (cs := [u0, u1]) HR0.out hlt hcap (RowAt.cong HW0.out ?_) ?_, HT0.out⟩
        · rw [HCs.out, HX.out, hct]; first | (congr 1; done) | (congr 1; omega)
        · simp only [List.set_cons_zero, List.set_cons_succ, List.cons.injEq, Value.int.injEq, Value.bool.injEq, true_and, and_true]
          first | done | omega | (refine ⟨?_, ?_⟩ <;> first | omega | (rw [Bool.eq_iff_iff]; simp; omega)) | (rw [Bool.eq_iff_iff]; simp; omega)
        · rw [Hc.out, HX.out]
          have e0 := Hm0.out
          have e1 := Hm1.out
          subst e0 e1
          exact entry_pack (mkAll rdnE (k + c) a0) (mkAll attrE (k + c + (cntL rdnE a0)) a1) _ _ S0 S1 ⟨HQ0.out, i0, HQ1.out, i1, d0_1, trivial⟩
      case measure => simp [intOf]; omega
    · have e : j = d.length := by omega
      subst e
      have HOO : Hid (SlOwn entryE S wr (mkAll entryE k d) (.slice ao d.length cap)) := Lib.hid (by have := HO.out; rw [mkTo_all] at this; exact this)
      have hce : cntL entryE (d.take d.length) = cntL entryE d := by rw [List.take_length]
      rw [hce]
      go_wp2
      go_ret
      exact ⟨rfl, HOO.out, HT.out⟩
end Go.Proofs.Ytlgafmgohinkbaa
/- The helpers of the laws: marks. -/
namespace Go.Proofs.Ytlgafmgohinkbaa
open Go.RowKit
attribute [local go_sem ↓] Go.wp_at_zero Go.wp_at_succ

set_option maxRecDepth 100000 in
set_option maxHeartbeats 4000000 in
theorem markTree_fl (a0 : (List ClassT)) (a1 : (List EntryT)) (u0 u1 : Value) (S0 S1 : Bs) (k : Nat) (w : World) (q0 : SlOwn classE S0 w a0 u0) (l0 : a0.length ≤ 1048576) (z0 : szL classE a0 ≤ 1048576) (q1 : SlOwn entryE S1 w a1 u1) (l1 : a1.length ≤ 1048576) (z1 : szL entryE a1 ≤ 1048576) (d0_1 : ∀ b, S0 b → ¬ S1 b) (y0 : ∀ b, S0 b → b < w.heap.size) (y1 : ∀ b, S1 b → b < w.heap.size) (hk1 : 0 < k) (hk2 : k + cntL classE a0 + cntL entryE a1 ≤ 1000000000) :
    Calls Try.prog 41 #[.agg #[u0, u1], .int .i64 k] w fun e w' => e = .returned (.int .i64 ((k + cntL classE a0 + cntL entryE a1 : Nat) : Int)) ∧ SlOwn classE S0 w' (mkAll classE (k) a0) u0 ∧ SlOwn entryE S1 w' (mkAll entryE (k + cntL classE a0) a1) u1 ∧ Turn (fun b => S0 b ∨ S1 b) w w' := by
  have C0 : Hid (∀ (X : World) (V : List ClassT) (m : Nat) (q : Int), q = (m : Int) → SlOwn classE S0 X V u0 → V.length ≤ 1048576 → szL classE V ≤ 1048576 → 0 < m → m + cntL classE V ≤ 1000000000 → Calls Try.prog 40 #[u0, .int .i64 q] X fun e w' => e = .returned (.int .i64 ((m + cntL classE V : Nat) : Int)) ∧ SlOwn classE S0 w' (mkAll classE m V) u0 ∧ Turn S0 X w') := Lib.hid (fun X V m q e h h0 hz h1 h2 => by subst e; exact markClassS_at u0 V m X h h0 hz h1 h2)
  have C1 : Hid (∀ (X : World) (V : List EntryT) (m : Nat) (q : Int), q = (m : Int) → SlOwn entryE S1 X V u1 → V.length ≤ 1048576 → szL entryE V ≤ 1048576 → 0 < m → m + cntL entryE V ≤ 1000000000 → Calls Try.prog 32 #[u1, .int .i64 q] X fun e w' => e = .returned (.int .i64 ((m + cntL entryE V : Nat) : Int)) ∧ SlOwn entryE S1 w' (mkAll entryE m V) u1 ∧ Turn S1 X w') := Lib.hid (fun X V m q e h h0 hz h1 h2 => by subst e; exact markEntryS_at u1 V m X h h0 hz h1 h2)
  have Q0 := Lib.hid q0
  obtain ⟨o0, k0, rfl⟩ := q0.at.sl
  clear q0
  have Q1 := Lib.hid q1
  obtain ⟨o1, k1, rfl⟩ := q1.at.sl
  clear q1
  go_enter Try.func41, Try.ntmps41
  go_wp2_with fail
  refine calls_by (fun W => Below w.heap.size w W ∧ Blk W w.heap.size [.slice o0 a0.length k0, .slice o1 a1.length k1]) ⟨more' (Below.refl _ _) _, Blk.new _ _ _⟩ ?_
  rintro W0 ⟨b0, t0⟩
  have R0 := Lib.hid (Q0.out.frame (Same.of_below' b0)); clear Q0; have Q0 := R0; clear R0
  have R1 := Lib.hid (Q1.out.frame (Same.of_below' b0)); clear Q1; have Q1 := R1; clear R1
  have T0 := Lib.hid t0; have M0 : Hid (Turn (fun b => S0 b ∨ S1 b) w W0) := Lib.hid (Turn.of_below b0); clear b0
  clear t0
  generalize hm0 : cntL classE a0 = m0 at *
  have Hm0 := Lib.hid hm0; clear hm0
  generalize hm1 : cntL entryE a1 = m1 at *
  have Hm1 := Lib.hid hm1; clear hm1
  refine (C0.out W0 a0 (k) _ (by omega) Q0.out l0 z0 (by omega) (by rw [Hm0.out]; omega)).mono ?_
  rintro e W1 ⟨rfl, q0, ht⟩
  rw [Hm0.out]
  have R0 := Lib.hid q0
  have R1 := Lib.hid (Q1.out.frame (ht.same (fun z p r => by first | exact d0_1 z r p)))
  have T1 := Lib.hid (show Blk W1 w.heap.size _ from by obtain ⟨T, h⟩ := T0.out; exact ⟨T, (ht.block _ T0.out.lt (fun r => by first | (have := y0 _ r; omega))).trans h⟩)
  have M1 := Lib.hid (M0.out.trans (ht.wide (fun z r => by simp [r])))
  clear ht T0 M0 Q0 Q1 q0
  have Q0 := R0; clear R0
  have Q1 := R1; clear R1
  have c0 := T1.out.cell 0 rfl
  have c1 := T1.out.cell 1 rfl
  go_wp2_with fail
  refine (C1.out W1 a1 (k + m0) _ (by omega) Q1.out l1 z1 (by omega) (by rw [Hm1.out]; omega)).mono ?_
  rintro e W2 ⟨rfl, q1, ht⟩
  rw [Hm1.out]
  have R0 := Lib.hid (Q0.out.frame (ht.same (fun z p r => by first | exact d0_1 z p r)))
  have R1 := Lib.hid q1
  have T2 := Lib.hid (show Blk W2 w.heap.size _ from by obtain ⟨T, h⟩ := T1.out; exact ⟨T, (ht.block _ T1.out.lt (fun r => by first | (have := y1 _ r; omega))).trans h⟩)
  have M2 := Lib.hid (M1.out.trans (ht.wide (fun z r => by simp [r])))
  clear ht T1 M1 Q0 Q1 q1 c0 c1
  have Q0 := R0; clear R0
  have Q1 := R1; clear R1
  go_wp2
  go_ret
  have e0 := Hm0.out
  subst e0
  have e1 := Hm1.out
  subst e1
  exact ⟨ret_int (by omega), Q0.out, Q1.out, M2.out⟩
end Go.Proofs.Ytlgafmgohinkbaa
/- The helpers of the laws: marks asked. -/
namespace Go.Proofs.Ytlgafmgohinkbaa
open Go.RowKit
attribute [local go_sem ↓] Go.wp_at_zero Go.wp_at_succ

set_option maxRecDepth 100000 in
set_option maxHeartbeats 4000000 in
theorem heldStringS_at {S : Bs} (v : Value) (d : List ByteArray) (k : Nat) (w : World) (h : SlAt strE S w (mkAll strE k d) v) (hl : d.length ≤ 1048576) (hz : szL strE d ≤ 1048576) (hk1 : 0 < k) (hk2 : k + cntL strE d ≤ 1000000000) :
    Calls Try.prog 21 #[v, .int .i64 k] w fun e w' => e = .returned (.int .i64 ((k + cntL strE d : Nat) : Int)) ∧ Below w.heap.size w w' := by
  obtain ⟨ao, cap, rfl⟩ := h.sl
  have hml := mkAll_length strE k d
  rw [hml]
  rw [hml] at h
  have HS := Lib.hid h; clear h
  have HTx : Hid (∀ (X : World) (m : Nat) (q : Int), q = (m : Int) → 0 < m → m ≤ 1000000000 → Calls Try.prog 80 #[.int .i64 q] X fun e w' => e = .returned (.string (mkT m)) ∧ Below X.heap.size X w') := Lib.hid (fun X m q e h1 h2 => by subst e; exact markText_any m X h1 h2)
  go_enter Try.func21, Try.ntmps21
  go_wp2
  go_loopw [1, 5] (fun t i wr => ∃ j : Nat, j ≤ d.length ∧ i = .int .i64 j ∧ t = .int .i64 ((k + cntL strE (d.take j) : Nat) : Int) ∧ Below w.heap.size w wr) (fun _ i _ => d.length - (intOf i).toNat)
  case atStart => exact ⟨0, Nat.zero_le _, rfl, by simp [cntL], Below.refl _ _⟩
  case round =>
    obtain ⟨j, hj, rfl, rfl, hbel⟩ := hrel
    have hcl := cntL_take_le strE d j
    by_cases hlt : j < d.length
    · obtain ⟨b, off, x0, rfl, _, hb0, hx, hc0⟩ := str_row (HS.out.frame (Same.of_below' hbel)) (k := j) (by rw [hml]; exact hlt)
      have HCs := Lib.hid (cntL_take strE d j hlt)
      have hcs : cntL strE (d.take j) + (strE).cnt d[j] ≤ cntL strE d := by have := cntL_take_le strE d (j + 1); rw [HCs.out] at this; exact this
      rw [mkAll_get strE k d j hlt] at hx
      have hx : mkT (k + cntL strE (d.take j)) = x0 := hx
      subst hx
      have hct : strE.cnt d[j] = 1 := rfl
      rw [hct] at hcs
      generalize d[j] = a0 at *
      generalize hc' : cntL strE (d.take j) = c at *
      clear hc'
      have SK : Hid (∀ W : World, Below wr.heap.size wr W → (Below wr.heap.size wr W ∧ W.cell? ⟨b, off + j, none⟩ = some (.string (mkT (k + c))))) := Lib.hid (fun W h => ⟨h, (h.cell (p := ⟨b, _, none⟩) hb0).trans hc0⟩)
      have hw0 : Below wr.heap.size wr wr := Below.refl _ _
      have hbd : Below wr.heap.size wr wr.drew := hw0.drew
      have HBl := Lib.hid hbel
      clear hbel hc0
      have g1 : (0 : Int) ≤ (j : Int) := by omega
      have g2 : (j : Int) < (d.length : Int) := by omega
      have HT1 : Hid (∀ (X : World) (q : Int), q = ((k + c : Nat) : Int) → Below wr.heap.size wr X → Calls Try.prog 80 #[.int .i64 q] X fun e w' => e = .returned (.string (mkT (k + c))) ∧ Below wr.heap.size wr w') := Lib.hid (fun X q e h => (HTx.out X (k + c) q e (by omega) (by omega)).mono fun _ _ z => ⟨z.1, h.trans (z.2.mono h.size)⟩)
      have hkk : ((mkT (k + c)).toList == (mkT (k + c)).toList) = true := by simp
      generalize mkT (k + c) = A0 at *
      go_wp2_with fail
      go_region_held3 (fun W => Below wr.heap.size wr W ∧ W.cell? ⟨b, off + j, none⟩ = some (.string A0))
        (exact SK.out _ (by assumption))
        (first | (go_at_call 80; refine (HT1.out _ _ (by omega) (by assumption)).mono ?_; rintro e X1 ⟨rfl, hx1⟩) | (fail "none"))
      clear HT1 hkk
      go_wp2
      go_roundw
      case rel => exact ⟨j + 1, by omega, by go_num, by rw [HCs.out, hct]; first | (congr 1; done) | (congr 1; omega), HBl.out.trans (hx1.mono HBl.out.size)⟩
      case measure => simp [intOf]; omega
    · have e : j = d.length := by omega
      subst e
      have hce : cntL strE (d.take d.length) = cntL strE d := by rw [List.take_length]
      rw [hce]
      go_wp2
      go_ret
      exact ⟨rfl, hbel⟩
end Go.Proofs.Ytlgafmgohinkbaa
/- The helpers of the laws: marks asked. -/
namespace Go.Proofs.Ytlgafmgohinkbaa
open Go.RowKit
attribute [local go_sem ↓] Go.wp_at_zero Go.wp_at_succ

set_option maxRecDepth 100000 in
set_option maxHeartbeats 4000000 in
theorem heldClassS_at {S : Bs} (v : Value) (d : List ClassT) (k : Nat) (w : World) (h : SlAt classE S w (mkAll classE k d) v) (hl : d.length ≤ 1048576) (hz : szL classE d ≤ 1048576) (hk1 : 0 < k) (hk2 : k + cntL classE d ≤ 1000000000) :
    Calls Try.prog 104 #[v, .int .i64 k] w fun e w' => e = .returned (.int .i64 ((k + cntL classE d : Nat) : Int)) ∧ Below w.heap.size w w' := by
  obtain ⟨ao, cap, rfl⟩ := h.sl
  have hml := mkAll_length classE k d
  rw [hml]
  rw [hml] at h
  have HS := Lib.hid h; clear h
  have HTx : Hid (∀ (X : World) (m : Nat) (q : Int), q = (m : Int) → 0 < m → m ≤ 1000000000 → Calls Try.prog 80 #[.int .i64 q] X fun e w' => e = .returned (.string (mkT m)) ∧ Below X.heap.size X w') := Lib.hid (fun X m q e h1 h2 => by subst e; exact markText_any m X h1 h2)
  have HM1 : Hid (∀ (X : World) (u : Value) (V : List ByteArray) (m : Nat) (q : Int), q = (m : Int) → SlAt strE S X (mkAll strE m V) u → V.length ≤ 1048576 → szL strE V ≤ 1048576 → 0 < m → m + cntL strE V ≤ 1000000000 → Calls Try.prog 21 #[u, .int .i64 q] X fun e w' => e = .returned (.int .i64 ((m + cntL strE V : Nat) : Int)) ∧ Below X.heap.size X w') := Lib.hid (fun X u V m q e h h0 hz h1 h2 => by subst e; exact heldStringS_at u V m X h h0 hz h1 h2)
  have HM2 : Hid (∀ (X : World) (u : Value) (V : List ByteArray) (m : Nat) (q : Int), q = (m : Int) → SlAt strE S X (mkAll strE m V) u → V.length ≤ 1048576 → szL strE V ≤ 1048576 → 0 < m → m + cntL strE V ≤ 1000000000 → Calls Try.prog 21 #[u, .int .i64 q] X fun e w' => e = .returned (.int .i64 ((m + cntL strE V : Nat) : Int)) ∧ Below X.heap.size X w') := Lib.hid (fun X u V m q e h h0 hz h1 h2 => by subst e; exact heldStringS_at u V m X h h0 hz h1 h2)
  have HM3 : Hid (∀ (X : World) (u : Value) (V : List ByteArray) (m : Nat) (q : Int), q = (m : Int) → SlAt strE S X (mkAll strE m V) u → V.length ≤ 1048576 → szL strE V ≤ 1048576 → 0 < m → m + cntL strE V ≤ 1000000000 → Calls Try.prog 21 #[u, .int .i64 q] X fun e w' => e = .returned (.int .i64 ((m + cntL strE V : Nat) : Int)) ∧ Below X.heap.size X w') := Lib.hid (fun X u V m q e h h0 hz h1 h2 => by subst e; exact heldStringS_at u V m X h h0 hz h1 h2)
  go_enter Try.func104, Try.ntmps104
  go_wp2
  go_loopw [1, 5] (fun t i wr => ∃ j : Nat, j ≤ d.length ∧ i = .int .i64 j ∧ t = .int .i64 ((k + cntL classE (d.take j) : Nat) : Int) ∧ Below w.heap.size w wr) (fun _ i _ => d.length - (intOf i).toNat)
  case atStart => exact ⟨0, Nat.zero_le _, rfl, by simp [cntL], Below.refl _ _⟩
  case round =>
    obtain ⟨j, hj, rfl, rfl, hbel⟩ := hrel
    have hcl := cntL_take_le classE d j
    by_cases hlt : j < d.length
    · obtain ⟨b, off, x0, x1, x2, x3, u1, u2, u3, rfl, _, hb0, hx, hc, q1, q2, q3, _⟩ := class_row (HS.out.frame (Same.of_below' hbel)) (k := j) (by rw [hml]; exact hlt)
      have HCs := Lib.hid (cntL_take classE d j hlt)
      have hcs : cntL classE (d.take j) + (classE).cnt d[j] ≤ cntL classE d := by have := cntL_take_le classE d (j + 1); rw [HCs.out] at this; exact this
      rw [mkAll_get classE k d j hlt] at hx
      rcases hd : d[j] with ⟨a0, a1, a2, a3⟩
      rw [hd] at hx hcs
      have HX := Lib.hid hd
      have hct : (classE).cnt (a0, a1, a2, a3) = 1 + (cntL strE a1 + (cntL strE a2 + (cntL strE a3))) := rfl
      rw [hct] at hcs
      have hl1 : a1.length ≤ 1048576 := by have := szL_mem classE (List.getElem_mem hlt); rw [hd] at this; have h2 : (classE).sz (a0, a1, a2, a3) = a0.size + ((a1.length + szL strE a1) + ((a2.length + szL strE a2) + ((a3.length + szL strE a3)))) := rfl; rw [h2] at this; omega
      have hz1 : szL strE a1 ≤ 1048576 := by have := szL_mem classE (List.getElem_mem hlt); rw [hd] at this; have h2 : (classE).sz (a0, a1, a2, a3) = a0.size + ((a1.length + szL strE a1) + ((a2.length + szL strE a2) + ((a3.length + szL strE a3)))) := rfl; rw [h2] at this; omega
      have hl2 : a2.length ≤ 1048576 := by have := szL_mem classE (List.getElem_mem hlt); rw [hd] at this; have h2 : (classE).sz (a0, a1, a2, a3) = a0.size + ((a1.length + szL strE a1) + ((a2.length + szL strE a2) + ((a3.length + szL strE a3)))) := rfl; rw [h2] at this; omega
      have hz2 : szL strE a2 ≤ 1048576 := by have := szL_mem classE (List.getElem_mem hlt); rw [hd] at this; have h2 : (classE).sz (a0, a1, a2, a3) = a0.size + ((a1.length + szL strE a1) + ((a2.length + szL strE a2) + ((a3.length + szL strE a3)))) := rfl; rw [h2] at this; omega
      have hl3 : a3.length ≤ 1048576 := by have := szL_mem classE (List.getElem_mem hlt); rw [hd] at this; have h2 : (classE).sz (a0, a1, a2, a3) = a0.size + ((a1.length + szL strE a1) + ((a2.length + szL strE a2) + ((a3.length + szL strE a3)))) := rfl; rw [h2] at this; omega
      have hz3 : szL strE a3 ≤ 1048576 := by have := szL_mem classE (List.getElem_mem hlt); rw [hd] at this; have h2 : (classE).sz (a0, a1, a2, a3) = a0.size + ((a1.length + szL strE a1) + ((a2.length + szL strE a2) + ((a3.length + szL strE a3)))) := rfl; rw [h2] at this; omega
      have hm : ((x0, x1, x2, x3) : ClassT) = (mkT (k + cntL classE (d.take j)), mkAll strE (k + cntL classE (d.take j) + 1) a1, mkAll strE (k + cntL classE (d.take j) + 1 + cntL strE a1) a2, mkAll strE (k + cntL classE (d.take j) + 1 + cntL strE a1 + cntL strE a2) a3) := hx.symm.trans rfl
      simp only [Prod.mk.injEq] at hm
      obtain ⟨rfl, rfl, rfl, rfl⟩ := hm
      clear hx hd
      have HQ1 := Lib.hid q1; clear q1
      have HQ2 := Lib.hid q2; clear q2
      have HQ3 := Lib.hid q3; clear q3
      generalize hc' : cntL classE (d.take j) = c at *
      clear hc'
      generalize hm1 : cntL strE a1 = m1 at *
      have Hm1 := Lib.hid hm1; clear hm1
      generalize hm2 : cntL strE a2 = m2 at *
      have Hm2 := Lib.hid hm2; clear hm2
      generalize hm3 : cntL strE a3 = m3 at *
      have Hm3 := Lib.hid hm3; clear hm3
      have SK : Hid (∀ W : World, Below wr.heap.size wr W → (Below wr.heap.size wr W ∧ W.cell? ⟨b, off + j * 4, none⟩ = some (.string (mkT (k + c))) ∧ W.cell? ⟨b, off + j * 4 + 1, none⟩ = some (u1) ∧ W.cell? ⟨b, off + j * 4 + 2, none⟩ = some (u2) ∧ W.cell? ⟨b, off + j * 4 + 3, none⟩ = some (u3))) := Lib.hid (fun W h => ⟨h, (h.cell (p := ⟨b, _, none⟩) hb0).trans hc.1, (h.cell (p := ⟨b, _, none⟩) hb0).trans hc.2.1, (h.cell (p := ⟨b, _, none⟩) hb0).trans hc.2.2.1, (h.cell (p := ⟨b, _, none⟩) hb0).trans hc.2.2.2⟩)
      have hw0 : Below wr.heap.size wr wr := Below.refl _ _
      have hbd : Below wr.heap.size wr wr.drew := hw0.drew
      have HBl := Lib.hid hbel
      clear hbel hc
      have g1 : (0 : Int) ≤ (j : Int) := by omega
      have g2 : (j : Int) < (d.length : Int) := by omega
      have HT1 : Hid (∀ (X : World) (q : Int), q = ((k + c : Nat) : Int) → Below wr.heap.size wr X → Calls Try.prog 80 #[.int .i64 q] X fun e w' => e = .returned (.string (mkT (k + c))) ∧ Below wr.heap.size wr w') := Lib.hid (fun X q e h => (HTx.out X (k + c) q e (by omega) (by omega)).mono fun _ _ z => ⟨z.1, h.trans (z.2.mono h.size)⟩)
      have hkk : ((mkT (k + c)).toList == (mkT (k + c)).toList) = true := by simp
      generalize mkT (k + c) = A0 at *
      go_wp2_with fail
      go_region_held3 (fun W => Below wr.heap.size wr W ∧ W.cell? ⟨b, off + j * 4, none⟩ = some (.string A0) ∧ W.cell? ⟨b, off + j * 4 + 1, none⟩ = some (u1) ∧ W.cell? ⟨b, off + j * 4 + 2, none⟩ = some (u2) ∧ W.cell? ⟨b, off + j * 4 + 3, none⟩ = some (u3))
        (exact SK.out _ (by assumption))
        (first | (go_at_call 80; refine (HT1.out _ _ (by omega) (by assumption)).mono ?_; rintro e X1 ⟨rfl, hx1⟩) | (fail "none"))
      clear HT1 hkk
      have HN := Lib.hid (HM1.out X1 u1 a1 (k + c + 1) _ rfl (HQ1.out.frame (Same.of_below' hx1)) hl1 hz1 (by omega) (by rw [Hm1.out]; omega))
      rw [Hm1.out] at HN
      obtain ⟨_, c0, c1, c2, c3⟩ := SK.out X1 hx1
      have hq : ¬ ((k + c + 1 + m1 : Nat) : Int) < 0 := by omega
      obtain ⟨p1, n1, j1, rfl⟩ : ∃ p n j, u1 = .slice p n j := by obtain ⟨p, j, z⟩ := HQ1.out.sl; exact ⟨p, _, j, z⟩
      go_wp2_with fail
      refine (calls_int HN.out (by omega)).mono ?_
      rintro e X2 ⟨rfl, hb⟩
      have hx2 := hx1.trans (hb.mono hx1.size)
      clear HN hb c0 c1 c2 c3
      have HN := Lib.hid (HM2.out X2 u2 a2 (k + c + 1 + m1) _ rfl (HQ2.out.frame (Same.of_below' hx2)) hl2 hz2 (by omega) (by rw [Hm2.out]; omega))
      rw [Hm2.out] at HN
      obtain ⟨_, c0, c1, c2, c3⟩ := SK.out X2 hx2
      have hq : ¬ ((k + c + 1 + m1 + m2 : Nat) : Int) < 0 := by omega
      obtain ⟨p2, n2, j2, rfl⟩ : ∃ p n j, u2 = .slice p n j := by obtain ⟨p, j, z⟩ := HQ2.out.sl; exact ⟨p, _, j, z⟩
      go_wp2_with fail
      refine (calls_int HN.out (by omega)).mono ?_
      rintro e X3 ⟨rfl, hb⟩
      have hx3 := hx2.trans (hb.mono hx2.size)
      clear HN hb c0 c1 c2 c3
      have HN := Lib.hid (HM3.out X3 u3 a3 (k + c + 1 + m1 + m2) _ rfl (HQ3.out.frame (Same.of_below' hx3)) hl3 hz3 (by omega) (by rw [Hm3.out]; omega))
      rw [Hm3.out] at HN
      obtain ⟨_, c0, c1, c2, c3⟩ := SK.out X3 hx3
      have hq : ¬ ((k + c + 1 + m1 + m2 + m3 : Nat) : Int) < 0 := by omega
      obtain ⟨p3, n3, j3, rfl⟩ : ∃ p n j, u3 = .slice p n j := by obtain ⟨p, j, z⟩ := HQ3.out.sl; exact ⟨p, _, j, z⟩
      go_wp2_with fail
      refine (calls_int HN.out (by omega)).mono ?_
      rintro e X4 ⟨rfl, hb⟩
      have hx4 := hx3.trans (hb.mono hx3.size)
      clear HN hb c0 c1 c2 c3
      go_wp2
      go_roundw
      case rel => exact ⟨j + 1, by omega, by go_num, by rw [HCs.out, HX.out, hct]; first | (congr 1; done) | (congr 1; omega), HBl.out.trans (hx4.mono HBl.out.size)⟩
      case measure => simp [intOf]; omega
    · have e : j = d.length := by omega
      subst e
      have hce : cntL classE (d.take d.length) = cntL classE d := by rw [List.take_length]
      rw [hce]
      go_wp2
      go_ret
      exact ⟨rfl, hbel⟩
end Go.Proofs.Ytlgafmgohinkbaa
