/- Merged texts: MdS, szString, szMod, toMod, eqString, eqMod, ModRightW, Opn. -/
import Derived.Test.YtlgafmgohinkbaaM7
import Derived.Test.YtlgafmgohinkbaaM4
import Derived.Test.YtlgafmgohinkbaaM2
import Derived.Laws.MakeOwn
import Derived.SliceStrings
import Derived.Test.YtlgafmgohinkbaaM1
import Derived.Test.YtlgafmgohinkbaaRows
/- ModRight: what the specification returns. -/
namespace Go.Proofs.Ytlgafmgohinkbaa
open Go.RowKit
attribute [local go_sem ↓] Go.wp_at_zero Go.wp_at_succ

set_option maxRecDepth 100000 in
set_option maxHeartbeats 2000000 in
theorem SpecModRight_any {S : Bs} (k : Int) (nm : ByteArray) (V : List ByteArray) (v : Value) (w : World) (hV : SlAt strE S w V v) (hz : modE.sz (k, nm, V) ≤ 1048576) :
    Calls Try.prog 23 #[.agg #[.int .i64 k, .string nm, v]] w fun e w' => e = .returned (.bool (modB k nm V)) ∧ Below w.heap.size w w' := by
  have HE : modE.sz (k, nm, V) = 0 + (nm.size + (V.length + szL strE V)) := rfl
  rw [HE] at hz
  obtain ⟨o, c, rfl⟩ := hV.sl
  have hcap := hV.cap
  have CI : Hid (∀ W : World, Calls Try.prog 82 #[.int .i64 k, .int .i64 1, .int .i64 3] W fun e w' => e = .returned (.bool (decide (1 ≤ k) && decide (k ≤ 3))) ∧ w' = W) := Lib.hid (fun W => l02Is_any k 1 3 W)
  have CN : Hid (∀ W : World, Calls Try.prog 58 #[.string nm] W fun e w' => e = .returned (.bool (nmL nm)) ∧ W = w') := Lib.hid (fun W => SpecNameRight_any nm W (by unfold maxLen; omega))
  have CC : Hid (∀ W : World, Below w.heap.size w W → Calls Try.prog 83 #[.slice o V.length c] W fun e w' => e = .returned (.bool (canB V)) ∧ Below W.heap.size W w') := Lib.hid (fun W b => l03New_any o V c W ⟨(strs_of hV).below b, hcap.2.1, hcap.2.2⟩ (fits_str (by omega)))
  have HB : Hid (modB k nm V = ((decide (1 ≤ k) && decide (k ≤ 3)) && (nmL nm && (canB V && (decide (V ≠ []) || (k == 3)))))) := Lib.hid rfl
  have hl : V.length ≤ 1048576 := by omega
  have HV0 : Hid (decide (V ≠ []) = decide (0 < V.length)) := Lib.hid (by cases V <;> simp)
  clear hV hz HE hcap
  rw [HV0.out] at HB
  clear HV0
  generalize modB k nm V = R at *
  generalize nmL nm = n1 at *
  generalize canB V = n2 at *
  generalize V.length = L at *
  generalize (decide (1 ≤ k) && decide (k ≤ 3)) = n0 at *
  go_enter Try.func23, Try.ntmps23
  go_wp2_with fail
  refine calls_by (fun W => Below w.heap.size w W ∧ Blk W w.heap.size [.int .i64 k, .string nm, .slice o L c]) ⟨more' (Below.refl _ _) _, Blk.new _ _ _⟩ ?_
  rintro W1 ⟨b1, t1⟩
  refine (CI.out W1).mono ?_
  rintro e w2 ⟨rfl, rfl⟩
  have T1 := Lib.hid t1; clear t1
  cases n0
  · have HR : Hid (R = false) := Lib.hid (by rw [HB.out]; rfl)
    go_wp2
    go_ret
    exact ⟨ret_bool HR.out.symm, b1⟩
  have m1 := T1.out.cell 1 rfl
  go_wp2_with fail
  refine (CN.out _).mono ?_
  rintro e w2 ⟨rfl, rfl⟩
  cases n1
  · have HR : Hid (R = false) := Lib.hid (by rw [HB.out]; rfl)
    go_wp2
    go_ret
    exact ⟨ret_bool HR.out.symm, b1⟩
  have m2 := T1.out.cell 2 rfl
  go_wp2_with fail
  refine (CC.out _ b1).mono ?_
  rintro e w3 ⟨rfl, hb⟩
  have b3 := b1.trans (hb.mono b1.size); have T3 := Lib.hid (T1.out.below hb)
  clear hb m1 m2 T1
  cases n2
  · have HR : Hid (R = false) := Lib.hid (by rw [HB.out]; rfl)
    go_wp2
    go_ret
    exact ⟨ret_bool HR.out.symm, b3⟩
  have HR : Hid (R = (decide (0 < L) || (k == 3))) := Lib.hid (by rw [HB.out]; rfl)
  have m0 := T3.out.cell 0 rfl; have m2 := T3.out.cell 2 rfl
  by_cases hL : 0 < L
  · have hL' : (0 : Int) < (L : Int) := by omega
    go_wp2
    go_ret
    exact ⟨ret_bool (by rw [HR.out]; simp [hL]), b3⟩
  · have hL' : ¬ (0 : Int) < (L : Int) := by omega
    have hd : decide (0 < L) = false := by simp [hL]
    rw [hd] at HR
    clear hd
    go_wp2
    go_ret
    exact ⟨ret_bool (by rw [HR.out]; rfl), b3⟩
end Go.Proofs.Ytlgafmgohinkbaa
/- The helpers of the laws: sizes. -/
namespace Go.Proofs.Ytlgafmgohinkbaa
open Go.RowKit
attribute [local go_sem ↓] Go.wp_at_zero Go.wp_at_succ

set_option maxRecDepth 100000 in
set_option maxHeartbeats 4000000 in
theorem szStringS_at {S : Bs} (v : Value) (d : List ByteArray) (left : Int) (w : World) (hd : SlAt strE S w d v) (hf : (slE strE).long d) (h0 : 0 ≤ left) (h1 : left ≤ 1048576) :
    Calls Try.prog 81 #[v, .int .i64 left] w fun e w' => e = .returned (.int .i64 (leftR (d.length + szL strE d) left)) ∧ Below w.heap.size w w' := by
  obtain ⟨ao, cap, rfl⟩ := hd.sl
  have hl : d.length ≤ 9223372036854775807 := hf.1
  have HD := Lib.hid hd; have HF := Lib.hid hf; clear hd hf
  by_cases g : (d.length : Int) ≤ left
  · have c1 : ¬ left - (d.length : Int) < 0 := by omega
    go_enter Try.func81, Try.ntmps81
    go_wp2
    go_loopw [1, 5] (fun t i wr => ∃ k : Nat, k ≤ d.length ∧ i = .int .i64 k ∧ ((d.length + szL strE (d.take k) : Nat) : Int) ≤ left ∧ t = .int .i64 (left - (d.length + szL strE (d.take k) : Nat)) ∧ Below w.heap.size w wr) (fun _ i _ => d.length - (intOf i).toNat)
    case atStart => exact ⟨0, Nat.zero_le _, rfl, by simp [szL]; omega, by simp [szL], Below.refl _ _⟩
    case round =>
      clear c1
      obtain ⟨k, hk, rfl, hle, rfl, hbel⟩ := hrel
      have hsz := hbel.size
      by_cases hlt : k < d.length
      · obtain ⟨b, off, A, rfl, _, hb0, hx, hc1⟩ := str_row (HD.out.frame (Same.of_below' hbel)) hlt
        have hz : A.size ≤ maxLen := by have := HF.out.2 _ (List.getElem_mem hlt); rw [hx] at this; exact this
        unfold maxLen at hz
        have HT : Hid (szL strE (d.take (k + 1)) = szL strE (d.take k) + A.size) := Lib.hid (by rw [szL_take strE d k hlt, hx]; rfl)
        have HTl := Lib.hid (szL_le strE d (k + 1))
        clear hx
        generalize hq : d.length + szL strE (d.take k) = q at *
        have Hq := Lib.hid hq; clear hq
        by_cases hfit : ((A.size : Nat) : Int) ≤ left - (q : Int)
        · have c2 : ¬ left - (q : Int) - (A.size : Int) < 0 := by omega
          go_wp2
          go_roundw
          case rel =>
            have e := HT.out
            have e3 := Hq.out
            exact ⟨k + 1, by omega, by go_num, by omega, by rw [e]; congr 1; omega, hbel⟩
          case measure => simp [intOf]; omega
        · have c2 : left - (q : Int) - (A.size : Int) < 0 := by omega
          have HR : Hid (leftR (d.length + szL strE d) left = -1) := Lib.hid (leftR_neg (by
            have := HT.out; have := HTl.out; have := Hq.out; omega))
          go_wp2
          go_ret
          exact ⟨ret_int (by rw [HR.out]), hbel⟩
      · have HR : Hid (leftR (d.length + szL strE d) left = left - (d.length + szL strE (d.take k) : Nat)) := Lib.hid (by
          rw [List.take_of_length_le (by omega)] at hle ⊢
          exact leftR_pos hle)
        go_wp2
        go_ret
        exact ⟨ret_int (by rw [HR.out]), hbel⟩
  · have HR : Hid (leftR (d.length + szL strE d) left = -1) := Lib.hid (leftR_neg (by omega))
    have c1 : left - (d.length : Int) < 0 := by omega
    go_enter Try.func81, Try.ntmps81
    go_wp2
    go_ret
    exact ⟨ret_int (by rw [HR.out]), Below.refl _ _⟩
end Go.Proofs.Ytlgafmgohinkbaa
/- The helpers of the laws: sizes. -/
namespace Go.Proofs.Ytlgafmgohinkbaa
open Go.RowKit
attribute [local go_sem ↓] Go.wp_at_zero Go.wp_at_succ

set_option maxRecDepth 100000 in
set_option maxHeartbeats 4000000 in
theorem szMod_at {S : Bs} (a0 : Int) (a1 : ByteArray) (a2 : (List ByteArray)) (v2 : Value) (left : Int) (w : World) (h2 : SlAt strE S w a2 v2) (hl : modE.long (a0, a1, a2)) (g0 : 0 ≤ left) (g1 : left ≤ 1048576) :
    Calls Try.prog 22 #[.agg #[.int .i64 a0, .string a1, v2], .int .i64 left] w fun e w' => e = .returned (.int .i64 (leftR (modE.sz (a0, a1, a2)) left)) ∧ Below w.heap.size w w' := by
  have HE : Hid (modE.sz (a0, a1, a2) = 0 + (a1.size + ((a2.length + szL strE a2)))) := Lib.hid rfl
  have z1 : a1.size ≤ 9223372036854775807 := by have := hl.2.1; simp only [strE, maxLen] at this; omega
  have C2 : Hid (∀ (l : Int) (W : World), Below w.heap.size w W → 0 ≤ l → l ≤ 1048576 → Calls Try.prog 81 #[v2, .int .i64 l] W fun e w' => e = .returned (.int .i64 (leftR (a2.length + szL strE a2) l)) ∧ Below W.heap.size W w') := Lib.hid (fun l W b p q => szStringS_at v2 a2 l W (h2.frame (Same.of_below' b)) hl.2.2 p q)
  obtain ⟨o2, k2, rfl⟩ := h2.sl
  clear h2
  clear hl
  generalize modE.sz (a0, a1, a2) = z at *
  generalize (a2.length + szL strE a2) = r2 at *
  generalize a2.length = m2 at *
  by_cases g3 : (a1.size : Int) ≤ left
  · have c1 : ¬ left - (a1.size : Int) < 0 := by omega
    go_enter Try.func22, Try.ntmps22
    go_wp2_with fail
    refine calls_by (fun W => Below w.heap.size w W ∧ Blk W w.heap.size [.int .i64 a0, .string a1, .slice o2 m2 k2]) ⟨more' (Below.refl _ _) _, Blk.new _ _ _⟩ ?_
    rintro w1 ⟨b1, t1⟩
    have T1 := Lib.hid t1; clear t1
    refine (C2.out _ w1 b1 (by omega) (by omega)).mono ?_
    rintro e w2 ⟨rfl, hb⟩
    have T2 := Lib.hid (T1.out.below hb); have b2 := b1.trans (hb.mono b1.size)
    clear hb b1 T1 C2
    by_cases g4 : (r2 : Int) ≤ left - (a1.size : Int)
    · rw [leftR_pos g4]
      have c2 : ¬ left - (a1.size : Int) - (r2 : Int) < 0 := by omega
      have q0 := T2.out.cell 0 rfl
      have q1 := T2.out.cell 1 rfl
      have q2 := T2.out.cell 2 rfl
      have HR : Hid (leftR z left = left - (a1.size : Int) - (r2 : Int)) := Lib.hid (by rw [leftR_pos (by rw [HE.out]; omega), HE.out]; omega)
      go_wp2
      go_ret
      exact ⟨ret_int (by rw [HR.out]), b2⟩
    · rw [leftR_neg g4]
      have HR : Hid (leftR z left = -1) := Lib.hid (leftR_neg (by rw [HE.out]; omega))
      go_wp2
      go_ret
      exact ⟨ret_int (by rw [HR.out]), b2⟩
  · have c1 : left - (a1.size : Int) < 0 := by omega
    have HR : Hid (leftR z left = -1) := Lib.hid (leftR_neg (by rw [HE.out]; omega))
    go_enter Try.func22, Try.ntmps22
    go_wp2
    go_ret
    exact ⟨ret_int (by rw [HR.out]), (Below.refl _ _).alloc (Nat.le_refl _) _⟩
end Go.Proofs.Ytlgafmgohinkbaa
/- The helpers of the laws: copies. -/
namespace Go.Proofs.Ytlgafmgohinkbaa
open Go.RowKit
attribute [local go_sem ↓] Go.wp_at_zero Go.wp_at_succ

theorem Try.infoTMod : (Try.prog.info? 38).map (fun i => (i.zero, i.size, i.bytes)) = some (some (.agg #[.int .i64 0, .string ByteArray.empty, .slice none 0 0]), 3, 48) := by kernel_rfl
set_option maxRecDepth 100000 in
set_option maxHeartbeats 4000000 in
theorem toMod_at {S : Bs} (a0 : Int) (a1 : ByteArray) (a2 : (List ByteArray)) (v2 : Value) (w : World) (h2 : SlAt strE S w a2 v2) (hz : modE.sz (a0, a1, a2) ≤ 1048576) :
    Calls Try.prog 24 #[.agg #[.int .i64 a0, .string a1, v2]] w fun e w' => ∃ u2, e = .returned (.agg #[.int .i64 a0, .string a1, u2]) ∧ modE.Own (Fresh w w') w' (a0, a1, a2) [.int .i64 a0, .string a1, u2] ∧ Below w.heap.size w w' := by
  have HE : modE.sz (a0, a1, a2) = 0 + (a1.size + ((a2.length + szL strE a2))) := rfl
  rw [HE] at hz
  have C2 : Hid (∀ W : World, Below w.heap.size w W → Calls Try.prog 84 #[v2] W fun e w' => ∃ u, e = .returned u ∧ SlOwn strE (Fresh W w') w' a2 u ∧ Below W.heap.size W w') := Lib.hid (fun W b => toStringS_at v2 a2 W (h2.frame (Same.of_below' b)) (by omega))
  obtain ⟨o2, k2, rfl⟩ := h2.sl
  clear hz HE h2
  go_enter Try.func24, Try.ntmps24
  go_wp2_with fail
  refine calls_by (fun W => Below w.heap.size w W ∧ Blk W w.heap.size [.int .i64 a0, .string a1, .slice o2 a2.length k2] ∧ Blk W (w.heap.size + 1) [.int .i64 0, .string ⟨#[]⟩, .slice none 0 0] ∧ Blk W (w.heap.size + 1 + 1) [.int .i64 a0, .string a1, .slice none 0 0]) ⟨more' (more' (more' (Below.refl _ _) _) _) _, ((Blk.new _ _ _).alloc _).alloc _, (blk_at _ _ _ (by simp)).alloc _, blk_at _ _ _ (by simp)⟩ ?_
  rintro W0 ⟨b0, t0, r0, s0⟩
  have hn : w.heap.size + 1 + 1 < W0.heap.size := s0.lt
  refine (C2.out W0 b0).mono ?_
  rintro e y1 ⟨u2, rfl, q2, hb⟩
  obtain ⟨p2, j2, rfl⟩ := q2.at.sl
  have T := Lib.hid (t0.below hb); have Rr := Lib.hid (r0.below hb); have U := Lib.hid (s0.below hb); have B := Lib.hid (b0.trans (hb.mono b0.size)); have hs1 := hb.size
  have Q2 := Lib.hid q2
  clear t0 r0 s0 b0 hb q2 C2
  have m0 := T.out.cell 0 rfl
  have c0 := U.out.cell 0 rfl
  have f0 := U.out.soft 0
  have m1 := T.out.cell 1 rfl
  have c1 := U.out.cell 1 rfl
  have f1 := U.out.soft 1
  have m2 := T.out.cell 2 rfl
  have c2 := U.out.cell 2 rfl
  have f2 := U.out.soft 2
  have TE := ((((Rr.out.far (R := w.heap.size + 1 + 1) (j := 2) (by omega) (.slice p2 a2.length j2)).set 0 (.int .i64 a0)).set 1 (.string a1)).set 2 (.slice p2 a2.length j2))
  have d0 := Rr.out.cell 0 rfl
  have g0 := Rr.out.soft 0
  have k100 := TE.cell 0 rfl
  have d1 := Rr.out.cell 1 rfl
  have g1 := Rr.out.soft 1
  have k101 := TE.cell 1 rfl
  have d2 := Rr.out.cell 2 rfl
  have g2 := Rr.out.soft 2
  have k102 := TE.cell 2 rfl
  clear TE
  go_wp2_with fail
  refine bodyPost_ret (v := .agg #[.int .i64 a0, .string a1, .slice p2 a2.length j2]) (by simp [results, Try.results24, go_sem, k100, k101, k102]) rfl ⟨_, rfl, ?_, ?_⟩
  · exact mod_pack a0 a1 a2 _ (Fresh W0 y1) ⟨((((Q2.out.frame (Same.set _ _ _ (by intro h; have := h.1; omega))).frame (Same.set _ _ _ (by intro h; have := h.1; omega))).frame (Same.set _ _ _ (by intro h; have := h.1; omega))).frame (Same.set _ _ _ (by intro h; have := h.1; omega))), (fun k z => ⟨by have := z.1; omega, by have := z.2; show _ < (World.heap _).size; simp only [setCell_size]; omega⟩), trivial⟩
  · exact ((((B.out.setCell (p := ⟨w.heap.size + 1 + 1, 2, none⟩) (by show w.heap.size ≤ w.heap.size + 1 + 1; omega) _).setCell (p := ⟨w.heap.size + 1, 0, none⟩) (by show w.heap.size ≤ w.heap.size + 1; omega) _).setCell (p := ⟨w.heap.size + 1, 1, none⟩) (by show w.heap.size ≤ w.heap.size + 1; omega) _).setCell (p := ⟨w.heap.size + 1, 2, none⟩) (by show w.heap.size ≤ w.heap.size + 1; omega) _)
end Go.Proofs.Ytlgafmgohinkbaa
/- The helpers of the laws: comparisons. -/
namespace Go.Proofs.Ytlgafmgohinkbaa
open Go.RowKit
attribute [local go_sem ↓] Go.wp_at_zero Go.wp_at_succ

set_option maxRecDepth 100000 in
set_option maxHeartbeats 4000000 in
theorem eqStringS_at {S S' : Bs} (v u : Value) (d : List ByteArray) (w : World) (hd : SlAt strE S w d v) (hu : SlAt strE S' w d u) (hz : d.length + szL strE d ≤ 1048576) :
    Calls Try.prog 18 #[v, u] w fun e w' => e = .returned (.bool true) ∧ Below w.heap.size w w' := by
  obtain ⟨ao, ca, rfl⟩ := hd.sl
  obtain ⟨bo, cb, rfl⟩ := hu.sl
  have HA := Lib.hid hd; have HB := Lib.hid hu; clear hd hu
  have HL := Lib.hid hz
  have hl : d.length ≤ 1048576 := by omega
  clear hz
  go_enter Try.func18, Try.ntmps18
  go_wp2
  go_loopw [5] (fun i wr => ∃ k : Nat, k ≤ d.length ∧ i = .int .i64 k ∧ Below w.heap.size w wr) (fun i _ => d.length - (intOf i).toNat)
  case atStart => exact ⟨0, Nat.zero_le _, rfl, Below.refl _ _⟩
  case round =>
    obtain ⟨k, hk, rfl, hbel⟩ := hrel
    have hsz := hbel.size
    by_cases hlt : k < d.length
    · obtain ⟨p, off, A, rfl, _, hp0, hx, c1⟩ := str_row (HA.out.frame (Same.of_below' hbel)) hlt
      obtain ⟨q, off', A', rfl, _, hq0, hx', c2⟩ := str_row (HB.out.frame (Same.of_below' hbel)) hlt
      obtain rfl : A = A' := hx.symm.trans hx'
      clear hx hx'
      have hkk : (A.toList == A.toList) = true := by simp
      have g1 : (0 : Int) ≤ (k : Int) := by omega
      have g2 : (k : Int) < (d.length : Int) := by omega
      have hbd := hbel.drew
      have c1' : wr.drew.cell? ⟨p, off + k, none⟩ = some (.string A) := c1
      have c2' : wr.drew.cell? ⟨q, off' + k, none⟩ = some (.string A) := c2
      go_wp2_with fail
      go_region_held3 (fun W => Below w.heap.size w W ∧ W.cell? ⟨p, off + k, none⟩ = some (.string A) ∧ W.cell? ⟨q, off' + k, none⟩ = some (.string A))
        (first | exact ⟨hbel, c1, c2⟩ | exact ⟨hbd, c1', c2'⟩)
        (fail "none")
      all_goals
        go_wp2
        go_roundw
        case rel => exact ⟨k + 1, by omega, by go_num, by first | exact hbel | exact hbd⟩
        case measure => simp [intOf]; omega
    · go_wp2
      go_ret
      exact ⟨rfl, hbel⟩
end Go.Proofs.Ytlgafmgohinkbaa
/- The helpers of the laws: comparisons. -/
namespace Go.Proofs.Ytlgafmgohinkbaa
open Go.RowKit
attribute [local go_sem ↓] Go.wp_at_zero Go.wp_at_succ

set_option maxRecDepth 100000 in
set_option maxHeartbeats 4000000 in
theorem eqMod_at {S S' : Bs} (w0 : World) (a0 : Int) (a1 : ByteArray) (a2 : (List ByteArray)) (v2 : Value) (u2 : Value) (w : World) (hB : Below w0.heap.size w0 w) (h2 : SlAt strE S w0 a2 v2) (g2 : SlAt strE S' w0 a2 u2) (hz : modE.sz (a0, a1, a2) ≤ 1048576) :
    Calls Try.prog 26 #[.agg #[.int .i64 a0, .string a1, v2], .agg #[.int .i64 a0, .string a1, u2]] w fun e w' => e = .returned (.bool true) ∧ Below w0.heap.size w0 w' := by
  have HE : modE.sz (a0, a1, a2) = 0 + (a1.size + ((a2.length + szL strE a2))) := rfl
  rw [HE] at hz
  have hk0 : (a0 == a0) = true := by simp
  have hj0 : (a0 != a0) = false := by simp
  have hk1 : (a1.toList == a1.toList) = true := by simp
  have C2 : Hid (∀ W : World, Below w0.heap.size w0 W → Calls Try.prog 18 #[v2, u2] W fun e w' => e = .returned (.bool true) ∧ Below W.heap.size W w') := Lib.hid (fun W b => eqStringS_at v2 u2 a2 W (h2.frame (Same.of_below' b)) (g2.frame (Same.of_below' b)) (by omega))
  obtain ⟨o2, k2, rfl⟩ := h2.sl
  obtain ⟨p2, j2, rfl⟩ := g2.sl
  clear hz HE h2 g2
  have HB := Lib.hid hB
  clear hB
  go_enter Try.func26, Try.ntmps26
  go_wp2_with fail
  refine calls_by (fun W => Below w0.heap.size w0 W ∧ Blk W w.heap.size [.int .i64 a0, .string a1, .slice o2 a2.length k2] ∧ Blk W (w.heap.size + 1) [.int .i64 a0, .string a1, .slice p2 a2.length j2]) ⟨more' (more' HB.out _) _, (Blk.new _ _ _).alloc _, blk_at _ _ _ (by simp)⟩ ?_
  rintro W1 ⟨b1, x1, y1⟩
  have X1 := Lib.hid x1; have Y1 := Lib.hid y1; clear x1 y1
  refine (C2.out W1 b1).mono ?_
  rintro e W2 ⟨rfl, hb⟩
  have X2 := Lib.hid (X1.out.below hb); have Y2 := Lib.hid (Y1.out.below hb); have b2 := b1.trans (hb.mono b1.size)
  clear X1 Y1 hb b1 C2
  have m0 := X2.out.cell 0 rfl
  have n0 := Y2.out.cell 0 rfl
  have m1 := X2.out.cell 1 rfl
  have n1 := Y2.out.cell 1 rfl
  have m2 := X2.out.cell 2 rfl
  have n2 := Y2.out.cell 2 rfl
  go_wp2
  go_ret
  exact ⟨rfl, b2⟩
end Go.Proofs.Ytlgafmgohinkbaa
/- The law FnExactModRight: its walk. -/
namespace Go.Proofs.Ytlgafmgohinkbaa
open Go.RowKit
attribute [local go_sem ↓] Go.wp_at_zero Go.wp_at_succ

set_option maxRecDepth 100000 in
set_option maxHeartbeats 4000000 in
theorem ModRight_walk (a0 : Int) (a1 : ByteArray) (a2 : (List ByteArray)) (v2 : Value) (w : World) (h0 : SlAt strE (All w) w a2 v2) (f0 : modE.long (a0, a1, a2)) :
    Calls Try.prog 5 #[.agg #[.int .i64 a0, .string a1, v2]] w fun e w' => e = .returned (.bool true) ∧ Below w.heap.size w w' := by
  have HQ0 : Hid (modE.sz (a0, a1, a2) ≤ 1048576 → ∀ (Y : World) (S S' : Bs) (x2 u2 : Value), SlAt strE S Y a2 x2 → SlAt strE S' Y a2 u2 → Calls Try.prog 26 #[.agg #[.int .i64 a0, .string a1, x2], .agg #[.int .i64 a0, .string a1, u2]] Y fun e w' => e = .returned (.bool true) ∧ Below Y.heap.size Y w') := Lib.hid (fun z Y S S' x2 u2 g2 k2 => eqMod_at Y a0 a1 a2 x2 u2 Y (Below.refl _ _) g2 k2 z)
  have HS0 : Hid (∀ (l : Int) (W : World), Below w.heap.size w W → 0 ≤ l → l ≤ 1048576 → Calls Try.prog 22 #[.agg #[.int .i64 a0, .string a1, v2], .int .i64 l] W fun e w' => e = .returned (.int .i64 (leftR (modE.sz (a0, a1, a2)) l)) ∧ Below W.heap.size W w') := Lib.hid (fun l W b p q => szMod_at a0 a1 a2 v2 l W (h0.frame (Same.of_below' b)) f0 p q)
  have HT0 : Hid (modE.sz (a0, a1, a2) ≤ 1048576 → ∀ Y : World, Below w.heap.size w Y → Calls Try.prog 24 #[.agg #[.int .i64 a0, .string a1, v2]] Y fun e w' => ∃ u2, e = .returned (.agg #[.int .i64 a0, .string a1, u2]) ∧ modE.Own (Fresh Y w') w' (a0, a1, a2) [.int .i64 a0, .string a1, u2] ∧ Below Y.heap.size Y w') := Lib.hid (fun z Y b => toMod_at a0 a1 a2 v2 Y (h0.frame (Same.of_below' b)) z)
  have HSp : Hid (modE.sz (a0, a1, a2) ≤ 1048576 → ∀ (Y : World) (S0 : Bs) (u2 : Value), SlAt strE S0 Y a2 u2 → Calls Try.prog 23 #[.agg #[.int .i64 a0, .string a1, u2]] Y fun e w' => e = .returned (.bool (modB a0 a1 a2)) ∧ Below Y.heap.size Y w') := Lib.hid (fun z0 Y S0 u2 h2 => SpecModRight_any a0 a1 a2 u2 Y h2 z0)
  have HIm : Hid (modE.sz (a0, a1, a2) ≤ 1048576 → ∀ (Y : World) (S0 : Bs) (u2 : Value), SlAt strE S0 Y a2 u2 → Calls Try.prog 25 #[.agg #[.int .i64 a0, .string a1, u2]] Y fun e w' => e = .returned (.bool (modB a0 a1 a2)) ∧ Below Y.heap.size Y w') := Lib.hid (fun z0 Y S0 u2 h2 => ModRight_any a0 a1 a2 u2 Y h2 z0)
  obtain ⟨o2, k2, rfl⟩ := h0.sl
  clear h0 f0
  go_enter Try.func5, Try.ntmps5
  go_wp2_with fail
  refine calls_by (fun W => Below w.heap.size w W ∧ Blk W (w.heap.size) [.int .i64 a0, .string a1, .slice o2 a2.length k2]) ⟨more' (Below.refl _ _) _, Blk.new _ _ _⟩ ?_
  rintro W0 ⟨b0, t0⟩
  have B := Lib.hid b0; clear b0
  have HP0 := Lib.hid t0; clear t0
  refine (HS0.out (1048576) W0 B.out (by omega) (by omega)).mono ?_
  rintro e W1 ⟨rfl, hb⟩
  have P := Lib.hid (HP0.out.below hb); clear HP0; have HP0 := P; clear P
  have B1 := Lib.hid (B.out.trans (hb.mono B.out.size)); clear B; have B := B1; clear B1
  clear hb HS0
  by_cases g0 : ((modE.sz (a0, a1, a2) : Nat) : Int) ≤ 1048576
  rotate_left
  · rw [leftR_neg g0]
    clear g0
    go_wp2
    go_ret
    exact ⟨rfl, B.out⟩
  rw [leftR_pos g0]
  have HZ0 : Hid (modE.sz (a0, a1, a2) ≤ 1048576) := Lib.hid (by omega)
  have p0 : (0 : Int) ≤ ((modE.sz (a0, a1, a2) : Nat) : Int) := by omega
  have c0 : ¬ 1048576 - ((modE.sz (a0, a1, a2) : Nat) : Int) < 0 := by omega
  generalize ((modE.sz (a0, a1, a2) : Nat) : Int) = t0 at *
  have HT := Lib.hid (HT0.out HZ0.out); clear HT0; have HT0 := HT; clear HT
  have HQ := Lib.hid (HQ0.out HZ0.out); clear HQ0; have HQ0 := HQ; clear HQ
  have HS := Lib.hid (HSp.out HZ0.out); have HI := Lib.hid (HIm.out HZ0.out); clear HSp HIm
  generalize (modB a0 a1 a2) = r at *
  have hrr : (r != r) = false := by simp
  have hrq : (r == r) = true := by simp
  have pm0 := HP0.out.cell 0 rfl
  have pm1 := HP0.out.cell 1 rfl
  have pm2 := HP0.out.cell 2 rfl
  go_wp2_with fail
  clear pm0 pm1 pm2
  refine (HT0.out _ B.out).mono ?_
  rintro e W2 ⟨x2, rfl, q, hb⟩
  have P := Lib.hid (HP0.out.below hb); clear HP0; have HP0 := P; clear P
  have B1 := Lib.hid (B.out.trans (hb.mono B.out.size)); clear B; have B := B1; clear B1
  have Qx0 := Lib.hid (modE.ownAt q); clear q hb
  have Z := mod_atp Qx0.out
  obtain ⟨px2, cx2, rfl⟩ := Z.sl
  clear Z
  go_wp2_with fail
  refine (HS.out _ _ _ (mod_atp Qx0.out)).mono ?_
  rintro e W3 ⟨rfl, hb⟩
  clear Qx0
  have P := Lib.hid (HP0.out.below hb); clear HP0; have HP0 := P; clear P
  have B1 := Lib.hid (B.out.trans (hb.mono B.out.size)); clear B; have B := B1; clear B1
  clear hb
  have pm0 := HP0.out.cell 0 rfl
  have pm1 := HP0.out.cell 1 rfl
  have pm2 := HP0.out.cell 2 rfl
  go_wp2_with fail
  clear pm0 pm1 pm2
  refine (HT0.out _ B.out).mono ?_
  rintro e W4 ⟨y2, rfl, q, hb⟩
  have P := Lib.hid (HP0.out.below hb); clear HP0; have HP0 := P; clear P
  have B1 := Lib.hid (B.out.trans (hb.mono B.out.size)); clear B; have B := B1; clear B1
  have Qy0 := Lib.hid (modE.ownAt q); clear q hb
  have Z := mod_atp Qy0.out
  obtain ⟨py2, cy2, rfl⟩ := Z.sl
  clear Z
  go_wp2_with fail
  refine calls_by (fun W => Below W4.heap.size W4 W ∧ Blk W W4.heap.size [.int .i64 a0, .string a1, .slice py2 a2.length cy2]) ⟨more' (Below.refl _ _) _, Blk.new _ _ _⟩ ?_
  rintro V4 ⟨hb, t⟩
  have P := Lib.hid (HP0.out.below hb); clear HP0; have HP0 := P; clear P
  have P := Lib.hid (modE.frame Qy0.out (Same.of_below' hb)); clear Qy0; have Qy0 := P; clear P
  have B1 := Lib.hid (B.out.trans (hb.mono B.out.size)); clear B; have B := B1; clear B1
  clear hb
  have HX0 := Lib.hid t; clear t
  refine (HI.out _ _ _ (mod_atp Qy0.out)).mono ?_
  rintro e W5 ⟨rfl, hb⟩
  have P := Lib.hid (HP0.out.below hb); clear HP0; have HP0 := P; clear P
  have P := Lib.hid (modE.frame Qy0.out (Same.of_below' hb)); clear Qy0; have Qy0 := P; clear P
  have P := Lib.hid (HX0.out.below hb); clear HX0; have HX0 := P; clear P
  have B1 := Lib.hid (B.out.trans (hb.mono B.out.size)); clear B; have B := B1; clear B1
  clear hb
  go_wp2
  have hb : Below W5.heap.size W5 W5.drew := (Below.refl _ _).drew
  have SK : Hid (∀ Z' : World, Below W5.heap.size W5 Z' → Z'.cell? ⟨w.heap.size, 0, none⟩ = some (.int .i64 a0) ∧ Z'.cell? ⟨w.heap.size, 1, none⟩ = some (.string a1) ∧ Z'.cell? ⟨w.heap.size, 2, none⟩ = some (.slice o2 a2.length k2) ∧ Z'.cell? ⟨W4.heap.size, 0, none⟩ = some (.int .i64 a0) ∧ Z'.cell? ⟨W4.heap.size, 1, none⟩ = some (.string a1) ∧ Z'.cell? ⟨W4.heap.size, 2, none⟩ = some (.slice py2 a2.length cy2)) := Lib.hid (fun Z' h => ⟨(HP0.out.below h).cell 0 rfl, (HP0.out.below h).cell 1 rfl, (HP0.out.below h).cell 2 rfl, (HX0.out.below h).cell 0 rfl, (HX0.out.below h).cell 1 rfl, (HX0.out.below h).cell 2 rfl⟩)
  have BD : Below W5.heap.size W5 W5.drew := hb
  have P := Lib.hid (HP0.out.below hb); clear HP0; have HP0 := P; clear P
  have P := Lib.hid (modE.frame Qy0.out (Same.of_below' hb)); clear Qy0; have Qy0 := P; clear P
  have P := Lib.hid (HX0.out.below hb); clear HX0; have HX0 := P; clear P
  have B1 := Lib.hid (B.out.trans (hb.mono B.out.size)); clear B; have B := B1; clear B1
  clear hb
  refine wp_region_held_drew (S := (fun Z' => Z'.cell? ⟨w.heap.size, 0, none⟩ = some (.int .i64 a0) ∧ Z'.cell? ⟨w.heap.size, 1, none⟩ = some (.string a1) ∧ Z'.cell? ⟨w.heap.size, 2, none⟩ = some (.slice o2 a2.length k2) ∧ Z'.cell? ⟨W4.heap.size, 0, none⟩ = some (.int .i64 a0) ∧ Z'.cell? ⟨W4.heap.size, 1, none⟩ = some (.string a1) ∧ Z'.cell? ⟨W4.heap.size, 2, none⟩ = some (.slice py2 a2.length cy2))) (by kernel_rfl) ?_ (fun hHeld => ?_)
  · (try dsimp only)
    first | exact SK.out _ (by assumption) | exact SK.out _ BD
  refine wpAnyH_take (i := 0) (oi := { dst := some 22, op := Op.load 38 (Operand.tmp 5), type := 38, pos := "exact.go:4528", after := #[], guard := none }) (v := ?_) rfl (by kernel_rfl) (by kernel_rfl) (by kernel_rfl) (fun _ _ _ h => h) (Or.inl ⟨by rfl, ?_⟩) (by assumption) ?_
  rotate_left
  · intro w hSw; (try dsimp only at hSw); go_simp; (try with_reducible rfl)
  (try simp only [Act.put, List.setIfInBounds_toArray, List.set_cons_zero, List.set_cons_succ])
  refine wpAnyH_take (i := 1) (oi := { dst := some 23, op := Op.load 35 (Operand.tmp 1), type := 35, pos := "exact.go:4528", after := #[], guard := none }) (v := ?_) rfl (by kernel_rfl) (by kernel_rfl) (by kernel_rfl) (fun _ _ _ h => h) (Or.inl ⟨by rfl, ?_⟩) (by assumption) ?_
  rotate_left
  · intro w hSw; (try dsimp only at hSw); go_simp; (try with_reducible rfl)
  (try simp only [Act.put, List.setIfInBounds_toArray, List.set_cons_zero, List.set_cons_succ])
  refine wpAnyH_ready (rs := [2]) (by kernel_rfl) (by simp) ?_
  refine AllReadyH.cons (o := { dst := some 24, op := Op.call { callee := Callee.value (Operand.func 24), args := #[Operand.tmp 23], argTypes := #[35] }, type := 38, pos := "exact.go:4528", after := #[{ on := 1, ground := Ground.data }], guard := none }) rfl (fun K hK => ?_) (AllReadyH.nil)
  go_simp
  refine (HT0.out _ B.out).mono ?_
  rintro e W6 ⟨z2, rfl, q, hb⟩
  have BD := BD.trans (hb.mono BD.size)
  have P := Lib.hid (HP0.out.below hb); clear HP0; have HP0 := P; clear P
  have P := Lib.hid (modE.frame Qy0.out (Same.of_below' hb)); clear Qy0; have Qy0 := P; clear P
  have P := Lib.hid (HX0.out.below hb); clear HX0; have HX0 := P; clear P
  have B1 := Lib.hid (B.out.trans (hb.mono B.out.size)); clear B; have B := B1; clear B1
  have Qz0 := Lib.hid (modE.ownAt q); clear q hb
  have Z := mod_atp Qz0.out
  obtain ⟨pz2, cz2, rfl⟩ := Z.sl
  clear Z
  clear hHeld
  refine hK.out _ _ ?_ (fun hHeld => ?_)
  · (try dsimp only)
    first | exact SK.out _ (by assumption) | exact SK.out _ BD
  clear hK K
  (try simp only [Act.put, List.setIfInBounds_toArray, List.set_cons_zero, List.set_cons_succ])
  refine wpAnyH_ready (rs := [3]) (by kernel_rfl) (by simp) ?_
  refine AllReadyH.cons (o := { dst := some 25, op := Op.call { callee := Callee.value (Operand.func 26), args := #[Operand.tmp 22, Operand.tmp 24], argTypes := #[38, 38] }, type := 4, pos := "exact.go:4528", after := #[{ on := 0, ground := Ground.data }, { on := 2, ground := Ground.data }, { on := 2, ground := Ground.chain }], guard := none }) rfl (fun K hK => ?_) (AllReadyH.nil)
  go_simp
  refine (HQ0.out _ _ _ _ _ (mod_atp Qy0.out) (mod_atp Qz0.out)).mono ?_
  rintro e W7 ⟨rfl, hb⟩
  have BD := BD.trans (hb.mono BD.size)
  have P := Lib.hid (HP0.out.below hb); clear HP0; have HP0 := P; clear P
  have P := Lib.hid (modE.frame Qy0.out (Same.of_below' hb)); clear Qy0; have Qy0 := P; clear P
  have P := Lib.hid (HX0.out.below hb); clear HX0; have HX0 := P; clear P
  have P := Lib.hid (modE.frame Qz0.out (Same.of_below' hb)); clear Qz0; have Qz0 := P; clear P
  have B1 := Lib.hid (B.out.trans (hb.mono B.out.size)); clear B; have B := B1; clear B1
  clear hb
  clear hHeld
  refine hK.out _ _ ?_ (fun hHeld => ?_)
  · (try dsimp only)
    first | exact SK.out _ (by assumption) | exact SK.out _ BD
  clear hK K
  (try simp only [Act.put, List.setIfInBounds_toArray, List.set_cons_zero, List.set_cons_succ])
  refine wpAnyH_take (i := 4) (oi := { dst := some 26, op := Op.unOp UnOp.not 4 (Operand.tmp 25), type := 4, pos := "exact.go:4528", after := #[{ on := 3, ground := Ground.data }], guard := none }) (v := ?_) rfl (by kernel_rfl) (by kernel_rfl) (by kernel_rfl) (fun _ _ _ h => h) (Or.inl ⟨by rfl, ?_⟩) (by assumption) ?_
  rotate_left
  · intro w hSw; (try dsimp only at hSw); go_simp; (try with_reducible rfl)
  (try simp only [Act.put, List.setIfInBounds_toArray, List.set_cons_zero, List.set_cons_succ])
  refine wpAnyH_done (by kernel_rfl) ?_ _
  clear SK BD
  clear Qz0
  go_wp2
  go_ret
  exact ⟨rfl, B.out⟩
end Go.Proofs.Ytlgafmgohinkbaa
/- Arguments of the laws: where they lie. -/
namespace Go.Proofs.Ytlgafmgohinkbaa
open Go.RowKit

open Go.ChangeShapes Go.WideShapes Go.Joins Go.Deep
theorem opn_str : Opens Try.prog 9 strE := opens_str Try.underlying9
theorem Try.cellStr : Try.prog.cellsOf 9 = strE.n := by kernel_rfl
theorem opn_int : Opens Try.prog 2 intE := opens_int Try.underlying2
theorem opn_bool : Opens Try.prog 4 boolE := opens_bool Try.underlying4
theorem Try.cellRdn : Try.prog.cellsOf 208 = rdnE.n := by kernel_rfl
set_option maxRecDepth 100000 in
theorem opn_rdn : Opens Try.prog 208 rdnE := opens_struct Try.underlying208 Try.cellRdn (ff_cons _ (by rfl) (by rfl) (by kernel_rfl) opn_str (ff_last _ (by rfl) (by rfl) (by kernel_rfl) (by rfl) opn_str))
theorem opn_strS : Opens Try.prog 29 (slE strE) := opens_sl Try.underlying29 Try.cellStr (by decide) opn_str
theorem Try.cellAttr : Try.prog.cellsOf 210 = attrE.n := by kernel_rfl
set_option maxRecDepth 100000 in
theorem opn_attr : Opens Try.prog 210 attrE := opens_struct Try.underlying210 Try.cellAttr (ff_cons _ (by rfl) (by rfl) (by kernel_rfl) opn_str (ff_last _ (by rfl) (by rfl) (by kernel_rfl) (by rfl) opn_strS))
theorem opn_rdnS : Opens Try.prog 123 (slE rdnE) := opens_sl Try.underlying123 Try.cellRdn (by decide) opn_rdn
theorem opn_attrS : Opens Try.prog 124 (slE attrE) := opens_sl Try.underlying124 Try.cellAttr (by decide) opn_attr
theorem Try.cellEntry : Try.prog.cellsOf 126 = entryE.n := by kernel_rfl
set_option maxRecDepth 100000 in
theorem opn_entry : Opens Try.prog 126 entryE := opens_struct Try.underlying126 Try.cellEntry (ff_cons _ (by rfl) (by rfl) (by kernel_rfl) opn_rdnS (ff_last _ (by rfl) (by rfl) (by kernel_rfl) (by rfl) opn_attrS))
theorem Try.cellNode : Try.prog.cellsOf 102 = nodeE.n := by kernel_rfl
set_option maxRecDepth 100000 in
theorem opn_node : Opens Try.prog 102 nodeE := opens_struct Try.underlying102 Try.cellNode (ff_cons _ (by rfl) (by rfl) (by kernel_rfl) opn_int (ff_cons _ (by rfl) (by rfl) (by kernel_rfl) opn_str (ff_cons _ (by rfl) (by rfl) (by kernel_rfl) opn_str (ff_last _ (by rfl) (by rfl) (by kernel_rfl) (by rfl) opn_int))))
theorem Try.cellClass : Try.prog.cellsOf 134 = classE.n := by kernel_rfl
set_option maxRecDepth 100000 in
theorem opn_class : Opens Try.prog 134 classE := opens_struct Try.underlying134 Try.cellClass (ff_cons _ (by rfl) (by rfl) (by kernel_rfl) opn_str (ff_cons _ (by rfl) (by rfl) (by kernel_rfl) opn_strS (ff_cons _ (by rfl) (by rfl) (by kernel_rfl) opn_strS (ff_last _ (by rfl) (by rfl) (by kernel_rfl) (by rfl) opn_strS))))
theorem Try.cellMod : Try.prog.cellsOf 35 = modE.n := by kernel_rfl
set_option maxRecDepth 100000 in
theorem opn_mod : Opens Try.prog 35 modE := opens_struct Try.underlying35 Try.cellMod (ff_cons _ (by rfl) (by rfl) (by kernel_rfl) opn_int (ff_cons _ (by rfl) (by rfl) (by kernel_rfl) opn_str (ff_last _ (by rfl) (by rfl) (by kernel_rfl) (by rfl) opn_strS)))
theorem opn_entryS : Opens Try.prog 42 (slE entryE) := opens_sl Try.underlying42 Try.cellEntry (by decide) opn_entry
theorem opn_nodeS : Opens Try.prog 22 (slE nodeE) := opens_sl Try.underlying22 Try.cellNode (by decide) opn_node
theorem opn_classS : Opens Try.prog 50 (slE classE) := opens_sl Try.underlying50 Try.cellClass (by decide) opn_class
set_option maxRecDepth 100000 in
theorem opv_rdn {H : Type} {enc : TypeId × Value → H} {w : World} {base : Nat} {spare : Nat → Bool} {held : Bool} {r : Reach} {b0 : Nat} {v : Value} {d : DataW H} {p : List MemPlace} (hv : Value.okWide Try.prog w r b0 208 v) (h : DataW.Trod enc Try.prog w base spare held 208 v d p) :
    ∃ (a0 : ByteArray) (a1 : ByteArray) , v = .agg #[.string a0, .string a1] ∧ (True) ∧ rdnE.long (a0, a1) := by
  obtain ⟨cs, a, rfl, h1, h2⟩ := opv_struct Try.underlying208 opn_rdn hv h
  obtain ⟨a0, a1, rfl, e1, hq⟩ := rdn_atq h1
  refine ⟨a0, a1, agg_eq e1, ?_, h2⟩
  exact hq
set_option maxRecDepth 100000 in
theorem opv_attr {H : Type} {enc : TypeId × Value → H} {w : World} {base : Nat} {spare : Nat → Bool} {held : Bool} {r : Reach} {b0 : Nat} {v : Value} {d : DataW H} {p : List MemPlace} (hv : Value.okWide Try.prog w r b0 210 v) (h : DataW.Trod enc Try.prog w base spare held 210 v d p) :
    ∃ (a0 : ByteArray) (a1 : (List ByteArray)) (v1 : Value), v = .agg #[.string a0, v1] ∧ (SlAt strE (All w) w a1 v1) ∧ attrE.long (a0, a1) := by
  obtain ⟨cs, a, rfl, h1, h2⟩ := opv_struct Try.underlying210 opn_attr hv h
  obtain ⟨a0, a1, v1, rfl, e1, hq⟩ := attr_atq h1
  refine ⟨a0, a1, v1, agg_eq e1, ?_, h2⟩
  exact hq.1
set_option maxRecDepth 100000 in
theorem opv_entry {H : Type} {enc : TypeId × Value → H} {w : World} {base : Nat} {spare : Nat → Bool} {held : Bool} {r : Reach} {b0 : Nat} {v : Value} {d : DataW H} {p : List MemPlace} (hv : Value.okWide Try.prog w r b0 126 v) (h : DataW.Trod enc Try.prog w base spare held 126 v d p) :
    ∃ (a0 : (List RdnT)) (a1 : (List AttrT)) (v0 v1 : Value), v = .agg #[v0, v1] ∧ (SlAt rdnE (All w) w a0 v0 ∧ SlAt attrE (All w) w a1 v1) ∧ entryE.long (a0, a1) := by
  obtain ⟨cs, a, rfl, h1, h2⟩ := opv_struct Try.underlying126 opn_entry hv h
  obtain ⟨a0, a1, v0, v1, rfl, e1, hq⟩ := entry_atq h1
  refine ⟨a0, a1, v0, v1, agg_eq e1, ?_, h2⟩
  exact ⟨hq.1, hq.2.1⟩
set_option maxRecDepth 100000 in
theorem opv_node {H : Type} {enc : TypeId × Value → H} {w : World} {base : Nat} {spare : Nat → Bool} {held : Bool} {r : Reach} {b0 : Nat} {v : Value} {d : DataW H} {p : List MemPlace} (hv : Value.okWide Try.prog w r b0 102 v) (h : DataW.Trod enc Try.prog w base spare held 102 v d p) :
    ∃ (a0 : Int) (a1 : ByteArray) (a2 : ByteArray) (a3 : Int) , v = .agg #[.int .i64 a0, .string a1, .string a2, .int .i64 a3] ∧ (True) ∧ nodeE.long (a0, a1, a2, a3) := by
  obtain ⟨cs, a, rfl, h1, h2⟩ := opv_struct Try.underlying102 opn_node hv h
  obtain ⟨a0, a1, a2, a3, rfl, e1, hq⟩ := node_atq h1
  refine ⟨a0, a1, a2, a3, agg_eq e1, ?_, h2⟩
  exact hq
set_option maxRecDepth 100000 in
theorem opv_class {H : Type} {enc : TypeId × Value → H} {w : World} {base : Nat} {spare : Nat → Bool} {held : Bool} {r : Reach} {b0 : Nat} {v : Value} {d : DataW H} {p : List MemPlace} (hv : Value.okWide Try.prog w r b0 134 v) (h : DataW.Trod enc Try.prog w base spare held 134 v d p) :
    ∃ (a0 : ByteArray) (a1 : (List ByteArray)) (a2 : (List ByteArray)) (a3 : (List ByteArray)) (v1 v2 v3 : Value), v = .agg #[.string a0, v1, v2, v3] ∧ (SlAt strE (All w) w a1 v1 ∧ SlAt strE (All w) w a2 v2 ∧ SlAt strE (All w) w a3 v3) ∧ classE.long (a0, a1, a2, a3) := by
  obtain ⟨cs, a, rfl, h1, h2⟩ := opv_struct Try.underlying134 opn_class hv h
  obtain ⟨a0, a1, a2, a3, v1, v2, v3, rfl, e1, hq⟩ := class_atq h1
  refine ⟨a0, a1, a2, a3, v1, v2, v3, agg_eq e1, ?_, h2⟩
  exact ⟨hq.1, hq.2.1, hq.2.2.1⟩
set_option maxRecDepth 100000 in
theorem opv_mod {H : Type} {enc : TypeId × Value → H} {w : World} {base : Nat} {spare : Nat → Bool} {held : Bool} {r : Reach} {b0 : Nat} {v : Value} {d : DataW H} {p : List MemPlace} (hv : Value.okWide Try.prog w r b0 35 v) (h : DataW.Trod enc Try.prog w base spare held 35 v d p) :
    ∃ (a0 : Int) (a1 : ByteArray) (a2 : (List ByteArray)) (v2 : Value), v = .agg #[.int .i64 a0, .string a1, v2] ∧ (SlAt strE (All w) w a2 v2) ∧ modE.long (a0, a1, a2) := by
  obtain ⟨cs, a, rfl, h1, h2⟩ := opv_struct Try.underlying35 opn_mod hv h
  obtain ⟨a0, a1, a2, v2, rfl, e1, hq⟩ := mod_atq h1
  refine ⟨a0, a1, a2, v2, agg_eq e1, ?_, h2⟩
  exact hq.1
end Go.Proofs.Ytlgafmgohinkbaa
