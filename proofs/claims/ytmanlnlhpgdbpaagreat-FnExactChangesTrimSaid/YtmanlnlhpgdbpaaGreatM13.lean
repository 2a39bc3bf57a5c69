/- Merged texts: heldChange, heldChangesV, heldChangesOutV. -/
import Derived.Test.YtmanlnlhpgdbpaaGreatM2
import Derived.Test.YtmanlnlhpgdbpaaGreatM6
import Derived.SliceStrings
import Derived.Test.YtmanlnlhpgdbpaaGreatM12
/- The helpers of the laws: marks asked. -/
namespace Go.Proofs.YtmanlnlhpgdbpaaGreat
open Go.RowKit
attribute [local go_sem ↓] Go.wp_at_zero Go.wp_at_succ

set_option maxRecDepth 100000 in
set_option maxHeartbeats 4000000 in
theorem heldChangeS_at {S : Bs} (v : Value) (d : List ChangeT) (k : Nat) (w : World) (h : SlAt changeE S w (mkAll changeE k d) v) (hl : d.length ≤ 1048576) (hz : szL changeE d ≤ 1048576) (hk1 : 0 < k) (hk2 : k + cntL changeE d ≤ 1000000000) :
    Calls Tryz.prog 55 #[v, .int .i64 k] w fun e w' => e = .returned (.int .i64 ((k + cntL changeE d : Nat) : Int)) ∧ Below w.heap.size w w' := by
  obtain ⟨ao, cap, rfl⟩ := h.sl
  have hml := mkAll_length changeE k d
  rw [hml]
  rw [hml] at h
  have HS := Lib.hid h; clear h
  have HTx : Hid (∀ (X : World) (m : Nat) (q : Int), q = (m : Int) → 0 < m → m ≤ 1000000000 → Calls Tryz.prog 52 #[.int .i64 q] X fun e w' => e = .returned (.string (mkT m)) ∧ Below X.heap.size X w') := Lib.hid (fun X m q e h1 h2 => by subst e; exact markText_any m X h1 h2)
  have HM3 : Hid (∀ (X : World) (u : Value) (V : List RdnT) (m : Nat) (q : Int), q = (m : Int) → SlAt rdnE S X (mkAll rdnE m V) u → V.length ≤ 1048576 → szL rdnE V ≤ 1048576 → 0 < m → m + cntL rdnE V ≤ 1000000000 → Calls Tryz.prog 81 #[u, .int .i64 q] X fun e w' => e = .returned (.int .i64 ((m + cntL rdnE V : Nat) : Int)) ∧ Below X.heap.size X w') := Lib.hid (fun X u V m q e h h0 hz h1 h2 => by subst e; exact heldRdnS_at u V m X h h0 hz h1 h2)
  have HM4 : Hid (∀ (X : World) (u : Value) (V : List AttrT) (m : Nat) (q : Int), q = (m : Int) → SlAt attrE S X (mkAll attrE m V) u → V.length ≤ 1048576 → szL attrE V ≤ 1048576 → 0 < m → m + cntL attrE V ≤ 1000000000 → Calls Tryz.prog 82 #[u, .int .i64 q] X fun e w' => e = .returned (.int .i64 ((m + cntL attrE V : Nat) : Int)) ∧ Below X.heap.size X w') := Lib.hid (fun X u V m q e h h0 hz h1 h2 => by subst e; exact heldAttrS_at u V m X h h0 hz h1 h2)
  go_enter Tryz.func55, Tryz.ntmps55
  go_wp2
  go_loopw [1, 5] (fun t i wr => ∃ j : Nat, j ≤ d.length ∧ i = .int .i64 j ∧ t = .int .i64 ((k + cntL changeE (d.take j) : Nat) : Int) ∧ Below w.heap.size w wr) (fun _ i _ => d.length - (intOf i).toNat)
  case atStart => exact ⟨0, Nat.zero_le _, rfl, by simp [cntL], Below.refl _ _⟩
  case round =>
    obtain ⟨j, hj, rfl, rfl, hbel⟩ := hrel
    have hcl := cntL_take_le changeE d j
    by_cases hlt : j < d.length
    · obtain ⟨b, off, x0, x1, x2, x3, x4, u3, u4, rfl, _, hb0, hx, hc, q3, q4, _⟩ := change_row (HS.out.frame (Same.of_below' hbel)) (k := j) (by rw [hml]; exact hlt)
      have HCs := Lib.hid (cntL_take changeE d j hlt)
      have hcs : cntL changeE (d.take j) + (changeE).cnt d[j] ≤ cntL changeE d := by have := cntL_take_le changeE d (j + 1); rw [HCs.out] at this; exact this
      rw [mkAll_get changeE k d j hlt] at hx
      rcases hd : d[j] with ⟨a0, a1, a2, ⟨a3, a4⟩⟩
      rw [hd] at hx hcs
      have HX := Lib.hid hd
      have hct : (changeE).cnt (a0, a1, a2, (a3, a4)) = 1 + (1 + (1 + ((cntL rdnE a3 + (cntL attrE a4))))) := rfl
      rw [hct] at hcs
      have hl3 : a3.length ≤ 1048576 := by have := szL_mem changeE (List.getElem_mem hlt); rw [hd] at this; have h2 : (changeE).sz (a0, a1, a2, (a3, a4)) = 0 + (0 + (a2.size + (((a3.length + szL rdnE a3) + ((a4.length + szL attrE a4)))))) := rfl; rw [h2] at this; omega
      have hz3 : szL rdnE a3 ≤ 1048576 := by have := szL_mem changeE (List.getElem_mem hlt); rw [hd] at this; have h2 : (changeE).sz (a0, a1, a2, (a3, a4)) = 0 + (0 + (a2.size + (((a3.length + szL rdnE a3) + ((a4.length + szL attrE a4)))))) := rfl; rw [h2] at this; omega
      have hl4 : a4.length ≤ 1048576 := by have := szL_mem changeE (List.getElem_mem hlt); rw [hd] at this; have h2 : (changeE).sz (a0, a1, a2, (a3, a4)) = 0 + (0 + (a2.size + (((a3.length + szL rdnE a3) + ((a4.length + szL attrE a4)))))) := rfl; rw [h2] at this; omega
      have hz4 : szL attrE a4 ≤ 1048576 := by have := szL_mem changeE (List.getElem_mem hlt); rw [hd] at this; have h2 : (changeE).sz (a0, a1, a2, (a3, a4)) = 0 + (0 + (a2.size + (((a3.length + szL rdnE a3) + ((a4.length + szL attrE a4)))))) := rfl; rw [h2] at this; omega
      have hm : ((x0, x1, x2, (x3, x4)) : ChangeT) = (((k + cntL changeE (d.take j) : Nat) : Int), ((k + cntL changeE (d.take j) + 1 : Nat) : Int), mkT (k + cntL changeE (d.take j) + 1 + 1), (mkAll rdnE (k + cntL changeE (d.take j) + 1 + 1 + 1) a3, mkAll attrE (k + cntL changeE (d.take j) + 1 + 1 + 1 + cntL rdnE a3) a4)) := hx.symm.trans rfl
      simp only [Prod.mk.injEq] at hm
      obtain ⟨rfl, rfl, rfl, ⟨rfl, rfl⟩⟩ := hm
      clear hx hd
      have HQ3 := Lib.hid q3; clear q3
      have HQ4 := Lib.hid q4; clear q4
      generalize hc' : cntL changeE (d.take j) = c at *
      clear hc'
      generalize hm3 : cntL rdnE a3 = m3 at *
      have Hm3 := Lib.hid hm3; clear hm3
      generalize hm4 : cntL attrE a4 = m4 at *
      have Hm4 := Lib.hid hm4; clear hm4
      have SK : Hid (∀ W : World, Below wr.heap.size wr W → (Below wr.heap.size wr W ∧ W.cell? ⟨b, off + j * 5, none⟩ = some (.int .i64 ((k + c : Nat) : Int)) ∧ W.cell? ⟨b, off + j * 5 + 1, none⟩ = some (.int .i64 ((k + c + 1 : Nat) : Int)) ∧ W.cell? ⟨b, off + j * 5 + 2, none⟩ = some (.string (mkT (k + c + 1 + 1))) ∧ W.cell? ⟨b, off + j * 5 + 3, none⟩ = some (u3) ∧ W.cell? ⟨b, off + j * 5 + 4, none⟩ = some (u4))) := Lib.hid (fun W h => ⟨h, (h.cell (p := ⟨b, _, none⟩) hb0).trans hc.1, (h.cell (p := ⟨b, _, none⟩) hb0).trans hc.2.1, (h.cell (p := ⟨b, _, none⟩) hb0).trans hc.2.2.1, (h.cell (p := ⟨b, _, none⟩) hb0).trans hc.2.2.2.1, (h.cell (p := ⟨b, _, none⟩) hb0).trans hc.2.2.2.2⟩)
      have hw0 : Below wr.heap.size wr wr := Below.refl _ _
      have hbd : Below wr.heap.size wr wr.drew := hw0.drew
      have HBl := Lib.hid hbel
      clear hbel hc
      have g1 : (0 : Int) ≤ (j : Int) := by omega
      have g2 : (j : Int) < (d.length : Int) := by omega
      obtain ⟨_, c0, c1, c2, c3, c4⟩ := SK.out wr hw0
      obtain ⟨_, c0, c1, c2, c3, c4⟩ := SK.out wr hw0
      have HT1 : Hid (∀ (X : World) (q : Int), q = ((k + c + 1 + 1 : Nat) : Int) → Below wr.heap.size wr X → Calls Tryz.prog 52 #[.int .i64 q] X fun e w' => e = .returned (.string (mkT (k + c + 1 + 1))) ∧ Below wr.heap.size wr w') := Lib.hid (fun X q e h => (HTx.out X (k + c + 1 + 1) q e (by omega) (by omega)).mono fun _ _ z => ⟨z.1, h.trans (z.2.mono h.size)⟩)
      have hkk : ((mkT (k + c + 1 + 1)).toList == (mkT (k + c + 1 + 1)).toList) = true := by simp
      generalize mkT (k + c + 1 + 1) = A2 at *
      go_wp2_with fail
      go_region_held3 (fun W => Below wr.heap.size wr W ∧ W.cell? ⟨b, off + j * 5, none⟩ = some (.int .i64 ((k + c : Nat) : Int)) ∧ W.cell? ⟨b, off + j * 5 + 1, none⟩ = some (.int .i64 ((k + c + 1 : Nat) : Int)) ∧ W.cell? ⟨b, off + j * 5 + 2, none⟩ = some (.string A2) ∧ W.cell? ⟨b, off + j * 5 + 3, none⟩ = some (u3) ∧ W.cell? ⟨b, off + j * 5 + 4, none⟩ = some (u4))
        (exact SK.out _ (by assumption))
        (first | (go_at_call 52; refine (HT1.out _ _ (by omega) (by assumption)).mono ?_; rintro e X1 ⟨rfl, hx1⟩) | (fail "none"))
      clear HT1 hkk
      have HN := Lib.hid (HM3.out X1 u3 a3 (k + c + 1 + 1 + 1) _ rfl (HQ3.out.frame (Same.of_below' hx1)) hl3 hz3 (by omega) (by rw [Hm3.out]; omega))
      rw [Hm3.out] at HN
      obtain ⟨_, c0, c1, c2, c3, c4⟩ := SK.out X1 hx1
      have hq : ¬ ((k + c + 1 + 1 + 1 + m3 : Nat) : Int) < 0 := by omega
      obtain ⟨p3, n3, j3, rfl⟩ : ∃ p n j, u3 = .slice p n j := by obtain ⟨p, j, z⟩ := HQ3.out.sl; exact ⟨p, _, j, z⟩
      go_wp2_with fail
      refine (calls_int HN.out (by omega)).mono ?_
      rintro e X2 ⟨rfl, hb⟩
      have hx2 := hx1.trans (hb.mono hx1.size)
      clear HN hb c0 c1 c2 c3 c4
      have HN := Lib.hid (HM4.out X2 u4 a4 (k + c + 1 + 1 + 1 + m3) _ rfl (HQ4.out.frame (Same.of_below' hx2)) hl4 hz4 (by omega) (by rw [Hm4.out]; omega))
      rw [Hm4.out] at HN
      obtain ⟨_, c0, c1, c2, c3, c4⟩ := SK.out X2 hx2
      have hq : ¬ ((k + c + 1 + 1 + 1 + m3 + m4 : Nat) : Int) < 0 := by omega
      obtain ⟨p4, n4, j4, rfl⟩ : ∃ p n j, u4 = .slice p n j := by obtain ⟨p, j, z⟩ := HQ4.out.sl; exact ⟨p, _, j, z⟩
      go_wp2_with fail
      refine (calls_int HN.out (by omega)).mono ?_
      rintro e X3 ⟨rfl, hb⟩
      have hx3 := hx2.trans (hb.mono hx2.size)
      clear HN hb c0 c1 c2 c3 c4
      go_wp2
      go_roundw
      case rel => exact ⟨j + 1, by omega, by go_num, by rw [HCs.out, HX.out, hct]; first | (congr 1; done) | (congr 1; omega), HBl.out.trans (hx3.mono HBl.out.size)⟩
      case measure => simp [intOf]; omega
    · have e : j = d.length := by omega
      subst e
      have hce : cntL changeE (d.take d.length) = cntL changeE d := by rw [List.take_length]
      rw [hce]
      go_wp2
      go_ret
      exact ⟨rfl, hbel⟩
end Go.Proofs.YtmanlnlhpgdbpaaGreat
/- The helpers of the laws: marks asked. -/
namespace Go.Proofs.YtmanlnlhpgdbpaaGreat
open Go.RowKit
attribute [local go_sem ↓] Go.wp_at_zero Go.wp_at_succ

set_option maxRecDepth 100000 in
set_option maxHeartbeats 4000000 in
theorem heldChanges_fl {S1 : Bs} (a0 : Int) (a1 : (List ChangeT)) (u1 : Value) (k : Nat) (w : World) (q1 : SlAt changeE S1 w (mkAll changeE (k) a1) u1) (l1 : a1.length ≤ 1048576) (z1 : szL changeE a1 ≤ 1048576) (hk1 : 0 < k) (hk2 : k + cntL changeE a1 ≤ 1000000000) :
    Calls Tryz.prog 54 #[.agg #[.int .i64 a0, u1], .int .i64 k] w fun e w' => e = .returned (.int .i64 ((k + cntL changeE a1 : Nat) : Int)) ∧ Below w.heap.size w w' := by
  have C1 : Hid (∀ (X : World) (q : Int), q = ((k : Nat) : Int) → Below w.heap.size w X → Calls Tryz.prog 55 #[u1, .int .i64 q] X fun e w' => e = .returned (.int .i64 ((k + cntL changeE a1 : Nat) : Int)) ∧ Below X.heap.size X w') := Lib.hid (fun X q e h => by subst e; exact heldChangeS_at u1 a1 (k) X (q1.frame (Same.of_below' h)) l1 z1 (by omega) (by omega))
  obtain ⟨o1, k1, rfl⟩ := q1.sl
  rw [mkAll_length] at *
  clear q1
  generalize hm1 : cntL changeE a1 = m1 at *
  have Hm1 := Lib.hid hm1; clear hm1
  go_enter Tryz.func54, Tryz.ntmps54
  go_wp2_with fail
  refine calls_by (fun W => Below w.heap.size w W ∧ Blk W w.heap.size [.int .i64 a0, .slice o1 a1.length k1]) ⟨more' (Below.refl _ _) _, Blk.new _ _ _⟩ ?_
  rintro W0 ⟨b0, t0⟩
  have T0 := Lib.hid t0; clear t0
  refine (C1.out W0 _ (by omega) b0).mono ?_
  rintro e W1 ⟨rfl, hb⟩
  have T1 := Lib.hid (T0.out.below hb); have b1 := b0.trans (hb.mono b0.size)
  have hq0 : ¬ ((k + m1 : Nat) : Int) < 0 := by omega
  clear hb b0 T0
  go_wp2
  go_ret
  have e1 := Hm1.out
  subst e1
  exact ⟨ret_int (by omega), b1⟩
end Go.Proofs.YtmanlnlhpgdbpaaGreat
/- The helpers of the laws: marks asked. -/
namespace Go.Proofs.YtmanlnlhpgdbpaaGreat
open Go.RowKit
attribute [local go_sem ↓] Go.wp_at_zero Go.wp_at_succ

set_option maxRecDepth 100000 in
set_option maxHeartbeats 4000000 in
theorem heldChangesOut_fl {S1 S2 : Bs} (a0 : Int) (a1 : (List ChangeT)) (a2 : (List ChangeT)) (a3 : Int) (u1 u2 : Value) (k : Nat) (w : World) (q1 : SlAt changeE S1 w (mkAll changeE (k) a1) u1) (l1 : a1.length ≤ 1048576) (z1 : szL changeE a1 ≤ 1048576) (q2 : SlAt changeE S2 w (mkAll changeE (k + cntL changeE a1) a2) u2) (l2 : a2.length ≤ 1048576) (z2 : szL changeE a2 ≤ 1048576) (hk1 : 0 < k) (hk2 : k + cntL changeE a1 + cntL changeE a2 ≤ 1000000000) :
    Calls Tryz.prog 25 #[.agg #[.int .i64 a0, u1, u2, .int .i64 a3], .int .i64 k] w fun e w' => e = .returned (.int .i64 ((k + cntL changeE a1 + cntL changeE a2 : Nat) : Int)) ∧ Below w.heap.size w w' := by
  have C0 : Hid (∀ (X : World) (q : Int), q = ((k : Nat) : Int) → Below w.heap.size w X → Calls Tryz.prog 54 #[.agg #[.int .i64 a0, u1], .int .i64 q] X fun e w' => e = .returned (.int .i64 ((k + cntL changeE a1 : Nat) : Int)) ∧ Below X.heap.size X w') := Lib.hid (fun X q e h => by subst e; exact heldChanges_fl a0 a1 u1 (k) X (q1.frame (Same.of_below' h)) l1 z1 (by omega) (by omega))
  have C2 : Hid (∀ (X : World) (q : Int), q = ((k + cntL changeE a1 : Nat) : Int) → Below w.heap.size w X → Calls Tryz.prog 55 #[u2, .int .i64 q] X fun e w' => e = .returned (.int .i64 ((k + cntL changeE a1 + cntL changeE a2 : Nat) : Int)) ∧ Below X.heap.size X w') := Lib.hid (fun X q e h => by subst e; exact heldChangeS_at u2 a2 (k + cntL changeE a1) X (q2.frame (Same.of_below' h)) l2 z2 (by omega) (by omega))
  obtain ⟨o1, k1, rfl⟩ := q1.sl
  rw [mkAll_length] at *
  clear q1
  obtain ⟨o2, k2, rfl⟩ := q2.sl
  rw [mkAll_length] at *
  clear q2
  generalize hm1 : cntL changeE a1 = m1 at *
  have Hm1 := Lib.hid hm1; clear hm1
  generalize hm2 : cntL changeE a2 = m2 at *
  have Hm2 := Lib.hid hm2; clear hm2
  go_enter Tryz.func25, Tryz.ntmps25
  go_wp2_with fail
  refine calls_by (fun W => Below w.heap.size w W ∧ Blk W w.heap.size [.int .i64 a0, .slice o1 a1.length k1, .slice o2 a2.length k2, .int .i64 a3]) ⟨more' (Below.refl _ _) _, Blk.new _ _ _⟩ ?_
  rintro W0 ⟨b0, t0⟩
  have T0 := Lib.hid t0; clear t0
  refine (C0.out W0 _ (by omega) b0).mono ?_
  rintro e W1 ⟨rfl, hb⟩
  have T1 := Lib.hid (T0.out.below hb); have b1 := b0.trans (hb.mono b0.size)
  have hq0 : ¬ ((k + m1 : Nat) : Int) < 0 := by omega
  clear hb b0 T0
  have c0 := T1.out.cell 0 rfl
  have c1 := T1.out.cell 1 rfl
  have c2 := T1.out.cell 2 rfl
  have c3 := T1.out.cell 3 rfl
  go_wp2_with fail
  refine (C2.out W1 _ (by omega) b1).mono ?_
  rintro e W2 ⟨rfl, hb⟩
  have T2 := Lib.hid (T1.out.below hb); have b2 := b1.trans (hb.mono b1.size)
  have hq1 : ¬ ((k + m1 + m2 : Nat) : Int) < 0 := by omega
  clear hb b1 T1 c0 c1 c2 c3
  go_wp2
  go_ret
  have e1 := Hm1.out
  subst e1
  have e2 := Hm2.out
  subst e2
  exact ⟨ret_int (by omega), b2⟩
end Go.Proofs.YtmanlnlhpgdbpaaGreat
