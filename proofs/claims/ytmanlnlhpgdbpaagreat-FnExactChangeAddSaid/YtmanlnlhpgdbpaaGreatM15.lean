/- Merged texts: markChange, markChangesV, markEntryV, markChangesOutV, heldRdn, heldString, heldAttr, heldEntry, heldChange, heldChangesV, heldChangesOutV, eqChangesOut. -/
import Derived.Test.YtmanlnlhpgdbpaaGreatM2
import Derived.Test.YtmanlnlhpgdbpaaGreatM6
import Derived.Test.YtmanlnlhpgdbpaaGreatM14
import Derived.SliceStrings
import Derived.Test.YtmanlnlhpgdbpaaGreatM3
/- The helpers of the laws: marks. -/
namespace Go.Proofs.YtmanlnlhpgdbpaaGreat
open Go.RowKit
attribute [local go_sem ↓] Go.wp_at_zero Go.wp_at_succ

set_option maxRecDepth 100000 in
set_option maxHeartbeats 4000000 in
theorem markChangeS_at {S : Bs} (v : Value) (d : List ChangeT) (k : Nat) (w : World) (h : SlOwn changeE S w d v) (hl : d.length ≤ 1048576) (hz : szL changeE d ≤ 1048576) (hk1 : 0 < k) (hk2 : k + cntL changeE d ≤ 1000000000) :
    Calls Tryz.prog 51 #[v, .int .i64 k] w fun e w' => e = .returned (.int .i64 ((k + cntL changeE d : Nat) : Int)) ∧ SlOwn changeE S w' (mkAll changeE k d) v ∧ Turn S w w' := by
  obtain ⟨ao, cap, rfl⟩ := h.at.sl
  have HS := Lib.hid h; clear h
  have HTx : Hid (∀ (X : World) (m : Nat) (q : Int), q = (m : Int) → 0 < m → m ≤ 1000000000 → Calls Tryz.prog 52 #[.int .i64 q] X fun e w' => e = .returned (.string (mkT m)) ∧ Below X.heap.size X w') := Lib.hid (fun X m q e h1 h2 => by subst e; exact markText_any m X h1 h2)
  have HM3 : Hid (∀ (X : World) (Sx : Bs) (u : Value) (V : List RdnT) (m : Nat) (q : Int), q = (m : Int) → SlOwn rdnE Sx X V u → V.length ≤ 1048576 → szL rdnE V ≤ 1048576 → 0 < m → m + cntL rdnE V ≤ 1000000000 → Calls Tryz.prog 22 #[u, .int .i64 q] X fun e w' => e = .returned (.int .i64 ((m + cntL rdnE V : Nat) : Int)) ∧ SlOwn rdnE Sx w' (mkAll rdnE m V) u ∧ Turn Sx X w') := Lib.hid (fun X Sx u V m q e h h0 hz h1 h2 => by subst e; exact markRdnS_at u V m X h h0 hz h1 h2)
  have HM4 : Hid (∀ (X : World) (Sx : Bs) (u : Value) (V : List AttrT) (m : Nat) (q : Int), q = (m : Int) → SlOwn attrE Sx X V u → V.length ≤ 1048576 → szL attrE V ≤ 1048576 → 0 < m → m + cntL attrE V ≤ 1000000000 → Calls Tryz.prog 53 #[u, .int .i64 q] X fun e w' => e = .returned (.int .i64 ((m + cntL attrE V : Nat) : Int)) ∧ SlOwn attrE Sx w' (mkAll attrE m V) u ∧ Turn Sx X w') := Lib.hid (fun X Sx u V m q e h h0 hz h1 h2 => by subst e; exact markAttrS_at u V m X h h0 hz h1 h2)
  go_enter Tryz.func51, Tryz.ntmps51
  go_wp2
  go_loopw [1, 5] (fun t i wr => ∃ j : Nat, j ≤ d.length ∧ i = .int .i64 j ∧ t = .int .i64 ((k + cntL changeE (d.take j) : Nat) : Int) ∧ SlOwn changeE S wr (mkTo changeE k d j) (.slice ao d.length cap) ∧ Turn S w wr) (fun _ i _ => d.length - (intOf i).toNat)
  case atStart => exact ⟨0, Nat.zero_le _, rfl, by simp [cntL], by rw [mkTo_zero]; exact HS.out, Turn.refl _ _⟩
  case round =>
    obtain ⟨j, hj, rfl, rfl, hO, hT⟩ := hrel
    have HO := Lib.hid hO; have HT := Lib.hid hT; clear hO hT
    have hcl := cntL_take_le changeE d j
    by_cases hlt : j < d.length
    · obtain ⟨g, Sr, cs, rfl, hcap, hSg, hSr, hSub, hR, hrow, hown⟩ := mk_open HO.out hlt
      have HCs := Lib.hid (cntL_take changeE d j hlt)
      have hcs : cntL changeE (d.take j) + (changeE).cnt d[j] ≤ cntL changeE d := by have := cntL_take_le changeE d (j + 1); rw [HCs.out] at this; exact this
      obtain ⟨a0, a1, a2, a3, a4, u3, u4, S3, S4, hx, rfl, q3, i3, q4, i4, d3_4, _⟩ := change_own hown
      rw [hx] at hcs
      have hct : (changeE).cnt (a0, a1, a2, (a3, a4)) = 1 + (1 + (1 + ((cntL rdnE a3 + (cntL attrE a4))))) := rfl
      rw [hct] at hcs
      have HX := Lib.hid hx
      have hl3 : a3.length ≤ 1048576 := by have := szL_mem changeE (List.getElem_mem hlt); rw [hx] at this; have h2 : (changeE).sz (a0, a1, a2, (a3, a4)) = 0 + (0 + (a2.size + (((a3.length + szL rdnE a3) + ((a4.length + szL attrE a4)))))) := rfl; rw [h2] at this; omega
      have hz3 : szL rdnE a3 ≤ 1048576 := by have := szL_mem changeE (List.getElem_mem hlt); rw [hx] at this; have h2 : (changeE).sz (a0, a1, a2, (a3, a4)) = 0 + (0 + (a2.size + (((a3.length + szL rdnE a3) + ((a4.length + szL attrE a4)))))) := rfl; rw [h2] at this; omega
      have hl4 : a4.length ≤ 1048576 := by have := szL_mem changeE (List.getElem_mem hlt); rw [hx] at this; have h2 : (changeE).sz (a0, a1, a2, (a3, a4)) = 0 + (0 + (a2.size + (((a3.length + szL rdnE a3) + ((a4.length + szL attrE a4)))))) := rfl; rw [h2] at this; omega
      have hz4 : szL attrE a4 ≤ 1048576 := by have := szL_mem changeE (List.getElem_mem hlt); rw [hx] at this; have h2 : (changeE).sz (a0, a1, a2, (a3, a4)) = 0 + (0 + (a2.size + (((a3.length + szL rdnE a3) + ((a4.length + szL attrE a4)))))) := rfl; rw [h2] at this; omega
      clear hx hown
      have HR0 := Lib.hid hR; have HW0 := Lib.hid hrow; have HT0 := HT; clear hR hrow
      have HQ3 := Lib.hid q3; clear q3
      have HQ4 := Lib.hid q4; clear q4
      generalize hc : cntL changeE (d.take j) = c at *
      have Hc := Lib.hid hc; clear hc
      have g1 : (0 : Int) ≤ (j : Int) := by omega
      have g2 : (j : Int) < (d.length : Int) := by omega
      generalize hm3 : cntL rdnE a3 = m3 at *
      have Hm3 := Lib.hid hm3; clear hm3
      generalize hm4 : cntL attrE a4 = m4 at *
      have Hm4 := Lib.hid hm4; clear hm4
      have c0 := HW0.out.cells 0 (by simp)
      have c0 : wr.cell? ⟨g, j * 5, none⟩ = some (.int .i64 a0) := c0
      have f0 : wr.frozen? ⟨g, j * 5, none⟩ = false := HW0.out.soft _
      have c1 := HW0.out.cells 1 (by simp)
      have c1 : wr.cell? ⟨g, j * 5 + 1, none⟩ = some (.int .i64 a1) := c1
      have f1 : wr.frozen? ⟨g, j * 5 + 1, none⟩ = false := HW0.out.soft _
      have c2 := HW0.out.cells 2 (by simp)
      have c2 : wr.cell? ⟨g, j * 5 + 2, none⟩ = some (.string a2) := c2
      have f2 : wr.frozen? ⟨g, j * 5 + 2, none⟩ = false := HW0.out.soft _
      have c3 := HW0.out.cells 3 (by simp)
      have c3 : wr.cell? ⟨g, j * 5 + 3, none⟩ = some (u3) := c3
      have f3 : wr.frozen? ⟨g, j * 5 + 3, none⟩ = false := HW0.out.soft _
      have c4 := HW0.out.cells 4 (by simp)
      have c4 : wr.cell? ⟨g, j * 5 + 4, none⟩ = some (u4) := c4
      have f4 : wr.frozen? ⟨g, j * 5 + 4, none⟩ = false := HW0.out.soft _
      go_wp2_with fail
      refine calls_by (fun W => (∃ cs : List Value, RowAt W g (j * (changeE).n) cs ∧ cs = [.int .i64 ((k + c : Nat) : Int), .int .i64 ((k + c + 1 : Nat) : Int), .string a2, u3, u4]) ∧ Rest changeE S W (mkTo changeE k d j) g j Sr ∧ Turn S w W ∧ SlOwn rdnE S3 W (a3) u3 ∧ SlOwn attrE S4 W (a4) u4) ⟨⟨_, ((HW0.out.store (j := 0) (by simp) _).store (j := 1) (by simp) _), by simp only [List.set_cons_zero, List.set_cons_succ, List.cons.injEq, Value.int.injEq, Value.bool.injEq, true_and, and_true] <;> omega⟩, ((HR0.out.store (u := 0) (by decide) _).store (u := 1) (by decide) _), ((HT0.out.trans (Turn.store _ _ _ hSg)).trans (Turn.store _ _ _ hSg)), ((HQ3.out.frame (Same.set _ _ _ (fun z => hSr (i3 g z)))).frame (Same.set _ _ _ (fun z => hSr (i3 g z)))), ((HQ4.out.frame (Same.set _ _ _ (fun z => hSr (i4 g z)))).frame (Same.set _ _ _ (fun z => hSr (i4 g z))))⟩ ?_
      try clear c0; try clear f0; try clear c1; try clear f1; try clear c2; try clear f2; try clear c3; try clear f3; try clear c4; try clear f4
      clear HR0 HW0 HT0 HQ3 HQ4
      rintro X1 ⟨⟨cs, hw, rfl⟩, hr, ht, q3, q4⟩
      have HW0 := Lib.hid hw; have HR0 := Lib.hid hr; have HT0 := Lib.hid ht; clear hw hr ht
      have HQ3 := Lib.hid q3; clear q3
      have HQ4 := Lib.hid q4; clear q4
      refine (HTx.out X1 (k + c + 1 + 1) _ (by omega) (by omega) (by omega)).mono ?_
      rintro e X2 ⟨rfl, hb⟩
      have HW1 := Lib.hid (HW0.out.same (hb.block _ HW0.out.lt)); have HR1 := Lib.hid (HR0.out.turn (by rw [mkTo_length _ _ _ hj]; exact hlt) (Turn.of_below hb)); have HT1 := Lib.hid (HT0.out.trans (Turn.of_below hb))
      have HP3 := Lib.hid (HQ3.out.frame (Same.of_below' hb))
      have HP4 := Lib.hid (HQ4.out.frame (Same.of_below' hb))
      clear hb HW0 HR0 HT0 HQ3 HQ4
      have HW0 := HW1; have HR0 := HR1; have HT0 := HT1; clear HW1 HR1 HT1
      have HQ3 := HP3; clear HP3
      have HQ4 := HP4; clear HP4
      have c0 := HW0.out.cells 0 (by simp)
      have c0 : X2.cell? ⟨g, j * 5, none⟩ = some (.int .i64 ((k + c : Nat) : Int)) := c0
      have f0 : X2.frozen? ⟨g, j * 5, none⟩ = false := HW0.out.soft _
      have c1 := HW0.out.cells 1 (by simp)
      have c1 : X2.cell? ⟨g, j * 5 + 1, none⟩ = some (.int .i64 ((k + c + 1 : Nat) : Int)) := c1
      have f1 : X2.frozen? ⟨g, j * 5 + 1, none⟩ = false := HW0.out.soft _
      have c2 := HW0.out.cells 2 (by simp)
      have c2 : X2.cell? ⟨g, j * 5 + 2, none⟩ = some (.string a2) := c2
      have f2 : X2.frozen? ⟨g, j * 5 + 2, none⟩ = false := HW0.out.soft _
      have c3 := HW0.out.cells 3 (by simp)
      have c3 : X2.cell? ⟨g, j * 5 + 3, none⟩ = some (u3) := c3
      have f3 : X2.frozen? ⟨g, j * 5 + 3, none⟩ = false := HW0.out.soft _
      have c4 := HW0.out.cells 4 (by simp)
      have c4 : X2.cell? ⟨g, j * 5 + 4, none⟩ = some (u4) := c4
      have f4 : X2.frozen? ⟨g, j * 5 + 4, none⟩ = false := HW0.out.soft _
      go_wp2_with fail
      refine calls_by (fun W => (∃ cs : List Value, RowAt W g (j * (changeE).n) cs ∧ cs = [.int .i64 ((k + c : Nat) : Int), .int .i64 ((k + c + 1 : Nat) : Int), .string (mkT (k + c + 1 + 1)), u3, u4]) ∧ Rest changeE S W (mkTo changeE k d j) g j Sr ∧ Turn S w W ∧ SlOwn rdnE S3 W (a3) u3 ∧ SlOwn attrE S4 W (a4) u4) ⟨⟨_, (HW0.out.store (j := 2) (by simp) _), by simp only [List.set_cons_zero, List.set_cons_succ, List.cons.injEq, Value.int.injEq, Value.bool.injEq, true_and, and_true] <;> omega⟩, (HR0.out.store (u := 2) (by decide) _), (HT0.out.trans (Turn.store _ _ _ hSg)), (HQ3.out.frame (Same.set _ _ _ (fun z => hSr (i3 g z)))), (HQ4.out.frame (Same.set _ _ _ (fun z => hSr (i4 g z))))⟩ ?_
      try clear c0; try clear f0; try clear c1; try clear f1; try clear c2; try clear f2; try clear c3; try clear f3; try clear c4; try clear f4
      clear HR0 HW0 HT0 HQ3 HQ4
      rintro X3 ⟨⟨cs, hw, rfl⟩, hr, ht, q3, q4⟩
      have HW0 := Lib.hid hw; have HR0 := Lib.hid hr; have HT0 := Lib.hid ht; clear hw hr ht
      have HQ3 := Lib.hid q3; clear q3
      have HQ4 := Lib.hid q4; clear q4
      refine (HM3.out X3 S3 u3 a3 (k + c + 1 + 1 + 1) _ (by omega) HQ3.out hl3 hz3 (by omega) (by rw [Hm3.out]; omega)).mono ?_
      rintro e X4 ⟨rfl, q3, ht⟩
      have HW1 := Lib.hid (HW0.out.same (ht.block _ HW0.out.lt (fun z => hSr (i3 g z)))); have HR1 := Lib.hid (HR0.out.turn (by rw [mkTo_length _ _ _ hj]; exact hlt) (ht.wide i3)); have HT1 := Lib.hid (HT0.out.trans (ht.wide (fun z y => hSub z (i3 z y))))
      have HP3 := Lib.hid q3; clear q3
      have HP4 := Lib.hid (HQ4.out.frame (ht.same (fun z y1 y2 => d3_4 z y2 y1)))
      clear ht HW0 HR0 HT0 HQ3 HQ4
      have HW0 := HW1; have HR0 := HR1; have HT0 := HT1; clear HW1 HR1 HT1
      have HQ3 := HP3; clear HP3
      have HQ4 := HP4; clear HP4
      rw [Hm3.out]
      have c0 := HW0.out.cells 0 (by simp)
      have c0 : X4.cell? ⟨g, j * 5, none⟩ = some (.int .i64 ((k + c : Nat) : Int)) := c0
      have f0 : X4.frozen? ⟨g, j * 5, none⟩ = false := HW0.out.soft _
      have c1 := HW0.out.cells 1 (by simp)
      have c1 : X4.cell? ⟨g, j * 5 + 1, none⟩ = some (.int .i64 ((k + c + 1 : Nat) : Int)) := c1
      have f1 : X4.frozen? ⟨g, j * 5 + 1, none⟩ = false := HW0.out.soft _
      have c2 := HW0.out.cells 2 (by simp)
      have c2 : X4.cell? ⟨g, j * 5 + 2, none⟩ = some (.string (mkT (k + c + 1 + 1))) := c2
      have f2 : X4.frozen? ⟨g, j * 5 + 2, none⟩ = false := HW0.out.soft _
      have c3 := HW0.out.cells 3 (by simp)
      have c3 : X4.cell? ⟨g, j * 5 + 3, none⟩ = some (u3) := c3
      have f3 : X4.frozen? ⟨g, j * 5 + 3, none⟩ = false := HW0.out.soft _
      have c4 := HW0.out.cells 4 (by simp)
      have c4 : X4.cell? ⟨g, j * 5 + 4, none⟩ = some (u4) := c4
      have f4 : X4.frozen? ⟨g, j * 5 + 4, none⟩ = false := HW0.out.soft _
      go_wp2_with fail
      refine (HM4.out X4 S4 u4 a4 (k + c + 1 + 1 + 1 + m3) _ (by omega) HQ4.out hl4 hz4 (by omega) (by rw [Hm4.out]; omega)).mono ?_
      rintro e X5 ⟨rfl, q4, ht⟩
      have HW1 := Lib.hid (HW0.out.same (ht.block _ HW0.out.lt (fun z => hSr (i4 g z)))); have HR1 := Lib.hid (HR0.out.turn (by rw [mkTo_length _ _ _ hj]; exact hlt) (ht.wide i4)); have HT1 := Lib.hid (HT0.out.trans (ht.wide (fun z y => hSub z (i4 z y))))
      have HP3 := Lib.hid (HQ3.out.frame (ht.same (d3_4)))
      have HP4 := Lib.hid q4; clear q4
      clear ht HW0 HR0 HT0 HQ3 HQ4
      have HW0 := HW1; have HR0 := HR1; have HT0 := HT1; clear HW1 HR1 HT1
      have HQ3 := HP3; clear HP3
      have HQ4 := HP4; clear HP4
      rw [Hm4.out]
      try clear c0; try clear f0; try clear c1; try clear f1; try clear c2; try clear f2; try clear c3; try clear f3; try clear c4; try clear f4
      have c0 := HW0.out.cells 0 (by simp)
      have c0 : X5.cell? ⟨g, j * 5, none⟩ = some (.int .i64 ((k + c : Nat) : Int)) := c0
      have f0 : X5.frozen? ⟨g, j * 5, none⟩ = false := HW0.out.soft _
      have c1 := HW0.out.cells 1 (by simp)
      have c1 : X5.cell? ⟨g, j * 5 + 1, none⟩ = some (.int .i64 ((k + c + 1 : Nat) : Int)) := c1
      have f1 : X5.frozen? ⟨g, j * 5 + 1, none⟩ = false := HW0.out.soft _
      have c2 := HW0.out.cells 2 (by simp)
      have c2 : X5.cell? ⟨g, j * 5 + 2, none⟩ = some (.string (mkT (k + c + 1 + 1))) := c2
      have f2 : X5.frozen? ⟨g, j * 5 + 2, none⟩ = false := HW0.out.soft _
      have c3 := HW0.out.cells 3 (by simp)
      have c3 : X5.cell? ⟨g, j * 5 + 3, none⟩ = some (u3) := c3
      have f3 : X5.frozen? ⟨g, j * 5 + 3, none⟩ = false := HW0.out.soft _
      have c4 := HW0.out.cells 4 (by simp)
      have c4 : X5.cell? ⟨g, j * 5 + 4, none⟩ = some (u4) := c4
      have f4 : X5.frozen? ⟨g, j * 5 + 4, none⟩ = false := HW0.out.soft _
      go_wp2
      go_roundw
      case rel =>
        refine ⟨j + 1, by omega, by go_num, ?_, mk_close (cs := [.int .i64 ((k + c : Nat) : Int), .int .i64 ((k + c + 1 : Nat) : Int), .string (mkT (k + c + 1 + 1)), u3, u4]) HR0.out hlt hcap (RowAt.cong HW0.out ?_) ?_, HT0.out⟩
        · rw [HCs.out, HX.out, hct]; first | (congr 1; done) | (congr 1; omega)
        · simp only [List.set_cons_zero, List.set_cons_succ, List.cons.injEq, Value.int.injEq, Value.bool.injEq, true_and, and_true]
          first | done | omega | (refine ⟨?_, ?_⟩ <;> first | omega | (rw [Bool.eq_iff_iff]; simp; omega)) | (rw [Bool.eq_iff_iff]; simp; omega)
        · rw [Hc.out, HX.out]
          have e3 := Hm3.out
          have e4 := Hm4.out
          subst e3 e4
          exact change_pack ((k + c : Nat) : Int) ((k + c + 1 : Nat) : Int) (mkT (k + c + 1 + 1)) (mkAll rdnE (k + c + 1 + 1 + 1) a3) (mkAll attrE (k + c + 1 + 1 + 1 + (cntL rdnE a3)) a4) _ _ S3 S4 ⟨HQ3.out, i3, HQ4.out, i4, d3_4, trivial⟩
      case measure => simp [intOf]; omega
    · have e : j = d.length := by omega
      subst e
      have HOO : Hid (SlOwn changeE S wr (mkAll changeE k d) (.slice ao d.length cap)) := Lib.hid (by have := HO.out; rw [mkTo_all] at this; exact this)
      have hce : cntL changeE (d.take d.length) = cntL changeE d := by rw [List.take_length]
      rw [hce]
      go_wp2
      go_ret
      exact ⟨rfl, HOO.out, HT.out⟩
end Go.Proofs.YtmanlnlhpgdbpaaGreat
/- The helpers of the laws: marks. -/
namespace Go.Proofs.YtmanlnlhpgdbpaaGreat
open Go.RowKit
attribute [local go_sem ↓] Go.wp_at_zero Go.wp_at_succ

set_option maxRecDepth 100000 in
set_option maxHeartbeats 4000000 in
theorem markChanges_fl (a0 : Int) (a1 : (List ChangeT)) (u1 : Value) (S1 : Bs) (k : Nat) (w : World) (q1 : SlOwn changeE S1 w a1 u1) (l1 : a1.length ≤ 1048576) (z1 : szL changeE a1 ≤ 1048576) (y1 : ∀ b, S1 b → b < w.heap.size) (hk1 : 0 < k) (hk2 : k + cntL changeE a1 ≤ 1000000000) :
    Calls Tryz.prog 21 #[.agg #[.int .i64 a0, u1], .int .i64 k] w fun e w' => e = .returned (.int .i64 ((k + cntL changeE a1 : Nat) : Int)) ∧ SlOwn changeE S1 w' (mkAll changeE (k) a1) u1 ∧ Turn (fun b => S1 b) w w' := by
  have C1 : Hid (∀ (X : World) (V : List ChangeT) (m : Nat) (q : Int), q = (m : Int) → SlOwn changeE S1 X V u1 → V.length ≤ 1048576 → szL changeE V ≤ 1048576 → 0 < m → m + cntL changeE V ≤ 1000000000 → Calls Tryz.prog 51 #[u1, .int .i64 q] X fun e w' => e = .returned (.int .i64 ((m + cntL changeE V : Nat) : Int)) ∧ SlOwn changeE S1 w' (mkAll changeE m V) u1 ∧ Turn S1 X w') := Lib.hid (fun X V m q e h h0 hz h1 h2 => by subst e; exact markChangeS_at u1 V m X h h0 hz h1 h2)
  have Q1 := Lib.hid q1
  obtain ⟨o1, k1, rfl⟩ := q1.at.sl
  clear q1
  go_enter Tryz.func21, Tryz.ntmps21
  go_wp2_with fail
  refine calls_by (fun W => Below w.heap.size w W ∧ Blk W w.heap.size [.int .i64 a0, .slice o1 a1.length k1]) ⟨more' (Below.refl _ _) _, Blk.new _ _ _⟩ ?_
  rintro W0 ⟨b0, t0⟩
  have R1 := Lib.hid (Q1.out.frame (Same.of_below' b0)); clear Q1; have Q1 := R1; clear R1
  have T0 := Lib.hid t0; have M0 : Hid (Turn (fun b => S1 b) w W0) := Lib.hid (Turn.of_below b0); clear b0
  clear t0
  generalize hm1 : cntL changeE a1 = m1 at *
  have Hm1 := Lib.hid hm1; clear hm1
  refine (C1.out W0 a1 (k) _ (by omega) Q1.out l1 z1 (by omega) (by rw [Hm1.out]; omega)).mono ?_
  rintro e W1 ⟨rfl, q1, ht⟩
  rw [Hm1.out]
  have R1 := Lib.hid q1
  have T1 := Lib.hid (show Blk W1 w.heap.size _ from by obtain ⟨T, h⟩ := T0.out; exact ⟨T, (ht.block _ T0.out.lt (fun r => by first | (have := y1 _ r; omega))).trans h⟩)
  have M1 := Lib.hid (M0.out.trans (ht.wide (fun z r => by simp [r])))
  clear ht T0 M0 Q1 q1
  have Q1 := R1; clear R1
  go_wp2
  go_ret
  have e1 := Hm1.out
  subst e1
  exact ⟨ret_int (by omega), Q1.out, M1.out⟩
end Go.Proofs.YtmanlnlhpgdbpaaGreat
/- The helpers of the laws: marks. -/
namespace Go.Proofs.YtmanlnlhpgdbpaaGreat
open Go.RowKit
attribute [local go_sem ↓] Go.wp_at_zero Go.wp_at_succ

set_option maxRecDepth 100000 in
set_option maxHeartbeats 4000000 in
theorem markEntry_fl (a0 : (List RdnT)) (a1 : (List AttrT)) (u0 u1 : Value) (S0 S1 : Bs) (k : Nat) (w : World) (q0 : SlOwn rdnE S0 w a0 u0) (l0 : a0.length ≤ 1048576) (z0 : szL rdnE a0 ≤ 1048576) (q1 : SlOwn attrE S1 w a1 u1) (l1 : a1.length ≤ 1048576) (z1 : szL attrE a1 ≤ 1048576) (d0_1 : ∀ b, S0 b → ¬ S1 b) (y0 : ∀ b, S0 b → b < w.heap.size) (y1 : ∀ b, S1 b → b < w.heap.size) (hk1 : 0 < k) (hk2 : k + cntL rdnE a0 + cntL attrE a1 ≤ 1000000000) :
    Calls Tryz.prog 23 #[.agg #[u0, u1], .int .i64 k] w fun e w' => e = .returned (.int .i64 ((k + cntL rdnE a0 + cntL attrE a1 : Nat) : Int)) ∧ SlOwn rdnE S0 w' (mkAll rdnE (k) a0) u0 ∧ SlOwn attrE S1 w' (mkAll attrE (k + cntL rdnE a0) a1) u1 ∧ Turn (fun b => S0 b ∨ S1 b) w w' := by
  have C0 : Hid (∀ (X : World) (V : List RdnT) (m : Nat) (q : Int), q = (m : Int) → SlOwn rdnE S0 X V u0 → V.length ≤ 1048576 → szL rdnE V ≤ 1048576 → 0 < m → m + cntL rdnE V ≤ 1000000000 → Calls Tryz.prog 22 #[u0, .int .i64 q] X fun e w' => e = .returned (.int .i64 ((m + cntL rdnE V : Nat) : Int)) ∧ SlOwn rdnE S0 w' (mkAll rdnE m V) u0 ∧ Turn S0 X w') := Lib.hid (fun X V m q e h h0 hz h1 h2 => by subst e; exact markRdnS_at u0 V m X h h0 hz h1 h2)
  have C1 : Hid (∀ (X : World) (V : List AttrT) (m : Nat) (q : Int), q = (m : Int) → SlOwn attrE S1 X V u1 → V.length ≤ 1048576 → szL attrE V ≤ 1048576 → 0 < m → m + cntL attrE V ≤ 1000000000 → Calls Tryz.prog 53 #[u1, .int .i64 q] X fun e w' => e = .returned (.int .i64 ((m + cntL attrE V : Nat) : Int)) ∧ SlOwn attrE S1 w' (mkAll attrE m V) u1 ∧ Turn S1 X w') := Lib.hid (fun X V m q e h h0 hz h1 h2 => by subst e; exact markAttrS_at u1 V m X h h0 hz h1 h2)
  have Q0 := Lib.hid q0
  obtain ⟨o0, k0, rfl⟩ := q0.at.sl
  clear q0
  have Q1 := Lib.hid q1
  obtain ⟨o1, k1, rfl⟩ := q1.at.sl
  clear q1
  go_enter Tryz.func23, Tryz.ntmps23
  go_wp2_with fail
  refine calls_by (fun W => Below w.heap.size w W ∧ Blk W w.heap.size [.slice o0 a0.length k0, .slice o1 a1.length k1]) ⟨more' (Below.refl _ _) _, Blk.new _ _ _⟩ ?_
  rintro W0 ⟨b0, t0⟩
  have R0 := Lib.hid (Q0.out.frame (Same.of_below' b0)); clear Q0; have Q0 := R0; clear R0
  have R1 := Lib.hid (Q1.out.frame (Same.of_below' b0)); clear Q1; have Q1 := R1; clear R1
  have T0 := Lib.hid t0; have M0 : Hid (Turn (fun b => S0 b ∨ S1 b) w W0) := Lib.hid (Turn.of_below b0); clear b0
  clear t0
  generalize hm0 : cntL rdnE a0 = m0 at *
  have Hm0 := Lib.hid hm0; clear hm0
  generalize hm1 : cntL attrE a1 = m1 at *
  have Hm1 := Lib.hid hm1; clear hm1
  refine (C0.out W0 a0 (k) _ (by omega) Q0.out l0 z0 (by omega) (by rw [Hm0.out]; omega)).mono ?_
  rintro e W1 ⟨rfl, q0, ht⟩
  rw [Hm0.out]
  have R0 := Lib.hid q0
  have R1 := Lib.hid (Q1.out.frame (ht.same (fun z p r => by first | exact d0_1 z r p)))
  have T1 := Lib.hid (show Blk W1 w.heap.size _ from by obtain ⟨T, h⟩ := T0.out; exact ⟨T, (ht.block _ T0.out.lt (fun r => by first | (have := y0 _ r; omega))).trans h⟩)
  have M1 := Lib.hid (M0.out.trans (ht.wide (fun z r => by simp [r])))
  clear ht T0 M0 Q0 Q1 q0
  have Q0 := R0; clear R0
  have Q1 := R1; clear R1
  have c0 := T1.out.cell 0 rfl
  have c1 := T1.out.cell 1 rfl
  go_wp2_with fail
  refine (C1.out W1 a1 (k + m0) _ (by omega) Q1.out l1 z1 (by omega) (by rw [Hm1.out]; omega)).mono ?_
  rintro e W2 ⟨rfl, q1, ht⟩
  rw [Hm1.out]
  have R0 := Lib.hid (Q0.out.frame (ht.same (fun z p r => by first | exact d0_1 z p r)))
  have R1 := Lib.hid q1
  have T2 := Lib.hid (show Blk W2 w.heap.size _ from by obtain ⟨T, h⟩ := T1.out; exact ⟨T, (ht.block _ T1.out.lt (fun r => by first | (have := y1 _ r; omega))).trans h⟩)
  have M2 := Lib.hid (M1.out.trans (ht.wide (fun z r => by simp [r])))
  clear ht T1 M1 Q0 Q1 q1 c0 c1
  have Q0 := R0; clear R0
  have Q1 := R1; clear R1
  go_wp2
  go_ret
  have e0 := Hm0.out
  subst e0
  have e1 := Hm1.out
  subst e1
  exact ⟨ret_int (by omega), Q0.out, Q1.out, M2.out⟩
end Go.Proofs.YtmanlnlhpgdbpaaGreat
/- The helpers of the laws: marks. -/
namespace Go.Proofs.YtmanlnlhpgdbpaaGreat
open Go.RowKit
attribute [local go_sem ↓] Go.wp_at_zero Go.wp_at_succ

set_option maxRecDepth 100000 in
set_option maxHeartbeats 4000000 in
theorem markChangesOut_fl (a0 : Int) (a1 : (List ChangeT)) (a2 : (List ChangeT)) (a3 : Int) (u1 u2 : Value) (S1 S2 : Bs) (k : Nat) (w : World) (q1 : SlOwn changeE S1 w a1 u1) (l1 : a1.length ≤ 1048576) (z1 : szL changeE a1 ≤ 1048576) (q2 : SlOwn changeE S2 w a2 u2) (l2 : a2.length ≤ 1048576) (z2 : szL changeE a2 ≤ 1048576) (d1_2 : ∀ b, S1 b → ¬ S2 b) (y1 : ∀ b, S1 b → b < w.heap.size) (y2 : ∀ b, S2 b → b < w.heap.size) (hk1 : 0 < k) (hk2 : k + cntL changeE a1 + cntL changeE a2 ≤ 1000000000) :
    Calls Tryz.prog 24 #[.agg #[.int .i64 a0, u1, u2, .int .i64 a3], .int .i64 k] w fun e w' => e = .returned (.int .i64 ((k + cntL changeE a1 + cntL changeE a2 : Nat) : Int)) ∧ SlOwn changeE S1 w' (mkAll changeE (k) a1) u1 ∧ SlOwn changeE S2 w' (mkAll changeE (k + cntL changeE a1) a2) u2 ∧ Turn (fun b => S1 b ∨ S2 b) w w' := by
  have C0 : Hid (∀ (X : World) (m : Nat) (q : Int), q = (m : Int) → w.heap.size ≤ X.heap.size → SlOwn changeE S1 X a1 u1 → 0 < m → m + cntL changeE a1 ≤ 1000000000 → Calls Tryz.prog 21 #[.agg #[.int .i64 a0, u1], .int .i64 q] X fun e w' => e = .returned (.int .i64 ((m + cntL changeE a1 : Nat) : Int)) ∧ SlOwn changeE S1 w' (mkAll changeE (m) a1) u1 ∧ Turn (fun b => S1 b) X w') := Lib.hid (fun X m q e hX p1 h1 h2 => by subst e; exact markChanges_fl a0 a1 u1 S1 m X p1 l1 z1  (fun b r => Nat.lt_of_lt_of_le (y1 b r) hX) h1 h2)
  have C2 : Hid (∀ (X : World) (V : List ChangeT) (m : Nat) (q : Int), q = (m : Int) → SlOwn changeE S2 X V u2 → V.length ≤ 1048576 → szL changeE V ≤ 1048576 → 0 < m → m + cntL changeE V ≤ 1000000000 → Calls Tryz.prog 51 #[u2, .int .i64 q] X fun e w' => e = .returned (.int .i64 ((m + cntL changeE V : Nat) : Int)) ∧ SlOwn changeE S2 w' (mkAll changeE m V) u2 ∧ Turn S2 X w') := Lib.hid (fun X V m q e h h0 hz h1 h2 => by subst e; exact markChangeS_at u2 V m X h h0 hz h1 h2)
  have Q1 := Lib.hid q1
  obtain ⟨o1, k1, rfl⟩ := q1.at.sl
  clear q1
  have Q2 := Lib.hid q2
  obtain ⟨o2, k2, rfl⟩ := q2.at.sl
  clear q2
  go_enter Tryz.func24, Tryz.ntmps24
  go_wp2_with fail
  refine calls_by (fun W => Below w.heap.size w W ∧ Blk W w.heap.size [.int .i64 a0, .slice o1 a1.length k1, .slice o2 a2.length k2, .int .i64 a3]) ⟨more' (Below.refl _ _) _, Blk.new _ _ _⟩ ?_
  rintro W0 ⟨b0, t0⟩
  have R1 := Lib.hid (Q1.out.frame (Same.of_below' b0)); clear Q1; have Q1 := R1; clear R1
  have R2 := Lib.hid (Q2.out.frame (Same.of_below' b0)); clear Q2; have Q2 := R2; clear R2
  have T0 := Lib.hid t0; have M0 : Hid (Turn (fun b => S1 b ∨ S2 b) w W0) := Lib.hid (Turn.of_below b0); clear b0
  clear t0
  generalize hm1 : cntL changeE a1 = m1 at *
  have Hm1 := Lib.hid hm1; clear hm1
  generalize hm2 : cntL changeE a2 = m2 at *
  have Hm2 := Lib.hid hm2; clear hm2
  refine (C0.out W0 (k) _ (by omega) M0.out.size Q1.out (by omega) (by omega)).mono ?_
  rintro e W1 ⟨rfl, q1, ht⟩
  have R1 := Lib.hid q1
  have R2 := Lib.hid (Q2.out.frame (ht.same (fun z p r => by first | exact d1_2 z r p)))
  have T1 := Lib.hid (show Blk W1 w.heap.size _ from by obtain ⟨T, h⟩ := T0.out; exact ⟨T, (ht.block _ T0.out.lt (fun r => by first | (have := y1 _ r; omega))).trans h⟩)
  have M1 := Lib.hid (M0.out.trans (ht.wide (fun z r => by simp [r])))
  clear ht T0 M0 Q1 Q2 q1
  have Q1 := R1; clear R1
  have Q2 := R2; clear R2
  have c0 := T1.out.cell 0 rfl
  have c1 := T1.out.cell 1 rfl
  have c2 := T1.out.cell 2 rfl
  have c3 := T1.out.cell 3 rfl
  go_wp2_with fail
  refine (C2.out W1 a2 (k + m1) _ (by omega) Q2.out l2 z2 (by omega) (by rw [Hm2.out]; omega)).mono ?_
  rintro e W2 ⟨rfl, q2, ht⟩
  rw [Hm2.out]
  have R1 := Lib.hid (Q1.out.frame (ht.same (fun z p r => by first | exact d1_2 z p r)))
  have R2 := Lib.hid q2
  have T2 := Lib.hid (show Blk W2 w.heap.size _ from by obtain ⟨T, h⟩ := T1.out; exact ⟨T, (ht.block _ T1.out.lt (fun r => by first | (have := y2 _ r; omega))).trans h⟩)
  have M2 := Lib.hid (M1.out.trans (ht.wide (fun z r => by simp [r])))
  clear ht T1 M1 Q1 Q2 q2 c0 c1 c2 c3
  have Q1 := R1; clear R1
  have Q2 := R2; clear R2
  go_wp2
  go_ret
  have e1 := Hm1.out
  subst e1
  have e2 := Hm2.out
  subst e2
  exact ⟨ret_int (by omega), Q1.out, Q2.out, M2.out⟩
end Go.Proofs.YtmanlnlhpgdbpaaGreat
/- The helpers of the laws: marks asked. -/
namespace Go.Proofs.YtmanlnlhpgdbpaaGreat
open Go.RowKit
attribute [local go_sem ↓] Go.wp_at_zero Go.wp_at_succ

set_option maxRecDepth 100000 in
set_option maxHeartbeats 4000000 in
theorem heldRdnS_at {S : Bs} (v : Value) (d : List RdnT) (k : Nat) (w : World) (h : SlAt rdnE S w (mkAll rdnE k d) v) (hl : d.length ≤ 1048576) (hz : szL rdnE d ≤ 1048576) (hk1 : 0 < k) (hk2 : k + cntL rdnE d ≤ 1000000000) :
    Calls Tryz.prog 81 #[v, .int .i64 k] w fun e w' => e = .returned (.int .i64 ((k + cntL rdnE d : Nat) : Int)) ∧ Below w.heap.size w w' := by
  obtain ⟨ao, cap, rfl⟩ := h.sl
  have hml := mkAll_length rdnE k d
  rw [hml]
  rw [hml] at h
  have HS := Lib.hid h; clear h
  have HTx : Hid (∀ (X : World) (m : Nat) (q : Int), q = (m : Int) → 0 < m → m ≤ 1000000000 → Calls Tryz.prog 52 #[.int .i64 q] X fun e w' => e = .returned (.string (mkT m)) ∧ Below X.heap.size X w') := Lib.hid (fun X m q e h1 h2 => by subst e; exact markText_any m X h1 h2)
  go_enter Tryz.func81, Tryz.ntmps81
  go_wp2
  go_loopw [1, 5] (fun t i wr => ∃ j : Nat, j ≤ d.length ∧ i = .int .i64 j ∧ t = .int .i64 ((k + cntL rdnE (d.take j) : Nat) : Int) ∧ Below w.heap.size w wr) (fun _ i _ => d.length - (intOf i).toNat)
  case atStart => exact ⟨0, Nat.zero_le _, rfl, by simp [cntL], Below.refl _ _⟩
  case round =>
    obtain ⟨j, hj, rfl, rfl, hbel⟩ := hrel
    have hcl := cntL_take_le rdnE d j
    by_cases hlt : j < d.length
    · obtain ⟨b, off, x0, x1, rfl, _, hb0, hx, hc, _⟩ := rdn_row (HS.out.frame (Same.of_below' hbel)) (k := j) (by rw [hml]; exact hlt)
      have HCs := Lib.hid (cntL_take rdnE d j hlt)
      have hcs : cntL rdnE (d.take j) + (rdnE).cnt d[j] ≤ cntL rdnE d := by have := cntL_take_le rdnE d (j + 1); rw [HCs.out] at this; exact this
      rw [mkAll_get rdnE k d j hlt] at hx
      rcases hd : d[j] with ⟨a0, a1⟩
      rw [hd] at hx hcs
      have HX := Lib.hid hd
      have hct : (rdnE).cnt (a0, a1) = 1 + (1) := rfl
      rw [hct] at hcs
      have hm : ((x0, x1) : RdnT) = (mkT (k + cntL rdnE (d.take j)), mkT (k + cntL rdnE (d.take j) + 1)) := hx.symm.trans rfl
      simp only [Prod.mk.injEq] at hm
      obtain ⟨rfl, rfl⟩ := hm
      clear hx hd
      generalize hc' : cntL rdnE (d.take j) = c at *
      clear hc'
      have SK : Hid (∀ W : World, Below wr.heap.size wr W → (Below wr.heap.size wr W ∧ W.cell? ⟨b, off + j * 2, none⟩ = some (.string (mkT (k + c))) ∧ W.cell? ⟨b, off + j * 2 + 1, none⟩ = some (.string (mkT (k + c + 1))))) := Lib.hid (fun W h => ⟨h, (h.cell (p := ⟨b, _, none⟩) hb0).trans hc.1, (h.cell (p := ⟨b, _, none⟩) hb0).trans hc.2⟩)
      have hw0 : Below wr.heap.size wr wr := Below.refl _ _
      have hbd : Below wr.heap.size wr wr.drew := hw0.drew
      have HBl := Lib.hid hbel
      clear hbel hc
      have g1 : (0 : Int) ≤ (j : Int) := by omega
      have g2 : (j : Int) < (d.length : Int) := by omega
      have HT1 : Hid (∀ (X : World) (q : Int), q = ((k + c : Nat) : Int) → Below wr.heap.size wr X → Calls Tryz.prog 52 #[.int .i64 q] X fun e w' => e = .returned (.string (mkT (k + c))) ∧ Below wr.heap.size wr w') := Lib.hid (fun X q e h => (HTx.out X (k + c) q e (by omega) (by omega)).mono fun _ _ z => ⟨z.1, h.trans (z.2.mono h.size)⟩)
      have hkk : ((mkT (k + c)).toList == (mkT (k + c)).toList) = true := by simp
      generalize mkT (k + c) = A0 at *
      go_wp2_with fail
      go_region_held3 (fun W => Below wr.heap.size wr W ∧ W.cell? ⟨b, off + j * 2, none⟩ = some (.string A0) ∧ W.cell? ⟨b, off + j * 2 + 1, none⟩ = some (.string (mkT (k + c + 1))))
        (exact SK.out _ (by assumption))
        (first | (go_at_call 52; refine (HT1.out _ _ (by omega) (by assumption)).mono ?_; rintro e X1 ⟨rfl, hx1⟩) | (fail "none"))
      clear HT1 hkk
      have HT1 : Hid (∀ (X : World) (q : Int), q = ((k + c + 1 : Nat) : Int) → Below wr.heap.size wr X → Calls Tryz.prog 52 #[.int .i64 q] X fun e w' => e = .returned (.string (mkT (k + c + 1))) ∧ Below wr.heap.size wr w') := Lib.hid (fun X q e h => (HTx.out X (k + c + 1) q e (by omega) (by omega)).mono fun _ _ z => ⟨z.1, h.trans (z.2.mono h.size)⟩)
      have hkk : ((mkT (k + c + 1)).toList == (mkT (k + c + 1)).toList) = true := by simp
      generalize mkT (k + c + 1) = A1 at *
      have hdd2 := hx1.drew
      go_wp2_with fail
      go_region_held3 (fun W => Below wr.heap.size wr W ∧ W.cell? ⟨b, off + j * 2, none⟩ = some (.string A0) ∧ W.cell? ⟨b, off + j * 2 + 1, none⟩ = some (.string A1))
        (exact SK.out _ (by assumption))
        (first | (go_at_call 52; refine (HT1.out _ _ (by omega) (by assumption)).mono ?_; rintro e X2 ⟨rfl, hx2⟩) | (fail "none"))
      clear HT1 hkk
      go_wp2
      go_roundw
      case rel => exact ⟨j + 1, by omega, by go_num, by rw [HCs.out, HX.out, hct]; first | (congr 1; done) | (congr 1; omega), HBl.out.trans (hx2.mono HBl.out.size)⟩
      case measure => simp [intOf]; omega
    · have e : j = d.length := by omega
      subst e
      have hce : cntL rdnE (d.take d.length) = cntL rdnE d := by rw [List.take_length]
      rw [hce]
      go_wp2
      go_ret
      exact ⟨rfl, hbel⟩
end Go.Proofs.YtmanlnlhpgdbpaaGreat
/- The helpers of the laws: marks asked. -/
namespace Go.Proofs.YtmanlnlhpgdbpaaGreat
open Go.RowKit
attribute [local go_sem ↓] Go.wp_at_zero Go.wp_at_succ

set_option maxRecDepth 100000 in
set_option maxHeartbeats 4000000 in
theorem heldStringS_at {S : Bs} (v : Value) (d : List ByteArray) (k : Nat) (w : World) (h : SlAt strE S w (mkAll strE k d) v) (hl : d.length ≤ 1048576) (hz : szL strE d ≤ 1048576) (hk1 : 0 < k) (hk2 : k + cntL strE d ≤ 1000000000) :
    Calls Tryz.prog 101 #[v, .int .i64 k] w fun e w' => e = .returned (.int .i64 ((k + cntL strE d : Nat) : Int)) ∧ Below w.heap.size w w' := by
  obtain ⟨ao, cap, rfl⟩ := h.sl
  have hml := mkAll_length strE k d
  rw [hml]
  rw [hml] at h
  have HS := Lib.hid h; clear h
  have HTx : Hid (∀ (X : World) (m : Nat) (q : Int), q = (m : Int) → 0 < m → m ≤ 1000000000 → Calls Tryz.prog 52 #[.int .i64 q] X fun e w' => e = .returned (.string (mkT m)) ∧ Below X.heap.size X w') := Lib.hid (fun X m q e h1 h2 => by subst e; exact markText_any m X h1 h2)
  go_enter Tryz.func101, Tryz.ntmps101
  go_wp2
  go_loopw [1, 5] (fun t i wr => ∃ j : Nat, j ≤ d.length ∧ i = .int .i64 j ∧ t = .int .i64 ((k + cntL strE (d.take j) : Nat) : Int) ∧ Below w.heap.size w wr) (fun _ i _ => d.length - (intOf i).toNat)
  case atStart => exact ⟨0, Nat.zero_le _, rfl, by simp [cntL], Below.refl _ _⟩
  case round =>
    obtain ⟨j, hj, rfl, rfl, hbel⟩ := hrel
    have hcl := cntL_take_le strE d j
    by_cases hlt : j < d.length
    · obtain ⟨b, off, x0, rfl, _, hb0, hx, hc0⟩ := str_row (HS.out.frame (Same.of_below' hbel)) (k := j) (by rw [hml]; exact hlt)
      have HCs := Lib.hid (cntL_take strE d j hlt)
      have hcs : cntL strE (d.take j) + (strE).cnt d[j] ≤ cntL strE d := by have := cntL_take_le strE d (j + 1); rw [HCs.out] at this; exact this
      rw [mkAll_get strE k d j hlt] at hx
      have hx : mkT (k + cntL strE (d.take j)) = x0 := hx
      subst hx
      have hct : strE.cnt d[j] = 1 := rfl
      rw [hct] at hcs
      generalize d[j] = a0 at *
      generalize hc' : cntL strE (d.take j) = c at *
      clear hc'
      have SK : Hid (∀ W : World, Below wr.heap.size wr W → (Below wr.heap.size wr W ∧ W.cell? ⟨b, off + j, none⟩ = some (.string (mkT (k + c))))) := Lib.hid (fun W h => ⟨h, (h.cell (p := ⟨b, _, none⟩) hb0).trans hc0⟩)
      have hw0 : Below wr.heap.size wr wr := Below.refl _ _
      have hbd : Below wr.heap.size wr wr.drew := hw0.drew
      have HBl := Lib.hid hbel
      clear hbel hc0
      have g1 : (0 : Int) ≤ (j : Int) := by omega
      have g2 : (j : Int) < (d.length : Int) := by omega
      have HT1 : Hid (∀ (X : World) (q : Int), q = ((k + c : Nat) : Int) → Below wr.heap.size wr X → Calls Tryz.prog 52 #[.int .i64 q] X fun e w' => e = .returned (.string (mkT (k + c))) ∧ Below wr.heap.size wr w') := Lib.hid (fun X q e h => (HTx.out X (k + c) q e (by omega) (by omega)).mono fun _ _ z => ⟨z.1, h.trans (z.2.mono h.size)⟩)
      have hkk : ((mkT (k + c)).toList == (mkT (k + c)).toList) = true := by simp
      generalize mkT (k + c) = A0 at *
      go_wp2_with fail
      go_region_held3 (fun W => Below wr.heap.size wr W ∧ W.cell? ⟨b, off + j, none⟩ = some (.string A0))
        (exact SK.out _ (by assumption))
        (first | (go_at_call 52; refine (HT1.out _ _ (by omega) (by assumption)).mono ?_; rintro e X1 ⟨rfl, hx1⟩) | (fail "none"))
      clear HT1 hkk
      go_wp2
      go_roundw
      case rel => exact ⟨j + 1, by omega, by go_num, by rw [HCs.out, hct]; first | (congr 1; done) | (congr 1; omega), HBl.out.trans (hx1.mono HBl.out.size)⟩
      case measure => simp [intOf]; omega
    · have e : j = d.length := by omega
      subst e
      have hce : cntL strE (d.take d.length) = cntL strE d := by rw [List.take_length]
      rw [hce]
      go_wp2
      go_ret
      exact ⟨rfl, hbel⟩
end Go.Proofs.YtmanlnlhpgdbpaaGreat
/- The helpers of the laws: marks asked. -/
namespace Go.Proofs.YtmanlnlhpgdbpaaGreat
open Go.RowKit
attribute [local go_sem ↓] Go.wp_at_zero Go.wp_at_succ

set_option maxRecDepth 100000 in
set_option maxHeartbeats 4000000 in
theorem heldAttrS_at {S : Bs} (v : Value) (d : List AttrT) (k : Nat) (w : World) (h : SlAt attrE S w (mkAll attrE k d) v) (hl : d.length ≤ 1048576) (hz : szL attrE d ≤ 1048576) (hk1 : 0 < k) (hk2 : k + cntL attrE d ≤ 1000000000) :
    Calls Tryz.prog 82 #[v, .int .i64 k] w fun e w' => e = .returned (.int .i64 ((k + cntL attrE d : Nat) : Int)) ∧ Below w.heap.size w w' := by
  obtain ⟨ao, cap, rfl⟩ := h.sl
  have hml := mkAll_length attrE k d
  rw [hml]
  rw [hml] at h
  have HS := Lib.hid h; clear h
  have HTx : Hid (∀ (X : World) (m : Nat) (q : Int), q = (m : Int) → 0 < m → m ≤ 1000000000 → Calls Tryz.prog 52 #[.int .i64 q] X fun e w' => e = .returned (.string (mkT m)) ∧ Below X.heap.size X w') := Lib.hid (fun X m q e h1 h2 => by subst e; exact markText_any m X h1 h2)
  have HM1 : Hid (∀ (X : World) (u : Value) (V : List ByteArray) (m : Nat) (q : Int), q = (m : Int) → SlAt strE S X (mkAll strE m V) u → V.length ≤ 1048576 → szL strE V ≤ 1048576 → 0 < m → m + cntL strE V ≤ 1000000000 → Calls Tryz.prog 101 #[u, .int .i64 q] X fun e w' => e = .returned (.int .i64 ((m + cntL strE V : Nat) : Int)) ∧ Below X.heap.size X w') := Lib.hid (fun X u V m q e h h0 hz h1 h2 => by subst e; exact heldStringS_at u V m X h h0 hz h1 h2)
  go_enter Tryz.func82, Tryz.ntmps82
  go_wp2
  go_loopw [1, 5] (fun t i wr => ∃ j : Nat, j ≤ d.length ∧ i = .int .i64 j ∧ t = .int .i64 ((k + cntL attrE (d.take j) : Nat) : Int) ∧ Below w.heap.size w wr) (fun _ i _ => d.length - (intOf i).toNat)
  case atStart => exact ⟨0, Nat.zero_le _, rfl, by simp [cntL], Below.refl _ _⟩
  case round =>
    obtain ⟨j, hj, rfl, rfl, hbel⟩ := hrel
    have hcl := cntL_take_le attrE d j
    by_cases hlt : j < d.length
    · obtain ⟨b, off, x0, x1, u1, rfl, _, hb0, hx, hc, q1, _⟩ := attr_row (HS.out.frame (Same.of_below' hbel)) (k := j) (by rw [hml]; exact hlt)
      have HCs := Lib.hid (cntL_take attrE d j hlt)
      have hcs : cntL attrE (d.take j) + (attrE).cnt d[j] ≤ cntL attrE d := by have := cntL_take_le attrE d (j + 1); rw [HCs.out] at this; exact this
      rw [mkAll_get attrE k d j hlt] at hx
      rcases hd : d[j] with ⟨a0, a1⟩
      rw [hd] at hx hcs
      have HX := Lib.hid hd
      have hct : (attrE).cnt (a0, a1) = 1 + (cntL strE a1) := rfl
      rw [hct] at hcs
      have hl1 : a1.length ≤ 1048576 := by have := szL_mem attrE (List.getElem_mem hlt); rw [hd] at this; have h2 : (attrE).sz (a0, a1) = a0.size + ((a1.length + szL strE a1)) := rfl; rw [h2] at this; omega
      have hz1 : szL strE a1 ≤ 1048576 := by have := szL_mem attrE (List.getElem_mem hlt); rw [hd] at this; have h2 : (attrE).sz (a0, a1) = a0.size + ((a1.length + szL strE a1)) := rfl; rw [h2] at this; omega
      have hm : ((x0, x1) : AttrT) = (mkT (k + cntL attrE (d.take j)), mkAll strE (k + cntL attrE (d.take j) + 1) a1) := hx.symm.trans rfl
      simp only [Prod.mk.injEq] at hm
      obtain ⟨rfl, rfl⟩ := hm
      clear hx hd
      have HQ1 := Lib.hid q1; clear q1
      generalize hc' : cntL attrE (d.take j) = c at *
      clear hc'
      generalize hm1 : cntL strE a1 = m1 at *
      have Hm1 := Lib.hid hm1; clear hm1
      have SK : Hid (∀ W : World, Below wr.heap.size wr W → (Below wr.heap.size wr W ∧ W.cell? ⟨b, off + j * 2, none⟩ = some (.string (mkT (k + c))) ∧ W.cell? ⟨b, off + j * 2 + 1, none⟩ = some (u1))) := Lib.hid (fun W h => ⟨h, (h.cell (p := ⟨b, _, none⟩) hb0).trans hc.1, (h.cell (p := ⟨b, _, none⟩) hb0).trans hc.2⟩)
      have hw0 : Below wr.heap.size wr wr := Below.refl _ _
      have hbd : Below wr.heap.size wr wr.drew := hw0.drew
      have HBl := Lib.hid hbel
      clear hbel hc
      have g1 : (0 : Int) ≤ (j : Int) := by omega
      have g2 : (j : Int) < (d.length : Int) := by omega
      have HT1 : Hid (∀ (X : World) (q : Int), q = ((k + c : Nat) : Int) → Below wr.heap.size wr X → Calls Tryz.prog 52 #[.int .i64 q] X fun e w' => e = .returned (.string (mkT (k + c))) ∧ Below wr.heap.size wr w') := Lib.hid (fun X q e h => (HTx.out X (k + c) q e (by omega) (by omega)).mono fun _ _ z => ⟨z.1, h.trans (z.2.mono h.size)⟩)
      have hkk : ((mkT (k + c)).toList == (mkT (k + c)).toList) = true := by simp
      generalize mkT (k + c) = A0 at *
      go_wp2_with fail
      go_region_held3 (fun W => Below wr.heap.size wr W ∧ W.cell? ⟨b, off + j * 2, none⟩ = some (.string A0) ∧ W.cell? ⟨b, off + j * 2 + 1, none⟩ = some (u1))
        (exact SK.out _ (by assumption))
        (first | (go_at_call 52; refine (HT1.out _ _ (by omega) (by assumption)).mono ?_; rintro e X1 ⟨rfl, hx1⟩) | (fail "none"))
      clear HT1 hkk
      have HN := Lib.hid (HM1.out X1 u1 a1 (k + c + 1) _ rfl (HQ1.out.frame (Same.of_below' hx1)) hl1 hz1 (by omega) (by rw [Hm1.out]; omega))
      rw [Hm1.out] at HN
      obtain ⟨_, c0, c1⟩ := SK.out X1 hx1
      have hq : ¬ ((k + c + 1 + m1 : Nat) : Int) < 0 := by omega
      obtain ⟨p1, n1, j1, rfl⟩ : ∃ p n j, u1 = .slice p n j := by obtain ⟨p, j, z⟩ := HQ1.out.sl; exact ⟨p, _, j, z⟩
      go_wp2_with fail
      refine (calls_int HN.out (by omega)).mono ?_
      rintro e X2 ⟨rfl, hb⟩
      have hx2 := hx1.trans (hb.mono hx1.size)
      clear HN hb c0 c1
      go_wp2
      go_roundw
      case rel => exact ⟨j + 1, by omega, by go_num, by rw [HCs.out, HX.out, hct]; first | (congr 1; done) | (congr 1; omega), HBl.out.trans (hx2.mono HBl.out.size)⟩
      case measure => simp [intOf]; omega
    · have e : j = d.length := by omega
      subst e
      have hce : cntL attrE (d.take d.length) = cntL attrE d := by rw [List.take_length]
      rw [hce]
      go_wp2
      go_ret
      exact ⟨rfl, hbel⟩
end Go.Proofs.YtmanlnlhpgdbpaaGreat
/- The helpers of the laws: marks asked. -/
namespace Go.Proofs.YtmanlnlhpgdbpaaGreat
open Go.RowKit
attribute [local go_sem ↓] Go.wp_at_zero Go.wp_at_succ

end Go.Proofs.YtmanlnlhpgdbpaaGreat
/- The helpers of the laws: marks asked. -/
namespace Go.Proofs.YtmanlnlhpgdbpaaGreat
open Go.RowKit
attribute [local go_sem ↓] Go.wp_at_zero Go.wp_at_succ

set_option maxRecDepth 100000 in
set_option maxHeartbeats 4000000 in
theorem heldChangeS_at {S : Bs} (v : Value) (d : List ChangeT) (k : Nat) (w : World) (h : SlAt changeE S w (mkAll changeE k d) v) (hl : d.length ≤ 1048576) (hz : szL changeE d ≤ 1048576) (hk1 : 0 < k) (hk2 : k + cntL changeE d ≤ 1000000000) :
    Calls Tryz.prog 55 #[v, .int .i64 k] w fun e w' => e = .returned (.int .i64 ((k + cntL changeE d : Nat) : Int)) ∧ Below w.heap.size w w' := by
  obtain ⟨ao, cap, rfl⟩ := h.sl
  have hml := mkAll_length changeE k d
  rw [hml]
  rw [hml] at h
  have HS := Lib.hid h; clear h
  have HTx : Hid (∀ (X : World) (m : Nat) (q : Int), q = (m : Int) → 0 < m → m ≤ 1000000000 → Calls Tryz.prog 52 #[.int .i64 q] X fun e w' => e = .returned (.string (mkT m)) ∧ Below X.heap.size X w') := Lib.hid (fun X m q e h1 h2 => by subst e; exact markText_any m X h1 h2)
  have HM3 : Hid (∀ (X : World) (u : Value) (V : List RdnT) (m : Nat) (q : Int), q = (m : Int) → SlAt rdnE S X (mkAll rdnE m V) u → V.length ≤ 1048576 → szL rdnE V ≤ 1048576 → 0 < m → m + cntL rdnE V ≤ 1000000000 → Calls Tryz.prog 81 #[u, .int .i64 q] X fun e w' => e = .returned (.int .i64 ((m + cntL rdnE V : Nat) : Int)) ∧ Below X.heap.size X w') := Lib.hid (fun X u V m q e h h0 hz h1 h2 => by subst e; exact heldRdnS_at u V m X h h0 hz h1 h2)
  have HM4 : Hid (∀ (X : World) (u : Value) (V : List AttrT) (m : Nat) (q : Int), q = (m : Int) → SlAt attrE S X (mkAll attrE m V) u → V.length ≤ 1048576 → szL attrE V ≤ 1048576 → 0 < m → m + cntL attrE V ≤ 1000000000 → Calls Tryz.prog 82 #[u, .int .i64 q] X fun e w' => e = .returned (.int .i64 ((m + cntL attrE V : Nat) : Int)) ∧ Below X.heap.size X w') := Lib.hid (fun X u V m q e h h0 hz h1 h2 => by subst e; exact heldAttrS_at u V m X h h0 hz h1 h2)
  go_enter Tryz.func55, Tryz.ntmps55
  go_wp2
  go_loopw [1, 5] (fun t i wr => ∃ j : Nat, j ≤ d.length ∧ i = .int .i64 j ∧ t = .int .i64 ((k + cntL changeE (d.take j) : Nat) : Int) ∧ Below w.heap.size w wr) (fun _ i _ => d.length - (intOf i).toNat)
  case atStart => exact ⟨0, Nat.zero_le _, rfl, by simp [cntL], Below.refl _ _⟩
  case round =>
    obtain ⟨j, hj, rfl, rfl, hbel⟩ := hrel
    have hcl := cntL_take_le changeE d j
    by_cases hlt : j < d.length
    · obtain ⟨b, off, x0, x1, x2, x3, x4, u3, u4, rfl, _, hb0, hx, hc, q3, q4, _⟩ := change_row (HS.out.frame (Same.of_below' hbel)) (k := j) (by rw [hml]; exact hlt)
      have HCs := Lib.hid (cntL_take changeE d j hlt)
      have hcs : cntL changeE (d.take j) + (changeE).cnt d[j] ≤ cntL changeE d := by have := cntL_take_le changeE d (j + 1); rw [HCs.out] at this; exact this
      rw [mkAll_get changeE k d j hlt] at hx
      rcases hd : d[j] with ⟨a0, a1, a2, ⟨a3, a4⟩⟩
      rw [hd] at hx hcs
      have HX := Lib.hid hd
      have hct : (changeE).cnt (a0, a1, a2, (a3, a4)) = 1 + (1 + (1 + ((cntL rdnE a3 + (cntL attrE a4))))) := rfl
      rw [hct] at hcs
      have hl3 : a3.length ≤ 1048576 := by have := szL_mem changeE (List.getElem_mem hlt); rw [hd] at this; have h2 : (changeE).sz (a0, a1, a2, (a3, a4)) = 0 + (0 + (a2.size + (((a3.length + szL rdnE a3) + ((a4.length + szL attrE a4)))))) := rfl; rw [h2] at this; omega
      have hz3 : szL rdnE a3 ≤ 1048576 := by have := szL_mem changeE (List.getElem_mem hlt); rw [hd] at this; have h2 : (changeE).sz (a0, a1, a2, (a3, a4)) = 0 + (0 + (a2.size + (((a3.length + szL rdnE a3) + ((a4.length + szL attrE a4)))))) := rfl; rw [h2] at this; omega
      have hl4 : a4.length ≤ 1048576 := by have := szL_mem changeE (List.getElem_mem hlt); rw [hd] at this; have h2 : (changeE).sz (a0, a1, a2, (a3, a4)) = 0 + (0 + (a2.size + (((a3.length + szL rdnE a3) + ((a4.length + szL attrE a4)))))) := rfl; rw [h2] at this; omega
      have hz4 : szL attrE a4 ≤ 1048576 := by have := szL_mem changeE (List.getElem_mem hlt); rw [hd] at this; have h2 : (changeE).sz (a0, a1, a2, (a3, a4)) = 0 + (0 + (a2.size + (((a3.length + szL rdnE a3) + ((a4.length + szL attrE a4)))))) := rfl; rw [h2] at this; omega
      have hm : ((x0, x1, x2, (x3, x4)) : ChangeT) = (((k + cntL changeE (d.take j) : Nat) : Int), ((k + cntL changeE (d.take j) + 1 : Nat) : Int), mkT (k + cntL changeE (d.take j) + 1 + 1), (mkAll rdnE (k + cntL changeE (d.take j) + 1 + 1 + 1) a3, mkAll attrE (k + cntL changeE (d.take j) + 1 + 1 + 1 + cntL rdnE a3) a4)) := hx.symm.trans rfl
      simp only [Prod.mk.injEq] at hm
      obtain ⟨rfl, rfl, rfl, ⟨rfl, rfl⟩⟩ := hm
      clear hx hd
      have HQ3 := Lib.hid q3; clear q3
      have HQ4 := Lib.hid q4; clear q4
      generalize hc' : cntL changeE (d.take j) = c at *
      clear hc'
      generalize hm3 : cntL rdnE a3 = m3 at *
      have Hm3 := Lib.hid hm3; clear hm3
      generalize hm4 : cntL attrE a4 = m4 at *
      have Hm4 := Lib.hid hm4; clear hm4
      have SK : Hid (∀ W : World, Below wr.heap.size wr W → (Below wr.heap.size wr W ∧ W.cell? ⟨b, off + j * 5, none⟩ = some (.int .i64 ((k + c : Nat) : Int)) ∧ W.cell? ⟨b, off + j * 5 + 1, none⟩ = some (.int .i64 ((k + c + 1 : Nat) : Int)) ∧ W.cell? ⟨b, off + j * 5 + 2, none⟩ = some (.string (mkT (k + c + 1 + 1))) ∧ W.cell? ⟨b, off + j * 5 + 3, none⟩ = some (u3) ∧ W.cell? ⟨b, off + j * 5 + 4, none⟩ = some (u4))) := Lib.hid (fun W h => ⟨h, (h.cell (p := ⟨b, _, none⟩) hb0).trans hc.1, (h.cell (p := ⟨b, _, none⟩) hb0).trans hc.2.1, (h.cell (p := ⟨b, _, none⟩) hb0).trans hc.2.2.1, (h.cell (p := ⟨b, _, none⟩) hb0).trans hc.2.2.2.1, (h.cell (p := ⟨b, _, none⟩) hb0).trans hc.2.2.2.2⟩)
      have hw0 : Below wr.heap.size wr wr := Below.refl _ _
      have hbd : Below wr.heap.size wr wr.drew := hw0.drew
      have HBl := Lib.hid hbel
      clear hbel hc
      have g1 : (0 : Int) ≤ (j : Int) := by omega
      have g2 : (j : Int) < (d.length : Int) := by omega
      obtain ⟨_, c0, c1, c2, c3, c4⟩ := SK.out wr hw0
      obtain ⟨_, c0, c1, c2, c3, c4⟩ := SK.out wr hw0
      have HT1 : Hid (∀ (X : World) (q : Int), q = ((k + c + 1 + 1 : Nat) : Int) → Below wr.heap.size wr X → Calls Tryz.prog 52 #[.int .i64 q] X fun e w' => e = .returned (.string (mkT (k + c + 1 + 1))) ∧ Below wr.heap.size wr w') := Lib.hid (fun X q e h => (HTx.out X (k + c + 1 + 1) q e (by omega) (by omega)).mono fun _ _ z => ⟨z.1, h.trans (z.2.mono h.size)⟩)
      have hkk : ((mkT (k + c + 1 + 1)).toList == (mkT (k + c + 1 + 1)).toList) = true := by simp
      generalize mkT (k + c + 1 + 1) = A2 at *
      go_wp2_with fail
      go_region_held3 (fun W => Below wr.heap.size wr W ∧ W.cell? ⟨b, off + j * 5, none⟩ = some (.int .i64 ((k + c : Nat) : Int)) ∧ W.cell? ⟨b, off + j * 5 + 1, none⟩ = some (.int .i64 ((k + c + 1 : Nat) : Int)) ∧ W.cell? ⟨b, off + j * 5 + 2, none⟩ = some (.string A2) ∧ W.cell? ⟨b, off + j * 5 + 3, none⟩ = some (u3) ∧ W.cell? ⟨b, off + j * 5 + 4, none⟩ = some (u4))
        (exact SK.out _ (by assumption))
        (first | (go_at_call 52; refine (HT1.out _ _ (by omega) (by assumption)).mono ?_; rintro e X1 ⟨rfl, hx1⟩) | (fail "none"))
      clear HT1 hkk
      have HN := Lib.hid (HM3.out X1 u3 a3 (k + c + 1 + 1 + 1) _ rfl (HQ3.out.frame (Same.of_below' hx1)) hl3 hz3 (by omega) (by rw [Hm3.out]; omega))
      rw [Hm3.out] at HN
      obtain ⟨_, c0, c1, c2, c3, c4⟩ := SK.out X1 hx1
      have hq : ¬ ((k + c + 1 + 1 + 1 + m3 : Nat) : Int) < 0 := by omega
      obtain ⟨p3, n3, j3, rfl⟩ : ∃ p n j, u3 = .slice p n j := by obtain ⟨p, j, z⟩ := HQ3.out.sl; exact ⟨p, _, j, z⟩
      go_wp2_with fail
      refine (calls_int HN.out (by omega)).mono ?_
      rintro e X2 ⟨rfl, hb⟩
      have hx2 := hx1.trans (hb.mono hx1.size)
      clear HN hb c0 c1 c2 c3 c4
      have HN := Lib.hid (HM4.out X2 u4 a4 (k + c + 1 + 1 + 1 + m3) _ rfl (HQ4.out.frame (Same.of_below' hx2)) hl4 hz4 (by omega) (by rw [Hm4.out]; omega))
      rw [Hm4.out] at HN
      obtain ⟨_, c0, c1, c2, c3, c4⟩ := SK.out X2 hx2
      have hq : ¬ ((k + c + 1 + 1 + 1 + m3 + m4 : Nat) : Int) < 0 := by omega
      obtain ⟨p4, n4, j4, rfl⟩ : ∃ p n j, u4 = .slice p n j := by obtain ⟨p, j, z⟩ := HQ4.out.sl; exact ⟨p, _, j, z⟩
      go_wp2_with fail
      refine (calls_int HN.out (by omega)).mono ?_
      rintro e X3 ⟨rfl, hb⟩
      have hx3 := hx2.trans (hb.mono hx2.size)
      clear HN hb c0 c1 c2 c3 c4
      go_wp2
      go_roundw
      case rel => exact ⟨j + 1, by omega, by go_num, by rw [HCs.out, HX.out, hct]; first | (congr 1; done) | (congr 1; omega), HBl.out.trans (hx3.mono HBl.out.size)⟩
      case measure => simp [intOf]; omega
    · have e : j = d.length := by omega
      subst e
      have hce : cntL changeE (d.take d.length) = cntL changeE d := by rw [List.take_length]
      rw [hce]
      go_wp2
      go_ret
      exact ⟨rfl, hbel⟩
end Go.Proofs.YtmanlnlhpgdbpaaGreat
/- The helpers of the laws: marks asked. -/
namespace Go.Proofs.YtmanlnlhpgdbpaaGreat
open Go.RowKit
attribute [local go_sem ↓] Go.wp_at_zero Go.wp_at_succ

set_option maxRecDepth 100000 in
set_option maxHeartbeats 4000000 in
theorem heldChanges_fl {S1 : Bs} (a0 : Int) (a1 : (List ChangeT)) (u1 : Value) (k : Nat) (w : World) (q1 : SlAt changeE S1 w (mkAll changeE (k) a1) u1) (l1 : a1.length ≤ 1048576) (z1 : szL changeE a1 ≤ 1048576) (hk1 : 0 < k) (hk2 : k + cntL changeE a1 ≤ 1000000000) :
    Calls Tryz.prog 54 #[.agg #[.int .i64 a0, u1], .int .i64 k] w fun e w' => e = .returned (.int .i64 ((k + cntL changeE a1 : Nat) : Int)) ∧ Below w.heap.size w w' := by
  have C1 : Hid (∀ (X : World) (q : Int), q = ((k : Nat) : Int) → Below w.heap.size w X → Calls Tryz.prog 55 #[u1, .int .i64 q] X fun e w' => e = .returned (.int .i64 ((k + cntL changeE a1 : Nat) : Int)) ∧ Below X.heap.size X w') := Lib.hid (fun X q e h => by subst e; exact heldChangeS_at u1 a1 (k) X (q1.frame (Same.of_below' h)) l1 z1 (by omega) (by omega))
  obtain ⟨o1, k1, rfl⟩ := q1.sl
  rw [mkAll_length] at *
  clear q1
  generalize hm1 : cntL changeE a1 = m1 at *
  have Hm1 := Lib.hid hm1; clear hm1
  go_enter Tryz.func54, Tryz.ntmps54
  go_wp2_with fail
  refine calls_by (fun W => Below w.heap.size w W ∧ Blk W w.heap.size [.int .i64 a0, .slice o1 a1.length k1]) ⟨more' (Below.refl _ _) _, Blk.new _ _ _⟩ ?_
  rintro W0 ⟨b0, t0⟩
  have T0 := Lib.hid t0; clear t0
  refine (C1.out W0 _ (by omega) b0).mono ?_
  rintro e W1 ⟨rfl, hb⟩
  have T1 := Lib.hid (T0.out.below hb); have b1 := b0.trans (hb.mono b0.size)
  have hq0 : ¬ ((k + m1 : Nat) : Int) < 0 := by omega
  clear hb b0 T0
  go_wp2
  go_ret
  have e1 := Hm1.out
  subst e1
  exact ⟨ret_int (by omega), b1⟩
end Go.Proofs.YtmanlnlhpgdbpaaGreat
/- The helpers of the laws: marks asked. -/
namespace Go.Proofs.YtmanlnlhpgdbpaaGreat
open Go.RowKit
attribute [local go_sem ↓] Go.wp_at_zero Go.wp_at_succ

set_option maxRecDepth 100000 in
set_option maxHeartbeats 4000000 in
theorem heldChangesOut_fl {S1 S2 : Bs} (a0 : Int) (a1 : (List ChangeT)) (a2 : (List ChangeT)) (a3 : Int) (u1 u2 : Value) (k : Nat) (w : World) (q1 : SlAt changeE S1 w (mkAll changeE (k) a1) u1) (l1 : a1.length ≤ 1048576) (z1 : szL changeE a1 ≤ 1048576) (q2 : SlAt changeE S2 w (mkAll changeE (k + cntL changeE a1) a2) u2) (l2 : a2.length ≤ 1048576) (z2 : szL changeE a2 ≤ 1048576) (hk1 : 0 < k) (hk2 : k + cntL changeE a1 + cntL changeE a2 ≤ 1000000000) :
    Calls Tryz.prog 25 #[.agg #[.int .i64 a0, u1, u2, .int .i64 a3], .int .i64 k] w fun e w' => e = .returned (.int .i64 ((k + cntL changeE a1 + cntL changeE a2 : Nat) : Int)) ∧ Below w.heap.size w w' := by
  have C0 : Hid (∀ (X : World) (q : Int), q = ((k : Nat) : Int) → Below w.heap.size w X → Calls Tryz.prog 54 #[.agg #[.int .i64 a0, u1], .int .i64 q] X fun e w' => e = .returned (.int .i64 ((k + cntL changeE a1 : Nat) : Int)) ∧ Below X.heap.size X w') := Lib.hid (fun X q e h => by subst e; exact heldChanges_fl a0 a1 u1 (k) X (q1.frame (Same.of_below' h)) l1 z1 (by omega) (by omega))
  have C2 : Hid (∀ (X : World) (q : Int), q = ((k + cntL changeE a1 : Nat) : Int) → Below w.heap.size w X → Calls Tryz.prog 55 #[u2, .int .i64 q] X fun e w' => e = .returned (.int .i64 ((k + cntL changeE a1 + cntL changeE a2 : Nat) : Int)) ∧ Below X.heap.size X w') := Lib.hid (fun X q e h => by subst e; exact heldChangeS_at u2 a2 (k + cntL changeE a1) X (q2.frame (Same.of_below' h)) l2 z2 (by omega) (by omega))
  obtain ⟨o1, k1, rfl⟩ := q1.sl
  rw [mkAll_length] at *
  clear q1
  obtain ⟨o2, k2, rfl⟩ := q2.sl
  rw [mkAll_length] at *
  clear q2
  generalize hm1 : cntL changeE a1 = m1 at *
  have Hm1 := Lib.hid hm1; clear hm1
  generalize hm2 : cntL changeE a2 = m2 at *
  have Hm2 := Lib.hid hm2; clear hm2
  go_enter Tryz.func25, Tryz.ntmps25
  go_wp2_with fail
  refine calls_by (fun W => Below w.heap.size w W ∧ Blk W w.heap.size [.int .i64 a0, .slice o1 a1.length k1, .slice o2 a2.length k2, .int .i64 a3]) ⟨more' (Below.refl _ _) _, Blk.new _ _ _⟩ ?_
  rintro W0 ⟨b0, t0⟩
  have T0 := Lib.hid t0; clear t0
  refine (C0.out W0 _ (by omega) b0).mono ?_
  rintro e W1 ⟨rfl, hb⟩
  have T1 := Lib.hid (T0.out.below hb); have b1 := b0.trans (hb.mono b0.size)
  have hq0 : ¬ ((k + m1 : Nat) : Int) < 0 := by omega
  clear hb b0 T0
  have c0 := T1.out.cell 0 rfl
  have c1 := T1.out.cell 1 rfl
  have c2 := T1.out.cell 2 rfl
  have c3 := T1.out.cell 3 rfl
  go_wp2_with fail
  refine (C2.out W1 _ (by omega) b1).mono ?_
  rintro e W2 ⟨rfl, hb⟩
  have T2 := Lib.hid (T1.out.below hb); have b2 := b1.trans (hb.mono b1.size)
  have hq1 : ¬ ((k + m1 + m2 : Nat) : Int) < 0 := by omega
  clear hb b1 T1 c0 c1 c2 c3
  go_wp2
  go_ret
  have e1 := Hm1.out
  subst e1
  have e2 := Hm2.out
  subst e2
  exact ⟨ret_int (by omega), b2⟩
end Go.Proofs.YtmanlnlhpgdbpaaGreat
/- The helpers of the laws: comparisons. -/
namespace Go.Proofs.YtmanlnlhpgdbpaaGreat
open Go.RowKit
attribute [local go_sem ↓] Go.wp_at_zero Go.wp_at_succ

set_option maxRecDepth 100000 in
set_option maxHeartbeats 4000000 in
theorem eqChangesOut_at {S S' : Bs} (w0 : World) (a0 : Int) (a1 : (List ChangeT)) (a2 : (List ChangeT)) (a3 : Int) (v1 v2 : Value) (u1 u2 : Value) (w : World) (hB : Below w0.heap.size w0 w) (h1 : SlAt changeE S w0 a1 v1) (h2 : SlAt changeE S w0 a2 v2) (g1 : SlAt changeE S' w0 a1 u1) (g2 : SlAt changeE S' w0 a2 u2) (hz : changesOutE.sz ((a0, a1), a2, a3) ≤ 1048576) :
    Calls Tryz.prog 18 #[.agg #[.int .i64 a0, v1, v2, .int .i64 a3], .agg #[.int .i64 a0, u1, u2, .int .i64 a3]] w fun e w' => e = .returned (.bool true) ∧ Below w0.heap.size w0 w' := by
  have HE : changesOutE.sz ((a0, a1), a2, a3) = changesE.sz (a0, a1) + ((a2.length + szL changeE a2) + (0)) := rfl
  rw [HE] at hz
  have C0 : Hid (∀ W : World, Below w0.heap.size w0 W → Calls Tryz.prog 11 #[.agg #[.int .i64 a0, v1], .agg #[.int .i64 a0, u1]] W fun e w' => e = .returned (.bool true) ∧ Below W.heap.size W w') := Lib.hid (fun W b => eqChanges_at W a0 a1 v1 u1 W (Below.refl _ _) (h1.frame (Same.of_below' b)) (g1.frame (Same.of_below' b)) (by omega))
  have C2 : Hid (∀ W : World, Below w0.heap.size w0 W → Calls Tryz.prog 38 #[v2, u2] W fun e w' => e = .returned (.bool true) ∧ Below W.heap.size W w') := Lib.hid (fun W b => eqChangeS_at v2 u2 a2 W (h2.frame (Same.of_below' b)) (g2.frame (Same.of_below' b)) (by omega))
  have hk3 : (a3 == a3) = true := by simp
  have hj3 : (a3 != a3) = false := by simp
  obtain ⟨o1, k1, rfl⟩ := h1.sl
  obtain ⟨p1, j1, rfl⟩ := g1.sl
  obtain ⟨o2, k2, rfl⟩ := h2.sl
  obtain ⟨p2, j2, rfl⟩ := g2.sl
  clear hz HE h1 g1 h2 g2
  have HB := Lib.hid hB
  clear hB
  go_enter Tryz.func18, Tryz.ntmps18
  go_wp2_with fail
  refine calls_by (fun W => Below w0.heap.size w0 W ∧ Blk W w.heap.size [.int .i64 a0, .slice o1 a1.length k1, .slice o2 a2.length k2, .int .i64 a3] ∧ Blk W (w.heap.size + 1) [.int .i64 a0, .slice p1 a1.length j1, .slice p2 a2.length j2, .int .i64 a3]) ⟨more' (more' HB.out _) _, (Blk.new _ _ _).alloc _, blk_at _ _ _ (by simp)⟩ ?_
  rintro W1 ⟨b1, x1, y1⟩
  have X1 := Lib.hid x1; have Y1 := Lib.hid y1; clear x1 y1
  refine (C0.out W1 b1).mono ?_
  rintro e W2 ⟨rfl, hb⟩
  have X2 := Lib.hid (X1.out.below hb); have Y2 := Lib.hid (Y1.out.below hb); have b2 := b1.trans (hb.mono b1.size)
  clear X1 Y1 hb b1 C0
  have m0 := X2.out.cell 0 rfl
  have n0 := Y2.out.cell 0 rfl
  have m1 := X2.out.cell 1 rfl
  have n1 := Y2.out.cell 1 rfl
  have m2 := X2.out.cell 2 rfl
  have n2 := Y2.out.cell 2 rfl
  have m3 := X2.out.cell 3 rfl
  have n3 := Y2.out.cell 3 rfl
  go_wp2_with fail
  refine (C2.out W2 b2).mono ?_
  rintro e W3 ⟨rfl, hb⟩
  have X3 := Lib.hid (X2.out.below hb); have Y3 := Lib.hid (Y2.out.below hb); have b3 := b2.trans (hb.mono b2.size)
  clear X2 Y2 hb b2 C2 m0 n0 m1 n1 m2 n2 m3 n3
  have m0 := X3.out.cell 0 rfl
  have n0 := Y3.out.cell 0 rfl
  have m1 := X3.out.cell 1 rfl
  have n1 := Y3.out.cell 1 rfl
  have m2 := X3.out.cell 2 rfl
  have n2 := Y3.out.cell 2 rfl
  have m3 := X3.out.cell 3 rfl
  have n3 := Y3.out.cell 3 rfl
  go_wp2
  go_ret
  exact ⟨rfl, b3⟩
end Go.Proofs.YtmanlnlhpgdbpaaGreat
