/- Merged texts: markString, markClass, markClassV, heldString, heldClassV, ClassOfW, Opn. -/
import Derived.Test.YtlgafmgohinkbaaM5
import Derived.Test.YtlgafmgohinkbaaM3
import Derived.SliceStrings
import Derived.Test.YtlgafmgohinkbaaM1
import Derived.Test.YtlgafmgohinkbaaM6
import Derived.Test.YtlgafmgohinkbaaM9
import Derived.Test.YtlgafmgohinkbaaRows
/- The helpers of the laws: marks. -/
namespace Go.Proofs.Ytlgafmgohinkbaa
open Go.RowKit
attribute [local go_sem ↓] Go.wp_at_zero Go.wp_at_succ

set_option maxRecDepth 100000 in
set_option maxHeartbeats 4000000 in
theorem markStringS_at {S : Bs} (v : Value) (d : List ByteArray) (k : Nat) (w : World) (h : SlOwn strE S w d v) (hl : d.length ≤ 1048576) (hz : szL strE d ≤ 1048576) (hk1 : 0 < k) (hk2 : k + cntL strE d ≤ 1000000000) :
    Calls Try.prog 20 #[v, .int .i64 k] w fun e w' => e = .returned (.int .i64 ((k + cntL strE d : Nat) : Int)) ∧ SlOwn strE S w' (mkAll strE k d) v ∧ Turn S w w' := by
  obtain ⟨ao, cap, rfl⟩ := h.at.sl
  have HS := Lib.hid h; clear h
  have HTx : Hid (∀ (X : World) (m : Nat) (q : Int), q = (m : Int) → 0 < m → m ≤ 1000000000 → Calls Try.prog 80 #[.int .i64 q] X fun e w' => e = .returned (.string (mkT m)) ∧ Below X.heap.size X w') := Lib.hid (fun X m q e h1 h2 => by subst e; exact markText_any m X h1 h2)
  go_enter Try.func20, Try.ntmps20
  go_wp2
  go_loopw [1, 5] (fun t i wr => ∃ j : Nat, j ≤ d.length ∧ i = .int .i64 j ∧ t = .int .i64 ((k + cntL strE (d.take j) : Nat) : Int) ∧ SlOwn strE S wr (mkTo strE k d j) (.slice ao d.length cap) ∧ Turn S w wr) (fun _ i _ => d.length - (intOf i).toNat)
  case atStart => exact ⟨0, Nat.zero_le _, rfl, by simp [cntL], by rw [mkTo_zero]; exact HS.out, Turn.refl _ _⟩
  case round =>
    obtain ⟨j, hj, rfl, rfl, hO, hT⟩ := hrel
    have HO := Lib.hid hO; have HT := Lib.hid hT; clear hO hT
    have hcl := cntL_take_le strE d j
    by_cases hlt : j < d.length
    · obtain ⟨g, Sr, cs, rfl, hcap, hSg, hSr, hSub, hR, hrow, hown⟩ := mk_open HO.out hlt
      have HCs := Lib.hid (cntL_take strE d j hlt)
      have hcs : cntL strE (d.take j) + (strE).cnt d[j] ≤ cntL strE d := by have := cntL_take_le strE d (j + 1); rw [HCs.out] at this; exact this
      obtain ⟨a0, hx, rfl⟩ := txt_own hown
      rw [hx] at hcs
      have hct : (strE).cnt a0 = 1 := rfl
      rw [hct] at hcs
      have HX := Lib.hid hx
      clear hx hown
      have HR0 := Lib.hid hR; have HW0 := Lib.hid hrow; have HT0 := HT; clear hR hrow
      have HJ : Hid (j * (strE).n = j) := Lib.hid (Nat.mul_one j)
      rw [HJ.out] at HW0
      generalize hc : cntL strE (d.take j) = c at *
      have Hc := Lib.hid hc; clear hc
      have g1 : (0 : Int) ≤ (j : Int) := by omega
      have g2 : (j : Int) < (d.length : Int) := by omega
      go_wp2_with fail
      refine (HTx.out wr (k + c) _ (by omega) (by omega) (by omega)).mono ?_
      rintro e X1 ⟨rfl, hb⟩
      have HW1 := Lib.hid (HW0.out.same (hb.block _ HW0.out.lt)); have HR1 := Lib.hid (HR0.out.turn (by rw [mkTo_length _ _ _ hj]; exact hlt) (Turn.of_below hb)); have HT1 := Lib.hid (HT0.out.trans (Turn.of_below hb))
      clear hb HW0 HR0 HT0 
      have HW0 := HW1; have HR0 := HR1; have HT0 := HT1; clear HW1 HR1 HT1
      have c0 := HW0.out.cells 0 (by simp)
      have c0 : X1.cell? ⟨g, j, none⟩ = some (.string a0) := c0
      have f0 : X1.frozen? ⟨g, j, none⟩ = false := HW0.out.soft _
      go_wp2
      go_roundw
      case rel =>
        refine ⟨j + 1, by omega, by go_num, ?_, mk_close (cs := [.string (mkT (k + c))]) (HR0.out.store1 rfl _) hlt hcap (RowAt.cong (by rw [HJ.out]; exact (HW0.out.store (j := 0) (by simp) _)) ?_) ?_, (HT0.out.trans (Turn.store _ _ _ hSg))⟩
        · rw [HCs.out, HX.out, hct]; first | (congr 1; done) | (congr 1; omega)
        · simp only [List.set_cons_zero, List.set_cons_succ, List.cons.injEq, Value.int.injEq, Value.bool.injEq, true_and, and_true]
          first | done | omega | (refine ⟨?_, ?_⟩ <;> first | omega | (rw [Bool.eq_iff_iff]; simp; omega)) | (rw [Bool.eq_iff_iff]; simp; omega)
        · rw [Hc.out, HX.out]
          exact rfl
      case measure => simp [intOf]; omega
    · have e : j = d.length := by omega
      subst e
      have HOO : Hid (SlOwn strE S wr (mkAll strE k d) (.slice ao d.length cap)) := Lib.hid (by have := HO.out; rw [mkTo_all] at this; exact this)
      have hce : cntL strE (d.take d.length) = cntL strE d := by rw [List.take_length]
      rw [hce]
      go_wp2
      go_ret
      exact ⟨rfl, HOO.out, HT.out⟩
end Go.Proofs.Ytlgafmgohinkbaa
/- The helpers of the laws: marks. -/
namespace Go.Proofs.Ytlgafmgohinkbaa
open Go.RowKit
attribute [local go_sem ↓] Go.wp_at_zero Go.wp_at_succ

set_option maxRecDepth 100000 in
set_option maxHeartbeats 4000000 in
theorem markClassS_at {S : Bs} (v : Value) (d : List ClassT) (k : Nat) (w : World) (h : SlOwn classE S w d v) (hl : d.length ≤ 1048576) (hz : szL classE d ≤ 1048576) (hk1 : 0 < k) (hk2 : k + cntL classE d ≤ 1000000000) :
    Calls Try.prog 40 #[v, .int .i64 k] w fun e w' => e = .returned (.int .i64 ((k + cntL classE d : Nat) : Int)) ∧ SlOwn classE S w' (mkAll classE k d) v ∧ Turn S w w' := by
  obtain ⟨ao, cap, rfl⟩ := h.at.sl
  have HS := Lib.hid h; clear h
  have HTx : Hid (∀ (X : World) (m : Nat) (q : Int), q = (m : Int) → 0 < m → m ≤ 1000000000 → Calls Try.prog 80 #[.int .i64 q] X fun e w' => e = .returned (.string (mkT m)) ∧ Below X.heap.size X w') := Lib.hid (fun X m q e h1 h2 => by subst e; exact markText_any m X h1 h2)
  have HM1 : Hid (∀ (X : World) (Sx : Bs) (u : Value) (V : List ByteArray) (m : Nat) (q : Int), q = (m : Int) → SlOwn strE Sx X V u → V.length ≤ 1048576 → szL strE V ≤ 1048576 → 0 < m → m + cntL strE V ≤ 1000000000 → Calls Try.prog 20 #[u, .int .i64 q] X fun e w' => e = .returned (.int .i64 ((m + cntL strE V : Nat) : Int)) ∧ SlOwn strE Sx w' (mkAll strE m V) u ∧ Turn Sx X w') := Lib.hid (fun X Sx u V m q e h h0 hz h1 h2 => by subst e; exact markStringS_at u V m X h h0 hz h1 h2)
  have HM2 : Hid (∀ (X : World) (Sx : Bs) (u : Value) (V : List ByteArray) (m : Nat) (q : Int), q = (m : Int) → SlOwn strE Sx X V u → V.length ≤ 1048576 → szL strE V ≤ 1048576 → 0 < m → m + cntL strE V ≤ 1000000000 → Calls Try.prog 20 #[u, .int .i64 q] X fun e w' => e = .returned (.int .i64 ((m + cntL strE V : Nat) : Int)) ∧ SlOwn strE Sx w' (mkAll strE m V) u ∧ Turn Sx X w') := Lib.hid (fun X Sx u V m q e h h0 hz h1 h2 => by subst e; exact markStringS_at u V m X h h0 hz h1 h2)
  have HM3 : Hid (∀ (X : World) (Sx : Bs) (u : Value) (V : List ByteArray) (m : Nat) (q : Int), q = (m : Int) → SlOwn strE Sx X V u → V.length ≤ 1048576 → szL strE V ≤ 1048576 → 0 < m → m + cntL strE V ≤ 1000000000 → Calls Try.prog 20 #[u, .int .i64 q] X fun e w' => e = .returned (.int .i64 ((m + cntL strE V : Nat) : Int)) ∧ SlOwn strE Sx w' (mkAll strE m V) u ∧ Turn Sx X w') := Lib.hid (fun X Sx u V m q e h h0 hz h1 h2 => by subst e; exact markStringS_at u V m X h h0 hz h1 h2)
  go_enter Try.func40, Try.ntmps40
  go_wp2
  go_loopw [1, 5] (fun t i wr => ∃ j : Nat, j ≤ d.length ∧ i = .int .i64 j ∧ t = .int .i64 ((k + cntL classE (d.take j) : Nat) : Int) ∧ SlOwn classE S wr (mkTo classE k d j) (.slice ao d.length cap) ∧ Turn S w wr) (fun _ i _ => d.length - (intOf i).toNat)
  case atStart => exact ⟨0, Nat.zero_le _, rfl, by simp [cntL], by rw [mkTo_zero]; exact HS.out, Turn.refl _ _⟩
  case round =>
    obtain ⟨j, hj, rfl, rfl, hO, hT⟩ := hrel
    have HO := Lib.hid hO; have HT := Lib.hid hT; clear hO hT
    have hcl := cntL_take_le classE d j
    by_cases hlt : j < d.length
    · obtain ⟨g, Sr, cs, rfl, hcap, hSg, hSr, hSub, hR, hrow, hown⟩ := mk_open HO.out hlt
      have HCs := Lib.hid (cntL_take classE d j hlt)
      have hcs : cntL classE (d.take j) + (classE).cnt d[j] ≤ cntL classE d := by have := cntL_take_le classE d (j + 1); rw [HCs.out] at this; exact this
      obtain ⟨a0, a1, a2, a3, u1, u2, u3, S1, S2, S3, hx, rfl, q1, i1, q2, i2, q3, i3, d1_2, d1_3, d2_3, _⟩ := class_own hown
      rw [hx] at hcs
      have hct : (classE).cnt (a0, a1, a2, a3) = 1 + (cntL strE a1 + (cntL strE a2 + (cntL strE a3))) := rfl
      rw [hct] at hcs
      have HX := Lib.hid hx
      have hl1 : a1.length ≤ 1048576 := by have := szL_mem classE (List.getElem_mem hlt); rw [hx] at this; have h2 : (classE).sz (a0, a1, a2, a3) = a0.size + ((a1.length + szL strE a1) + ((a2.length + szL strE a2) + ((a3.length + szL strE a3)))) := rfl; rw [h2] at this; omega
      have hz1 : szL strE a1 ≤ 1048576 := by have := szL_mem classE (List.getElem_mem hlt); rw [hx] at this; have h2 : (classE).sz (a0, a1, a2, a3) = a0.size + ((a1.length + szL strE a1) + ((a2.length + szL strE a2) + ((a3.length + szL strE a3)))) := rfl; rw [h2] at this; omega
      have hl2 : a2.length ≤ 1048576 := by have := szL_mem classE (List.getElem_mem hlt); rw [hx] at this; have h2 : (classE).sz (a0, a1, a2, a3) = a0.size + ((a1.length + szL strE a1) + ((a2.length + szL strE a2) + ((a3.length + szL strE a3)))) := rfl; rw [h2] at this; omega
      have hz2 : szL strE a2 ≤ 1048576 := by have := szL_mem classE (List.getElem_mem hlt); rw [hx] at this; have h2 : (classE).sz (a0, a1, a2, a3) = a0.size + ((a1.length + szL strE a1) + ((a2.length + szL strE a2) + ((a3.length + szL strE a3)))) := rfl; rw [h2] at this; omega
      have hl3 : a3.length ≤ 1048576 := by have := szL_mem classE (List.getElem_mem hlt); rw [hx] at this; have h2 : (classE).sz (a0, a1, a2, a3) = a0.size + ((a1.length + szL strE a1) + ((a2.length + szL strE a2) + ((a3.length + szL strE a3)))) := rfl; rw [h2] at this; omega
      have hz3 : szL strE a3 ≤ 1048576 := by have := szL_mem classE (List.getElem_mem hlt); rw [hx] at this; have h2 : (classE).sz (a0, a1, a2, a3) = a0.size + ((a1.length + szL strE a1) + ((a2.length + szL strE a2) + ((a3.length + szL strE a3)))) := rfl; rw [h2] at this; omega
      clear hx hown
      have HR0 := Lib.hid hR; have HW0 := Lib.hid hrow; have HT0 := HT; clear hR hrow
      have HQ1 := Lib.hid q1; clear q1
      have HQ2 := Lib.hid q2; clear q2
      have HQ3 := Lib.hid q3; clear q3
      generalize hc : cntL classE (d.take j) = c at *
      have Hc := Lib.hid hc; clear hc
      have g1 : (0 : Int) ≤ (j : Int) := by omega
      have g2 : (j : Int) < (d.length : Int) := by omega
      generalize hm1 : cntL strE a1 = m1 at *
      have Hm1 := Lib.hid hm1; clear hm1
      generalize hm2 : cntL strE a2 = m2 at *
      have Hm2 := Lib.hid hm2; clear hm2
      generalize hm3 : cntL strE a3 = m3 at *
      have Hm3 := Lib.hid hm3; clear hm3
      go_wp2_with fail
      refine (HTx.out wr (k + c) _ (by omega) (by omega) (by omega)).mono ?_
      rintro e X1 ⟨rfl, hb⟩
      have HW1 := Lib.hid (HW0.out.same (hb.block _ HW0.out.lt)); have HR1 := Lib.hid (HR0.out.turn (by rw [mkTo_length _ _ _ hj]; exact hlt) (Turn.of_below hb)); have HT1 := Lib.hid (HT0.out.trans (Turn.of_below hb))
      have HP1 := Lib.hid (HQ1.out.frame (Same.of_below' hb))
      have HP2 := Lib.hid (HQ2.out.frame (Same.of_below' hb))
      have HP3 := Lib.hid (HQ3.out.frame (Same.of_below' hb))
      clear hb HW0 HR0 HT0 HQ1 HQ2 HQ3
      have HW0 := HW1; have HR0 := HR1; have HT0 := HT1; clear HW1 HR1 HT1
      have HQ1 := HP1; clear HP1
      have HQ2 := HP2; clear HP2
      have HQ3 := HP3; clear HP3
      have c0 := HW0.out.cells 0 (by simp)
      have c0 : X1.cell? ⟨g, j * 4, none⟩ = some (.string a0) := c0
      have f0 : X1.frozen? ⟨g, j * 4, none⟩ = false := HW0.out.soft _
      have c1 := HW0.out.cells 1 (by simp)
      have c1 : X1.cell? ⟨g, j * 4 + 1, none⟩ = some (u1) := c1
      have f1 : X1.frozen? ⟨g, j * 4 + 1, none⟩ = false := HW0.out.soft _
      have c2 := HW0.out.cells 2 (by simp)
      have c2 : X1.cell? ⟨g, j * 4 + 2, none⟩ = some (u2) := c2
      have f2 : X1.frozen? ⟨g, j * 4 + 2, none⟩ = false := HW0.out.soft _
      have c3 := HW0.out.cells 3 (by simp)
      have c3 : X1.cell? ⟨g, j * 4 + 3, none⟩ = some (u3) := c3
      have f3 : X1.frozen? ⟨g, j * 4 + 3, none⟩ = false := HW0.out.soft _
      go_wp2_with fail
      refine calls_by (fun W => (∃ cs : List Value, RowAt W g (j * (classE).n) cs ∧ cs = [.string (mkT (k + c)), u1, u2, u3]) ∧ Rest classE S W (mkTo classE k d j) g j Sr ∧ Turn S w W ∧ SlOwn strE S1 W (a1) u1 ∧ SlOwn strE S2 W (a2) u2 ∧ SlOwn strE S3 W (a3) u3) ⟨⟨_, (HW0.out.store (j := 0) (by simp) _), by simp only [List.set_cons_zero, List.set_cons_succ, List.cons.injEq, Value.int.injEq, Value.bool.injEq, true_and, and_true] <;> omega⟩, (HR0.out.store (u := 0) (by decide) _), (HT0.out.trans (Turn.store _ _ _ hSg)), (HQ1.out.frame (Same.set _ _ _ (fun z => hSr (i1 g z)))), (HQ2.out.frame (Same.set _ _ _ (fun z => hSr (i2 g z)))), (HQ3.out.frame (Same.set _ _ _ (fun z => hSr (i3 g z))))⟩ ?_
      try clear c0; try clear f0; try clear c1; try clear f1; try clear c2; try clear f2; try clear c3; try clear f3
      clear HR0 HW0 HT0 HQ1 HQ2 HQ3
      rintro X2 ⟨⟨cs, hw, rfl⟩, hr, ht, q1, q2, q3⟩
      have HW0 := Lib.hid hw; have HR0 := Lib.hid hr; have HT0 := Lib.hid ht; clear hw hr ht
      have HQ1 := Lib.hid q1; clear q1
      have HQ2 := Lib.hid q2; clear q2
      have HQ3 := Lib.hid q3; clear q3
      refine (HM1.out X2 S1 u1 a1 (k + c + 1) _ (by omega) HQ1.out hl1 hz1 (by omega) (by rw [Hm1.out]; omega)).mono ?_
      rintro e X3 ⟨rfl, q1, ht⟩
      have HW1 := Lib.hid (HW0.out.same (ht.block _ HW0.out.lt (fun z => hSr (i1 g z)))); have HR1 := Lib.hid (HR0.out.turn (by rw [mkTo_length _ _ _ hj]; exact hlt) (ht.wide i1)); have HT1 := Lib.hid (HT0.out.trans (ht.wide (fun z y => hSub z (i1 z y))))
      have HP1 := Lib.hid q1; clear q1
      have HP2 := Lib.hid (HQ2.out.frame (ht.same (fun z y1 y2 => d1_2 z y2 y1)))
      have HP3 := Lib.hid (HQ3.out.frame (ht.same (fun z y1 y2 => d1_3 z y2 y1)))
      clear ht HW0 HR0 HT0 HQ1 HQ2 HQ3
      have HW0 := HW1; have HR0 := HR1; have HT0 := HT1; clear HW1 HR1 HT1
      have HQ1 := HP1; clear HP1
      have HQ2 := HP2; clear HP2
      have HQ3 := HP3; clear HP3
      rw [Hm1.out]
      have c0 := HW0.out.cells 0 (by simp)
      have c0 : X3.cell? ⟨g, j * 4, none⟩ = some (.string (mkT (k + c))) := c0
      have f0 : X3.frozen? ⟨g, j * 4, none⟩ = false := HW0.out.soft _
      have c1 := HW0.out.cells 1 (by simp)
      have c1 : X3.cell? ⟨g, j * 4 + 1, none⟩ = some (u1) := c1
      have f1 : X3.frozen? ⟨g, j * 4 + 1, none⟩ = false := HW0.out.soft _
      have c2 := HW0.out.cells 2 (by simp)
      have c2 : X3.cell? ⟨g, j * 4 + 2, none⟩ = some (u2) := c2
      have f2 : X3.frozen? ⟨g, j * 4 + 2, none⟩ = false := HW0.out.soft _
      have c3 := HW0.out.cells 3 (by simp)
      have c3 : X3.cell? ⟨g, j * 4 + 3, none⟩ = some (u3) := c3
      have f3 : X3.frozen? ⟨g, j * 4 + 3, none⟩ = false := HW0.out.soft _
      go_wp2_with fail
      refine (HM2.out X3 S2 u2 a2 (k + c + 1 + m1) _ (by omega) HQ2.out hl2 hz2 (by omega) (by rw [Hm2.out]; omega)).mono ?_
      rintro e X4 ⟨rfl, q2, ht⟩
      have HW1 := Lib.hid (HW0.out.same (ht.block _ HW0.out.lt (fun z => hSr (i2 g z)))); have HR1 := Lib.hid (HR0.out.turn (by rw [mkTo_length _ _ _ hj]; exact hlt) (ht.wide i2)); have HT1 := Lib.hid (HT0.out.trans (ht.wide (fun z y => hSub z (i2 z y))))
      have HP1 := Lib.hid (HQ1.out.frame (ht.same (d1_2)))
      have HP2 := Lib.hid q2; clear q2
      have HP3 := Lib.hid (HQ3.out.frame (ht.same (fun z y1 y2 => d2_3 z y2 y1)))
      clear ht HW0 HR0 HT0 HQ1 HQ2 HQ3
      have HW0 := HW1; have HR0 := HR1; have HT0 := HT1; clear HW1 HR1 HT1
      have HQ1 := HP1; clear HP1
      have HQ2 := HP2; clear HP2
      have HQ3 := HP3; clear HP3
      rw [Hm2.out]
      try clear c0; try clear f0; try clear c1; try clear f1; try clear c2; try clear f2; try clear c3; try clear f3
      have c0 := HW0.out.cells 0 (by simp)
      have c0 : X4.cell? ⟨g, j * 4, none⟩ = some (.string (mkT (k + c))) := c0
      have f0 : X4.frozen? ⟨g, j * 4, none⟩ = false := HW0.out.soft _
      have c1 := HW0.out.cells 1 (by simp)
      have c1 : X4.cell? ⟨g, j * 4 + 1, none⟩ = some (u1) := c1
      have f1 : X4.frozen? ⟨g, j * 4 + 1, none⟩ = false := HW0.out.soft _
      have c2 := HW0.out.cells 2 (by simp)
      have c2 : X4.cell? ⟨g, j * 4 + 2, none⟩ = some (u2) := c2
      have f2 : X4.frozen? ⟨g, j * 4 + 2, none⟩ = false := HW0.out.soft _
      have c3 := HW0.out.cells 3 (by simp)
      have c3 : X4.cell? ⟨g, j * 4 + 3, none⟩ = some (u3) := c3
      have f3 : X4.frozen? ⟨g, j * 4 + 3, none⟩ = false := HW0.out.soft _
      go_wp2_with fail
      refine (HM3.out X4 S3 u3 a3 (k + c + 1 + m1 + m2) _ (by omega) HQ3.out hl3 hz3 (by omega) (by rw [Hm3.out]; omega)).mono ?_
      rintro e X5 ⟨rfl, q3, ht⟩
      have HW1 := Lib.hid (HW0.out.same (ht.block _ HW0.out.lt (fun z => hSr (i3 g z)))); have HR1 := Lib.hid (HR0.out.turn (by rw [mkTo_length _ _ _ hj]; exact hlt) (ht.wide i3)); have HT1 := Lib.hid (HT0.out.trans (ht.wide (fun z y => hSub z (i3 z y))))
      have HP1 := Lib.hid (HQ1.out.frame (ht.same (d1_3)))
      have HP2 := Lib.hid (HQ2.out.frame (ht.same (d2_3)))
      have HP3 := Lib.hid q3; clear q3
      clear ht HW0 HR0 HT0 HQ1 HQ2 HQ3
      have HW0 := HW1; have HR0 := HR1; have HT0 := HT1; clear HW1 HR1 HT1
      have HQ1 := HP1; clear HP1
      have HQ2 := HP2; clear HP2
      have HQ3 := HP3; clear HP3
      rw [Hm3.out]
      try clear c0; try clear f0; try clear c1; try clear f1; try clear c2; try clear f2; try clear c3; try clear f3
      have c0 := HW0.out.cells 0 (by simp)
      have c0 : X5.cell? ⟨g, j * 4, none⟩ = some (.string (mkT (k + c))) := c0
      have f0 : X5.frozen? ⟨g, j * 4, none⟩ = false := HW0.out.soft _
      have c1 := HW0.out.cells 1 (by simp)
      have c1 : X5.cell? ⟨g, j * 4 + 1, none⟩ = some (u1) := c1
      have f1 : X5.frozen? ⟨g, j * 4 + 1, none⟩ = false := HW0.out.soft _
      have c2 := HW0.out.cells 2 (by simp)
      have c2 : X5.cell? ⟨g, j * 4 + 2, none⟩ = some (u2) := c2
      have f2 : X5.frozen? ⟨g, j * 4 + 2, none⟩ = false := HW0.out.soft _
      have c3 := HW0.out.cells 3 (by simp)
      have c3 : X5.cell? ⟨g, j * 4 + 3, none⟩ = some (u3) := c3
      have f3 : X5.frozen? ⟨g, j * 4 + 3, none⟩ = false := HW0.out.soft _
      go_wp2
      go_roundw
      case rel =>
        refine ⟨j + 1, by omega, by go_num, ?_, mk_close (cs := [.string (mkT (k + c)), u1, u2, u3]) HR0.out hlt hcap (RowAt.cong HW0.out ?_) ?_, HT0.out⟩
        · rw [HCs.out, HX.out, hct]; first | (congr 1; done) | (congr 1; omega)
        · simp only [List.set_cons_zero, List.set_cons_succ, List.cons.injEq, Value.int.injEq, Value.bool.injEq, true_and, and_true]
          first | done | omega | (refine ⟨?_, ?_⟩ <;> first | omega | (rw [Bool.eq_iff_iff]; simp; omega)) | (rw [Bool.eq_iff_iff]; simp; omega)
        · rw [Hc.out, HX.out]
          have e1 := Hm1.out
          have e2 := Hm2.out
          have e3 := Hm3.out
          subst e1 e2 e3
          exact class_pack (mkT (k + c)) (mkAll strE (k + c + 1) a1) (mkAll strE (k + c + 1 + (cntL strE a1)) a2) (mkAll strE (k + c + 1 + (cntL strE a1) + (cntL strE a2)) a3) _ _ _ S1 S2 S3 ⟨HQ1.out, i1, HQ2.out, i2, HQ3.out, i3, d1_2, d1_3, d2_3, trivial⟩
      case measure => simp [intOf]; omega
    · have e : j = d.length := by omega
      subst e
      have HOO : Hid (SlOwn classE S wr (mkAll classE k d) (.slice ao d.length cap)) := Lib.hid (by have := HO.out; rw [mkTo_all] at this; exact this)
      have hce : cntL classE (d.take d.length) = cntL classE d := by rw [List.take_length]
      rw [hce]
      go_wp2
      go_ret
      exact ⟨rfl, HOO.out, HT.out⟩
end Go.Proofs.Ytlgafmgohinkbaa
/- The helpers of the laws: marks. -/
namespace Go.Proofs.Ytlgafmgohinkbaa
open Go.RowKit
attribute [local go_sem ↓] Go.wp_at_zero Go.wp_at_succ

set_option maxRecDepth 100000 in
set_option maxHeartbeats 4000000 in
theorem markClass_fl (a0 : ByteArray) (a1 : (List ByteArray)) (a2 : (List ByteArray)) (a3 : (List ByteArray)) (u1 u2 u3 : Value) (S1 S2 S3 : Bs) (k : Nat) (w : World) (q1 : SlOwn strE S1 w a1 u1) (l1 : a1.length ≤ 1048576) (z1 : szL strE a1 ≤ 1048576) (q2 : SlOwn strE S2 w a2 u2) (l2 : a2.length ≤ 1048576) (z2 : szL strE a2 ≤ 1048576) (q3 : SlOwn strE S3 w a3 u3) (l3 : a3.length ≤ 1048576) (z3 : szL strE a3 ≤ 1048576) (d1_2 : ∀ b, S1 b → ¬ S2 b) (d1_3 : ∀ b, S1 b → ¬ S3 b) (d2_3 : ∀ b, S2 b → ¬ S3 b) (y1 : ∀ b, S1 b → b < w.heap.size) (y2 : ∀ b, S2 b → b < w.heap.size) (y3 : ∀ b, S3 b → b < w.heap.size) (hk1 : 0 < k) (hk2 : k + cntL strE a1 + cntL strE a2 + cntL strE a3 ≤ 1000000000) :
    Calls Try.prog 46 #[.agg #[.string a0, u1, u2, u3], .int .i64 k] w fun e w' => e = .returned (.int .i64 ((k + cntL strE a1 + cntL strE a2 + cntL strE a3 : Nat) : Int)) ∧ SlOwn strE S1 w' (mkAll strE (k) a1) u1 ∧ SlOwn strE S2 w' (mkAll strE (k + cntL strE a1) a2) u2 ∧ SlOwn strE S3 w' (mkAll strE (k + cntL strE a1 + cntL strE a2) a3) u3 ∧ Turn (fun b => S1 b ∨ S2 b ∨ S3 b) w w' := by
  have C1 : Hid (∀ (X : World) (V : List ByteArray) (m : Nat) (q : Int), q = (m : Int) → SlOwn strE S1 X V u1 → V.length ≤ 1048576 → szL strE V ≤ 1048576 → 0 < m → m + cntL strE V ≤ 1000000000 → Calls Try.prog 20 #[u1, .int .i64 q] X fun e w' => e = .returned (.int .i64 ((m + cntL strE V : Nat) : Int)) ∧ SlOwn strE S1 w' (mkAll strE m V) u1 ∧ Turn S1 X w') := Lib.hid (fun X V m q e h h0 hz h1 h2 => by subst e; exact markStringS_at u1 V m X h h0 hz h1 h2)
  have C2 : Hid (∀ (X : World) (V : List ByteArray) (m : Nat) (q : Int), q = (m : Int) → SlOwn strE S2 X V u2 → V.length ≤ 1048576 → szL strE V ≤ 1048576 → 0 < m → m + cntL strE V ≤ 1000000000 → Calls Try.prog 20 #[u2, .int .i64 q] X fun e w' => e = .returned (.int .i64 ((m + cntL strE V : Nat) : Int)) ∧ SlOwn strE S2 w' (mkAll strE m V) u2 ∧ Turn S2 X w') := Lib.hid (fun X V m q e h h0 hz h1 h2 => by subst e; exact markStringS_at u2 V m X h h0 hz h1 h2)
  have C3 : Hid (∀ (X : World) (V : List ByteArray) (m : Nat) (q : Int), q = (m : Int) → SlOwn strE S3 X V u3 → V.length ≤ 1048576 → szL strE V ≤ 1048576 → 0 < m → m + cntL strE V ≤ 1000000000 → Calls Try.prog 20 #[u3, .int .i64 q] X fun e w' => e = .returned (.int .i64 ((m + cntL strE V : Nat) : Int)) ∧ SlOwn strE S3 w' (mkAll strE m V) u3 ∧ Turn S3 X w') := Lib.hid (fun X V m q e h h0 hz h1 h2 => by subst e; exact markStringS_at u3 V m X h h0 hz h1 h2)
  have Q1 := Lib.hid q1
  obtain ⟨o1, k1, rfl⟩ := q1.at.sl
  clear q1
  have Q2 := Lib.hid q2
  obtain ⟨o2, k2, rfl⟩ := q2.at.sl
  clear q2
  have Q3 := Lib.hid q3
  obtain ⟨o3, k3, rfl⟩ := q3.at.sl
  clear q3
  go_enter Try.func46, Try.ntmps46
  go_wp2_with fail
  refine calls_by (fun W => Below w.heap.size w W ∧ Blk W w.heap.size [.string a0, .slice o1 a1.length k1, .slice o2 a2.length k2, .slice o3 a3.length k3]) ⟨more' (Below.refl _ _) _, Blk.new _ _ _⟩ ?_
  rintro W0 ⟨b0, t0⟩
  have R1 := Lib.hid (Q1.out.frame (Same.of_below' b0)); clear Q1; have Q1 := R1; clear R1
  have R2 := Lib.hid (Q2.out.frame (Same.of_below' b0)); clear Q2; have Q2 := R2; clear R2
  have R3 := Lib.hid (Q3.out.frame (Same.of_below' b0)); clear Q3; have Q3 := R3; clear R3
  have T0 := Lib.hid t0; have M0 : Hid (Turn (fun b => S1 b ∨ S2 b ∨ S3 b) w W0) := Lib.hid (Turn.of_below b0); clear b0
  clear t0
  generalize hm1 : cntL strE a1 = m1 at *
  have Hm1 := Lib.hid hm1; clear hm1
  generalize hm2 : cntL strE a2 = m2 at *
  have Hm2 := Lib.hid hm2; clear hm2
  generalize hm3 : cntL strE a3 = m3 at *
  have Hm3 := Lib.hid hm3; clear hm3
  refine (C1.out W0 a1 (k) _ (by omega) Q1.out l1 z1 (by omega) (by rw [Hm1.out]; omega)).mono ?_
  rintro e W1 ⟨rfl, q1, ht⟩
  rw [Hm1.out]
  have R1 := Lib.hid q1
  have R2 := Lib.hid (Q2.out.frame (ht.same (fun z p r => by first | exact d1_2 z r p)))
  have R3 := Lib.hid (Q3.out.frame (ht.same (fun z p r => by first | exact d1_3 z r p)))
  have T1 := Lib.hid (show Blk W1 w.heap.size _ from by obtain ⟨T, h⟩ := T0.out; exact ⟨T, (ht.block _ T0.out.lt (fun r => by first | (have := y1 _ r; omega))).trans h⟩)
  have M1 := Lib.hid (M0.out.trans (ht.wide (fun z r => by simp [r])))
  clear ht T0 M0 Q1 Q2 Q3 q1
  have Q1 := R1; clear R1
  have Q2 := R2; clear R2
  have Q3 := R3; clear R3
  have c0 := T1.out.cell 0 rfl
  have c1 := T1.out.cell 1 rfl
  have c2 := T1.out.cell 2 rfl
  have c3 := T1.out.cell 3 rfl
  go_wp2_with fail
  refine (C2.out W1 a2 (k + m1) _ (by omega) Q2.out l2 z2 (by omega) (by rw [Hm2.out]; omega)).mono ?_
  rintro e W2 ⟨rfl, q2, ht⟩
  rw [Hm2.out]
  have R1 := Lib.hid (Q1.out.frame (ht.same (fun z p r => by first | exact d1_2 z p r)))
  have R2 := Lib.hid q2
  have R3 := Lib.hid (Q3.out.frame (ht.same (fun z p r => by first | exact d2_3 z r p)))
  have T2 := Lib.hid (show Blk W2 w.heap.size _ from by obtain ⟨T, h⟩ := T1.out; exact ⟨T, (ht.block _ T1.out.lt (fun r => by first | (have := y2 _ r; omega))).trans h⟩)
  have M2 := Lib.hid (M1.out.trans (ht.wide (fun z r => by simp [r])))
  clear ht T1 M1 Q1 Q2 Q3 q2 c0 c1 c2 c3
  have Q1 := R1; clear R1
  have Q2 := R2; clear R2
  have Q3 := R3; clear R3
  have c0 := T2.out.cell 0 rfl
  have c1 := T2.out.cell 1 rfl
  have c2 := T2.out.cell 2 rfl
  have c3 := T2.out.cell 3 rfl
  go_wp2_with fail
  refine (C3.out W2 a3 (k + m1 + m2) _ (by omega) Q3.out l3 z3 (by omega) (by rw [Hm3.out]; omega)).mono ?_
  rintro e W3 ⟨rfl, q3, ht⟩
  rw [Hm3.out]
  have R1 := Lib.hid (Q1.out.frame (ht.same (fun z p r => by first | exact d1_3 z p r)))
  have R2 := Lib.hid (Q2.out.frame (ht.same (fun z p r => by first | exact d2_3 z p r)))
  have R3 := Lib.hid q3
  have T3 := Lib.hid (show Blk W3 w.heap.size _ from by obtain ⟨T, h⟩ := T2.out; exact ⟨T, (ht.block _ T2.out.lt (fun r => by first | (have := y3 _ r; omega))).trans h⟩)
  have M3 := Lib.hid (M2.out.trans (ht.wide (fun z r => by simp [r])))
  clear ht T2 M2 Q1 Q2 Q3 q3 c0 c1 c2 c3
  have Q1 := R1; clear R1
  have Q2 := R2; clear R2
  have Q3 := R3; clear R3
  go_wp2
  go_ret
  have e1 := Hm1.out
  subst e1
  have e2 := Hm2.out
  subst e2
  have e3 := Hm3.out
  subst e3
  exact ⟨ret_int (by omega), Q1.out, Q2.out, Q3.out, M3.out⟩
end Go.Proofs.Ytlgafmgohinkbaa
/- The helpers of the laws: marks asked. -/
namespace Go.Proofs.Ytlgafmgohinkbaa
open Go.RowKit
attribute [local go_sem ↓] Go.wp_at_zero Go.wp_at_succ

set_option maxRecDepth 100000 in
set_option maxHeartbeats 4000000 in
theorem heldStringS_at {S : Bs} (v : Value) (d : List ByteArray) (k : Nat) (w : World) (h : SlAt strE S w (mkAll strE k d) v) (hl : d.length ≤ 1048576) (hz : szL strE d ≤ 1048576) (hk1 : 0 < k) (hk2 : k + cntL strE d ≤ 1000000000) :
    Calls Try.prog 21 #[v, .int .i64 k] w fun e w' => e = .returned (.int .i64 ((k + cntL strE d : Nat) : Int)) ∧ Below w.heap.size w w' := by
  obtain ⟨ao, cap, rfl⟩ := h.sl
  have hml := mkAll_length strE k d
  rw [hml]
  rw [hml] at h
  have HS := Lib.hid h; clear h
  have HTx : Hid (∀ (X : World) (m : Nat) (q : Int), q = (m : Int) → 0 < m → m ≤ 1000000000 → Calls Try.prog 80 #[.int .i64 q] X fun e w' => e = .returned (.string (mkT m)) ∧ Below X.heap.size X w') := Lib.hid (fun X m q e h1 h2 => by subst e; exact markText_any m X h1 h2)
  go_enter Try.func21, Try.ntmps21
  go_wp2
  go_loopw [1, 5] (fun t i wr => ∃ j : Nat, j ≤ d.length ∧ i = .int .i64 j ∧ t = .int .i64 ((k + cntL strE (d.take j) : Nat) : Int) ∧ Below w.heap.size w wr) (fun _ i _ => d.length - (intOf i).toNat)
  case atStart => exact ⟨0, Nat.zero_le _, rfl, by simp [cntL], Below.refl _ _⟩
  case round =>
    obtain ⟨j, hj, rfl, rfl, hbel⟩ := hrel
    have hcl := cntL_take_le strE d j
    by_cases hlt : j < d.length
    · obtain ⟨b, off, x0, rfl, _, hb0, hx, hc0⟩ := str_row (HS.out.frame (Same.of_below' hbel)) (k := j) (by rw [hml]; exact hlt)
      have HCs := Lib.hid (cntL_take strE d j hlt)
      have hcs : cntL strE (d.take j) + (strE).cnt d[j] ≤ cntL strE d := by have := cntL_take_le strE d (j + 1); rw [HCs.out] at this; exact this
      rw [mkAll_get strE k d j hlt] at hx
      have hx : mkT (k + cntL strE (d.take j)) = x0 := hx
      subst hx
      have hct : strE.cnt d[j] = 1 := rfl
      rw [hct] at hcs
      generalize d[j] = a0 at *
      generalize hc' : cntL strE (d.take j) = c at *
      clear hc'
      have SK : Hid (∀ W : World, Below wr.heap.size wr W → (Below wr.heap.size wr W ∧ W.cell? ⟨b, off + j, none⟩ = some (.string (mkT (k + c))))) := Lib.hid (fun W h => ⟨h, (h.cell (p := ⟨b, _, none⟩) hb0).trans hc0⟩)
      have hw0 : Below wr.heap.size wr wr := Below.refl _ _
      have hbd : Below wr.heap.size wr wr.drew := hw0.drew
      have HBl := Lib.hid hbel
      clear hbel hc0
      have g1 : (0 : Int) ≤ (j : Int) := by omega
      have g2 : (j : Int) < (d.length : Int) := by omega
      have HT1 : Hid (∀ (X : World) (q : Int), q = ((k + c : Nat) : Int) → Below wr.heap.size wr X → Calls Try.prog 80 #[.int .i64 q] X fun e w' => e = .returned (.string (mkT (k + c))) ∧ Below wr.heap.size wr w') := Lib.hid (fun X q e h => (HTx.out X (k + c) q e (by omega) (by omega)).mono fun _ _ z => ⟨z.1, h.trans (z.2.mono h.size)⟩)
      have hkk : ((mkT (k + c)).toList == (mkT (k + c)).toList) = true := by simp
      generalize mkT (k + c) = A0 at *
      go_wp2_with fail
      go_region_held3 (fun W => Below wr.heap.size wr W ∧ W.cell? ⟨b, off + j, none⟩ = some (.string A0))
        (exact SK.out _ (by assumption))
        (first | (go_at_call 80; refine (HT1.out _ _ (by omega) (by assumption)).mono ?_; rintro e X1 ⟨rfl, hx1⟩) | (fail "none"))
      clear HT1 hkk
      go_wp2
      go_roundw
      case rel => exact ⟨j + 1, by omega, by go_num, by rw [HCs.out, hct]; first | (congr 1; done) | (congr 1; omega), HBl.out.trans (hx1.mono HBl.out.size)⟩
      case measure => simp [intOf]; omega
    · have e : j = d.length := by omega
      subst e
      have hce : cntL strE (d.take d.length) = cntL strE d := by rw [List.take_length]
      rw [hce]
      go_wp2
      go_ret
      exact ⟨rfl, hbel⟩
end Go.Proofs.Ytlgafmgohinkbaa
/- The helpers of the laws: marks asked. -/
namespace Go.Proofs.Ytlgafmgohinkbaa
open Go.RowKit
attribute [local go_sem ↓] Go.wp_at_zero Go.wp_at_succ

set_option maxRecDepth 100000 in
set_option maxHeartbeats 4000000 in
theorem heldClass_fl {S1 S2 S3 : Bs} (a0 : ByteArray) (a1 : (List ByteArray)) (a2 : (List ByteArray)) (a3 : (List ByteArray)) (u1 u2 u3 : Value) (k : Nat) (w : World) (q1 : SlAt strE S1 w (mkAll strE (k) a1) u1) (l1 : a1.length ≤ 1048576) (z1 : szL strE a1 ≤ 1048576) (q2 : SlAt strE S2 w (mkAll strE (k + cntL strE a1) a2) u2) (l2 : a2.length ≤ 1048576) (z2 : szL strE a2 ≤ 1048576) (q3 : SlAt strE S3 w (mkAll strE (k + cntL strE a1 + cntL strE a2) a3) u3) (l3 : a3.length ≤ 1048576) (z3 : szL strE a3 ≤ 1048576) (hk1 : 0 < k) (hk2 : k + cntL strE a1 + cntL strE a2 + cntL strE a3 ≤ 1000000000) :
    Calls Try.prog 47 #[.agg #[.string a0, u1, u2, u3], .int .i64 k] w fun e w' => e = .returned (.int .i64 ((k + cntL strE a1 + cntL strE a2 + cntL strE a3 : Nat) : Int)) ∧ Below w.heap.size w w' := by
  have C1 : Hid (∀ (X : World) (q : Int), q = ((k : Nat) : Int) → Below w.heap.size w X → Calls Try.prog 21 #[u1, .int .i64 q] X fun e w' => e = .returned (.int .i64 ((k + cntL strE a1 : Nat) : Int)) ∧ Below X.heap.size X w') := Lib.hid (fun X q e h => by subst e; exact heldStringS_at u1 a1 (k) X (q1.frame (Same.of_below' h)) l1 z1 (by omega) (by omega))
  have C2 : Hid (∀ (X : World) (q : Int), q = ((k + cntL strE a1 : Nat) : Int) → Below w.heap.size w X → Calls Try.prog 21 #[u2, .int .i64 q] X fun e w' => e = .returned (.int .i64 ((k + cntL strE a1 + cntL strE a2 : Nat) : Int)) ∧ Below X.heap.size X w') := Lib.hid (fun X q e h => by subst e; exact heldStringS_at u2 a2 (k + cntL strE a1) X (q2.frame (Same.of_below' h)) l2 z2 (by omega) (by omega))
  have C3 : Hid (∀ (X : World) (q : Int), q = ((k + cntL strE a1 + cntL strE a2 : Nat) : Int) → Below w.heap.size w X → Calls Try.prog 21 #[u3, .int .i64 q] X fun e w' => e = .returned (.int .i64 ((k + cntL strE a1 + cntL strE a2 + cntL strE a3 : Nat) : Int)) ∧ Below X.heap.size X w') := Lib.hid (fun X q e h => by subst e; exact heldStringS_at u3 a3 (k + cntL strE a1 + cntL strE a2) X (q3.frame (Same.of_below' h)) l3 z3 (by omega) (by omega))
  obtain ⟨o1, k1, rfl⟩ := q1.sl
  rw [mkAll_length] at *
  clear q1
  obtain ⟨o2, k2, rfl⟩ := q2.sl
  rw [mkAll_length] at *
  clear q2
  obtain ⟨o3, k3, rfl⟩ := q3.sl
  rw [mkAll_length] at *
  clear q3
  generalize hm1 : cntL strE a1 = m1 at *
  have Hm1 := Lib.hid hm1; clear hm1
  generalize hm2 : cntL strE a2 = m2 at *
  have Hm2 := Lib.hid hm2; clear hm2
  generalize hm3 : cntL strE a3 = m3 at *
  have Hm3 := Lib.hid hm3; clear hm3
  go_enter Try.func47, Try.ntmps47
  go_wp2_with fail
  refine calls_by (fun W => Below w.heap.size w W ∧ Blk W w.heap.size [.string a0, .slice o1 a1.length k1, .slice o2 a2.length k2, .slice o3 a3.length k3]) ⟨more' (Below.refl _ _) _, Blk.new _ _ _⟩ ?_
  rintro W0 ⟨b0, t0⟩
  have T0 := Lib.hid t0; clear t0
  refine (C1.out W0 _ (by omega) b0).mono ?_
  rintro e W1 ⟨rfl, hb⟩
  have T1 := Lib.hid (T0.out.below hb); have b1 := b0.trans (hb.mono b0.size)
  have hq0 : ¬ ((k + m1 : Nat) : Int) < 0 := by omega
  clear hb b0 T0
  have c0 := T1.out.cell 0 rfl
  have c1 := T1.out.cell 1 rfl
  have c2 := T1.out.cell 2 rfl
  have c3 := T1.out.cell 3 rfl
  go_wp2_with fail
  refine (C2.out W1 _ (by omega) b1).mono ?_
  rintro e W2 ⟨rfl, hb⟩
  have T2 := Lib.hid (T1.out.below hb); have b2 := b1.trans (hb.mono b1.size)
  have hq1 : ¬ ((k + m1 + m2 : Nat) : Int) < 0 := by omega
  clear hb b1 T1 c0 c1 c2 c3
  have c0 := T2.out.cell 0 rfl
  have c1 := T2.out.cell 1 rfl
  have c2 := T2.out.cell 2 rfl
  have c3 := T2.out.cell 3 rfl
  go_wp2_with fail
  refine (C3.out W2 _ (by omega) b2).mono ?_
  rintro e W3 ⟨rfl, hb⟩
  have T3 := Lib.hid (T2.out.below hb); have b3 := b2.trans (hb.mono b2.size)
  have hq2 : ¬ ((k + m1 + m2 + m3 : Nat) : Int) < 0 := by omega
  clear hb b2 T2 c0 c1 c2 c3
  go_wp2
  go_ret
  have e1 := Hm1.out
  subst e1
  have e2 := Hm2.out
  subst e2
  have e3 := Hm3.out
  subst e3
  exact ⟨ret_int (by omega), b3⟩
end Go.Proofs.Ytlgafmgohinkbaa
/- The law FnExactClassOf: its walk. -/
namespace Go.Proofs.Ytlgafmgohinkbaa
open Go.RowKit
attribute [local go_sem ↓] Go.wp_at_zero Go.wp_at_succ

set_option maxRecDepth 100000 in
set_option maxHeartbeats 4000000 in
theorem ClassOf_walk (v0 : Value) (d0 : List ClassT) (s1 : ByteArray) (w : World) (h0 : SlAt classE (All w) w d0 v0) (f0 : (slE classE).long d0) (f1 : s1.size ≤ maxLen) :
    Calls Try.prog 8 #[v0, .string s1] w fun e w' => e = .returned (.bool true) ∧ Below w.heap.size w w' := by
  have HQ0 : Hid (d0.length + szL classE d0 ≤ 1048576 → ∀ (Y : World) (S S' : Bs) (x u : Value), SlAt classE S Y d0 x → SlAt classE S' Y d0 u → Calls Try.prog 39 #[x, u] Y fun e w' => e = .returned (.bool true) ∧ Below Y.heap.size Y w') := Lib.hid (fun z Y S S' x u h1 h2 => eqClassS_at x u d0 Y h1 h2 z)
  have HS0 : Hid (∀ (l : Int) (W : World), Below w.heap.size w W → 0 ≤ l → l ≤ 1048576 → Calls Try.prog 34 #[v0, .int .i64 l] W fun e w' => e = .returned (.int .i64 (leftR (d0.length + szL classE d0) l)) ∧ Below W.heap.size W w') := Lib.hid (fun l W b p q => szClassS_at v0 d0 l W (h0.frame (Same.of_below' b)) f0 p q)
  have HT0 : Hid (d0.length + szL classE d0 ≤ 1048576 → ∀ Y : World, Below w.heap.size w Y → Calls Try.prog 36 #[v0] Y fun e w' => ∃ u, e = .returned u ∧ SlOwn classE (Fresh Y w') w' d0 u ∧ Below Y.heap.size Y w') := Lib.hid (fun z Y b => toClassS_at v0 d0 Y (h0.frame (Same.of_below' b)) z)
  have HSp : Hid (d0.length + szL classE d0 ≤ 1048576 → s1.size ≤ 1048576 → ∀ (Y : World) (S0 : Bs) (u0 : Value), SlAt classE S0 Y d0 u0 → Calls Try.prog 43 #[u0, .string s1] Y fun e w' => (∃ u901 u902 u903 : Value, e = .returned (.agg #[.string (toCT (clsN d0 s1)).1, u901, u902, u903]) ∧ classE.Own (Fresh Y w') w' (toCT (clsN d0 s1)) [.string (toCT (clsN d0 s1)).1, u901, u902, u903]) ∧ Below Y.heap.size Y w') := Lib.hid (fun z0 z1 Y S0 u0 h0 => SpecClassOf_any u0 d0 s1 Y h0 z0 (Nat.le_trans z1 (by decide)))
  have HIm : Hid (d0.length + szL classE d0 ≤ 1048576 → s1.size ≤ 1048576 → ∀ (Y : World) (S0 : Bs) (u0 : Value), SlAt classE S0 Y d0 u0 → Calls Try.prog 44 #[u0, .string s1] Y fun e w' => (∃ u901 u902 u903 : Value, e = .returned (.agg #[.string (toCT (clsN d0 s1)).1, u901, u902, u903]) ∧ classE.Own (Fresh Y w') w' (toCT (clsN d0 s1)) [.string (toCT (clsN d0 s1)).1, u901, u902, u903]) ∧ Below Y.heap.size Y w') := Lib.hid (fun z0 z1 Y S0 u0 h0 => ClassOf_any u0 d0 s1 Y h0 z0 (Nat.le_trans z1 (by decide)))
  by_cases y1 : s1.size ≤ 1048576
  rotate_left
  · have y1' : (1048576 : Int) < (s1.size : Int) := by omega
    unfold maxLen at *
    obtain ⟨o0, k0, rfl⟩ := h0.sl
    go_enter Try.func8, Try.ntmps8
    go_wp2
    go_ret
    first | exact ⟨rfl, Below.refl _ _⟩ | exact ⟨rfl, more' (Below.refl _ _) _⟩ | exact ⟨rfl, more' (more' (Below.refl _ _) _) _⟩
  have y1' : ¬ (1048576 : Int) < (s1.size : Int) := by omega
  clear f1
  obtain ⟨o0, k0, rfl⟩ := h0.sl
  clear h0 f0
  go_enter Try.func8, Try.ntmps8
  have B : Hid (Below w.heap.size w w) := Lib.hid (Below.refl _ _)
  go_wp2_with fail
  refine (HS0.out (1048576) w B.out (by omega) (by omega)).mono ?_
  rintro e W1 ⟨rfl, hb⟩
  have B1 := Lib.hid (B.out.trans (hb.mono B.out.size)); clear B; have B := B1; clear B1
  have O0 := Lib.hid (hb.size)
  clear hb HS0
  by_cases g0 : ((d0.length + szL classE d0 : Nat) : Int) ≤ 1048576
  rotate_left
  · rw [leftR_neg g0]
    clear g0
    go_wp2
    go_ret
    exact ⟨rfl, B.out⟩
  rw [leftR_pos g0]
  have HZ0 : Hid (d0.length + szL classE d0 ≤ 1048576) := Lib.hid (by omega)
  have p0 : (0 : Int) ≤ ((d0.length + szL classE d0 : Nat) : Int) := by omega
  have c0 : ¬ 1048576 - ((d0.length + szL classE d0 : Nat) : Int) < 0 := by omega
  generalize ((d0.length + szL classE d0 : Nat) : Int) = t0 at *
  have HT := Lib.hid (HT0.out HZ0.out); clear HT0; have HT0 := HT; clear HT
  have HQ := Lib.hid (HQ0.out HZ0.out); clear HQ0; have HQ0 := HQ; clear HQ
  have HS := Lib.hid (HSp.out HZ0.out y1); have HI := Lib.hid (HIm.out HZ0.out y1); clear HSp HIm
  have O1 := Lib.hid (B.out.size)
  have HRz : Hid (classE.sz (toCT (clsN d0 s1)) ≤ 1048576) := Lib.hid (Nat.le_trans (clsN_sz d0 s1) (Nat.le_trans (Nat.le_add_left _ _) HZ0.out))
  generalize toCT (clsN d0 s1) = R at *
  obtain ⟨a900, a901, a902, a903⟩ := R
  try dsimp only at HS HI
  have HQR : Hid (∀ (Y : World) (S S' : Bs) (x901 x902 x903 u901 u902 u903 : Value), SlAt strE S Y a901 x901 → SlAt strE S Y a902 x902 → SlAt strE S Y a903 x903 → SlAt strE S' Y a901 u901 → SlAt strE S' Y a902 u902 → SlAt strE S' Y a903 u903 → Calls Try.prog 45 #[.agg #[.string a900, x901, x902, x903], .agg #[.string a900, u901, u902, u903]] Y fun e w' => e = .returned (.bool true) ∧ Below Y.heap.size Y w') := Lib.hid (fun Y S S' x901 x902 x903 u901 u902 u903 h901 h902 h903 k901 k902 k903 => eqClass_at Y a900 a901 a902 a903 x901 x902 x903 u901 u902 u903 Y (Below.refl _ _) h901 h902 h903 k901 k902 k903 HRz.out)
  go_wp2_with fail
  refine (HT0.out _ B.out).mono ?_
  rintro e W2 ⟨x0, rfl, q, hb⟩
  have B1 := Lib.hid (B.out.trans (hb.mono B.out.size)); clear B; have B := B1; clear B1
  have O2 := Lib.hid (hb.size)
  have Qx0 := Lib.hid q.at; clear q hb
  obtain ⟨px0, cx0, rfl⟩ := Qx0.out.sl
  go_wp2_with fail
  refine (HS.out _ _ _ Qx0.out).mono ?_
  rintro e W3 ⟨⟨u901, u902, u903, rfl, q⟩, hb⟩
  clear Qx0
  have B1 := Lib.hid (B.out.trans (hb.mono B.out.size)); clear B; have B := B1; clear B1
  have O3 := Lib.hid (hb.size)
  have QRw := Lib.hid (classE.ownAt q); clear q hb
  have Z := class_atp QRw.out
  obtain ⟨pw901, cw901, rfl⟩ := Z.1.sl
  obtain ⟨pw902, cw902, rfl⟩ := Z.2.1.sl
  obtain ⟨pw903, cw903, rfl⟩ := Z.2.2.sl
  clear Z
  go_wp2_with fail
  refine calls_by (fun W => Below W3.heap.size W3 W ∧ Blk W W3.heap.size [.string a900, .slice pw901 a901.length cw901, .slice pw902 a902.length cw902, .slice pw903 a903.length cw903]) ⟨more' (Below.refl _ _) _, Blk.new _ _ _⟩ ?_
  rintro V4 ⟨hb, t⟩
  have P := Lib.hid (classE.frame QRw.out (Same.of_below' hb)); clear QRw; have QRw := P; clear P
  have B1 := Lib.hid (B.out.trans (hb.mono B.out.size)); clear B; have B := B1; clear B1
  have O4 := Lib.hid (hb.size)
  clear hb
  have O5 := Lib.hid (t.lt)
  have HXw := Lib.hid t; clear t
  refine (HT0.out _ B.out).mono ?_
  rintro e W5 ⟨y0, rfl, q, hb⟩
  have P := Lib.hid (classE.frame QRw.out (Same.of_below' hb)); clear QRw; have QRw := P; clear P
  have P := Lib.hid (HXw.out.below hb); clear HXw; have HXw := P; clear P
  have B1 := Lib.hid (B.out.trans (hb.mono B.out.size)); clear B; have B := B1; clear B1
  have O6 := Lib.hid (hb.size)
  have Qy0 := Lib.hid q.at; have OY0 := Lib.hid q; clear q hb
  obtain ⟨py0, cy0, rfl⟩ := Qy0.out.sl
  have bm0 := HXw.out.cell 0 rfl
  have bm1 := HXw.out.cell 1 rfl
  have bm2 := HXw.out.cell 2 rfl
  have bm3 := HXw.out.cell 3 rfl
  go_wp2_with fail
  clear bm0 bm1 bm2 bm3
  refine (HI.out _ _ _ Qy0.out).mono ?_
  rintro e W6 ⟨⟨u901, u902, u903, rfl, q⟩, hb⟩
  have P := Lib.hid (classE.frame QRw.out (Same.of_below' hb)); clear QRw; have QRw := P; clear P
  have P := Lib.hid (HXw.out.below hb); clear HXw; have HXw := P; clear P
  have P := Lib.hid (Qy0.out.frame (Same.of_below' hb)); clear Qy0; have Qy0 := P; clear P
  have P := Lib.hid (OY0.out.frame (Same.of_below' hb)); clear OY0; have OY0 := P; clear P
  have B1 := Lib.hid (B.out.trans (hb.mono B.out.size)); clear B; have B := B1; clear B1
  have O7 := Lib.hid (hb.size)
  have OG := Lib.hid q; clear q hb
  have Z := class_atp (classE.ownAt OG.out)
  obtain ⟨pg901, cg901, rfl⟩ := Z.1.sl
  obtain ⟨pg902, cg902, rfl⟩ := Z.2.1.sl
  obtain ⟨pg903, cg903, rfl⟩ := Z.2.2.sl
  clear Z
  have bm0 := (HXw.out.alloc (.cells #[.string a900, .slice pg901 a901.length cg901, .slice pg902 a902.length cg902, .slice pg903 a903.length cg903] 63)).cell 0 rfl
  have bm1 := (HXw.out.alloc (.cells #[.string a900, .slice pg901 a901.length cg901, .slice pg902 a902.length cg902, .slice pg903 a903.length cg903] 63)).cell 1 rfl
  have bm2 := (HXw.out.alloc (.cells #[.string a900, .slice pg901 a901.length cg901, .slice pg902 a902.length cg902, .slice pg903 a903.length cg903] 63)).cell 2 rfl
  have bm3 := (HXw.out.alloc (.cells #[.string a900, .slice pg901 a901.length cg901, .slice pg902 a902.length cg902, .slice pg903 a903.length cg903] 63)).cell 3 rfl
  go_wp2_with fail
  clear bm0 bm1 bm2 bm3
  refine calls_by (fun W => Below W6.heap.size W6 W ∧ Blk W W6.heap.size [.string a900, .slice pg901 a901.length cg901, .slice pg902 a902.length cg902, .slice pg903 a903.length cg903]) ⟨more' (Below.refl _ _) _, Blk.new _ _ _⟩ ?_
  rintro V6 ⟨hb, t⟩
  have P := Lib.hid (classE.frame QRw.out (Same.of_below' hb)); clear QRw; have QRw := P; clear P
  have P := Lib.hid (HXw.out.below hb); clear HXw; have HXw := P; clear P
  have P := Lib.hid (Qy0.out.frame (Same.of_below' hb)); clear Qy0; have Qy0 := P; clear P
  have P := Lib.hid (OY0.out.frame (Same.of_below' hb)); clear OY0; have OY0 := P; clear P
  have P := Lib.hid (classE.ownFrame OG.out (Same.of_below' hb)); clear OG; have OG := P; clear P
  have B1 := Lib.hid (B.out.trans (hb.mono B.out.size)); clear B; have B := B1; clear B1
  have O8 := Lib.hid (hb.size)
  clear hb
  have O9 := Lib.hid (t.lt)
  have HXg := Lib.hid t; clear t
  refine (HQR.out _ _ _ _ _ _ _ _ _ (class_atp (classE.ownAt OG.out)).1 (class_atp (classE.ownAt OG.out)).2.1 (class_atp (classE.ownAt OG.out)).2.2 (class_atp QRw.out).1 (class_atp QRw.out).2.1 (class_atp QRw.out).2.2).mono ?_
  rintro e W7 ⟨rfl, hb⟩
  have P := Lib.hid (classE.frame QRw.out (Same.of_below' hb)); clear QRw; have QRw := P; clear P
  have P := Lib.hid (HXw.out.below hb); clear HXw; have HXw := P; clear P
  have P := Lib.hid (Qy0.out.frame (Same.of_below' hb)); clear Qy0; have Qy0 := P; clear P
  have P := Lib.hid (OY0.out.frame (Same.of_below' hb)); clear OY0; have OY0 := P; clear P
  have P := Lib.hid (classE.ownFrame OG.out (Same.of_below' hb)); clear OG; have OG := P; clear P
  have P := Lib.hid (HXg.out.below hb); clear HXg; have HXg := P; clear P
  have B1 := Lib.hid (B.out.trans (hb.mono B.out.size)); clear B; have B := B1; clear B1
  have O10 := Lib.hid (hb.size)
  clear hb
  go_wp2_with fail
  refine (HT0.out _ B.out).mono ?_
  rintro e W8 ⟨z0, rfl, q, hb⟩
  have P := Lib.hid (classE.frame QRw.out (Same.of_below' hb)); clear QRw; have QRw := P; clear P
  have P := Lib.hid (HXw.out.below hb); clear HXw; have HXw := P; clear P
  have P := Lib.hid (Qy0.out.frame (Same.of_below' hb)); clear Qy0; have Qy0 := P; clear P
  have P := Lib.hid (OY0.out.frame (Same.of_below' hb)); clear OY0; have OY0 := P; clear P
  have P := Lib.hid (classE.ownFrame OG.out (Same.of_below' hb)); clear OG; have OG := P; clear P
  have P := Lib.hid (HXg.out.below hb); clear HXg; have HXg := P; clear P
  have B1 := Lib.hid (B.out.trans (hb.mono B.out.size)); clear B; have B := B1; clear B1
  have O11 := Lib.hid (hb.size)
  have Qz0 := Lib.hid q.at; clear q hb
  obtain ⟨pz0, cz0, rfl⟩ := Qz0.out.sl
  go_wp2_with fail
  refine (HQ0.out _ _ _ _ _ Qy0.out Qz0.out).mono ?_
  rintro e W9 ⟨rfl, hb⟩
  have P := Lib.hid (classE.frame QRw.out (Same.of_below' hb)); clear QRw; have QRw := P; clear P
  have P := Lib.hid (HXw.out.below hb); clear HXw; have HXw := P; clear P
  have P := Lib.hid (Qy0.out.frame (Same.of_below' hb)); clear Qy0; have Qy0 := P; clear P
  have P := Lib.hid (OY0.out.frame (Same.of_below' hb)); clear OY0; have OY0 := P; clear P
  have P := Lib.hid (classE.ownFrame OG.out (Same.of_below' hb)); clear OG; have OG := P; clear P
  have P := Lib.hid (HXg.out.below hb); clear HXg; have HXg := P; clear P
  have P := Lib.hid (Qz0.out.frame (Same.of_below' hb)); clear Qz0; have Qz0 := P; clear P
  have B1 := Lib.hid (B.out.trans (hb.mono B.out.size)); clear B; have B := B1; clear B1
  have O12 := Lib.hid (hb.size)
  clear hb
  clear Qz0
  clear Qy0
  have bm0 := HXw.out.cell 0 rfl
  have bm1 := HXw.out.cell 1 rfl
  have bm2 := HXw.out.cell 2 rfl
  have bm3 := HXw.out.cell 3 rfl
  have bm4 := HXg.out.cell 0 rfl
  have bm5 := HXg.out.cell 1 rfl
  have bm6 := HXg.out.cell 2 rfl
  have bm7 := HXg.out.cell 3 rfl
  go_wp2_with fail
  clear bm0 bm1 bm2 bm3 bm4 bm5 bm6 bm7
  have mz := HZ0.out; have mc0 := cnt_fit (e := classE) d0 (by decide) mz
  refine (markClassS_at _ d0 (1) _ OY0.out (by omega) (by omega) (by omega) (by omega)).mono ?_
  rintro e W10 ⟨rfl, _, ht⟩
  clear mz
  have P := Lib.hid (classE.frame QRw.out (ht.same (by rintro k ⟨z1, z2⟩ ⟨z3, z4⟩; have := O0.out; have := O1.out; have := O2.out; have := O3.out; have := O4.out; have := O5.out; have := O6.out; have := O7.out; have := O8.out; have := O9.out; have := O10.out; have := O11.out; have := O12.out; omega))); clear QRw; have QRw := P; clear P
  have P := Lib.hid (HXw.out.turn ht (by rintro ⟨z3, z4⟩; have := O0.out; have := O1.out; have := O2.out; have := O3.out; have := O4.out; have := O5.out; have := O6.out; have := O7.out; have := O8.out; have := O9.out; have := O10.out; have := O11.out; have := O12.out; omega)); clear HXw; have HXw := P; clear P
  have P := Lib.hid (classE.ownFrame OG.out (ht.same (by rintro k ⟨z1, z2⟩ ⟨z3, z4⟩; have := O0.out; have := O1.out; have := O2.out; have := O3.out; have := O4.out; have := O5.out; have := O6.out; have := O7.out; have := O8.out; have := O9.out; have := O10.out; have := O11.out; have := O12.out; omega))); clear OG; have OG := P; clear P
  have P := Lib.hid (HXg.out.turn ht (by rintro ⟨z3, z4⟩; have := O0.out; have := O1.out; have := O2.out; have := O3.out; have := O4.out; have := O5.out; have := O6.out; have := O7.out; have := O8.out; have := O9.out; have := O10.out; have := O11.out; have := O12.out; omega)); clear HXg; have HXg := P; clear P
  have B1 := Lib.hid (ht.below B.out (by rintro k ⟨z3, z4⟩; have := O0.out; have := O1.out; have := O2.out; have := O3.out; have := O4.out; have := O5.out; have := O6.out; have := O7.out; have := O8.out; have := O9.out; have := O10.out; have := O11.out; have := O12.out; omega)); clear B; have B := B1; clear B1
  have O13 := Lib.hid (ht.size)
  clear OY0 ht
  have hk : ¬ ((1 + cntL classE d0 : Nat) : Int) < 0 := by omega
  have bm0 := HXw.out.cell 0 rfl
  have bm1 := HXw.out.cell 1 rfl
  have bm2 := HXw.out.cell 2 rfl
  have bm3 := HXw.out.cell 3 rfl
  have bm4 := HXg.out.cell 0 rfl
  have bm5 := HXg.out.cell 1 rfl
  have bm6 := HXg.out.cell 2 rfl
  have bm7 := HXg.out.cell 3 rfl
  go_wp2_with fail
  clear bm0 bm1 bm2 bm3 bm4 bm5 bm6 bm7
  refine (HQR.out _ _ _ _ _ _ _ _ _ (class_atp (classE.ownAt OG.out)).1 (class_atp (classE.ownAt OG.out)).2.1 (class_atp (classE.ownAt OG.out)).2.2 (class_atp QRw.out).1 (class_atp QRw.out).2.1 (class_atp QRw.out).2.2).mono ?_
  rintro e W11 ⟨rfl, hb⟩
  have P := Lib.hid (classE.frame QRw.out (Same.of_below' hb)); clear QRw; have QRw := P; clear P
  have P := Lib.hid (HXw.out.below hb); clear HXw; have HXw := P; clear P
  have P := Lib.hid (classE.ownFrame OG.out (Same.of_below' hb)); clear OG; have OG := P; clear P
  have P := Lib.hid (HXg.out.below hb); clear HXg; have HXg := P; clear P
  have B1 := Lib.hid (B.out.trans (hb.mono B.out.size)); clear B; have B := B1; clear B1
  have O14 := Lib.hid (hb.size)
  clear hb
  clear hk mc0
  have mz : a900.size + ((a901.length + szL strE a901) + ((a902.length + szL strE a902) + ((a903.length + szL strE a903)))) ≤ 1048576 := HRz.out
  have mc901 := cnt_fit (e := strE) a901 (by decide) (by omega)
  have mc902 := cnt_fit (e := strE) a902 (by decide) (by omega)
  have mc903 := cnt_fit (e := strE) a903 (by decide) (by omega)
  have HH : Hid (∀ (Y : World) (S0 S1 S2 : Bs), SlAt strE S0 Y (mkAll strE (1) a901) (.slice pg901 a901.length cg901) → SlAt strE S1 Y (mkAll strE (1 + cntL strE a901) a902) (.slice pg902 a902.length cg902) → SlAt strE S2 Y (mkAll strE (1 + cntL strE a901 + cntL strE a902) a903) (.slice pg903 a903.length cg903) → Calls Try.prog 47 #[.agg #[.string a900, .slice pg901 a901.length cg901, .slice pg902 a902.length cg902, .slice pg903 a903.length cg903], .int .i64 1] Y fun e w' => e = .returned (.int .i64 ((1 + cntL strE a901 + cntL strE a902 + cntL strE a903 : Nat) : Int)) ∧ Below Y.heap.size Y w') := Lib.hid (fun Y S0 S1 S2 h0 h1 h2 => heldClass_fl a900 a901 a902 a903 _ _ _ 1 Y h0 (by omega) (by omega) h1 (by omega) (by omega) h2 (by omega) (by omega) (by omega) (by omega))
  have bm0 := HXw.out.cell 0 rfl
  have bm1 := HXw.out.cell 1 rfl
  have bm2 := HXw.out.cell 2 rfl
  have bm3 := HXw.out.cell 3 rfl
  have bm4 := HXg.out.cell 0 rfl
  have bm5 := HXg.out.cell 1 rfl
  have bm6 := HXg.out.cell 2 rfl
  have bm7 := HXg.out.cell 3 rfl
  go_wp2_with fail
  clear bm0 bm1 bm2 bm3 bm4 bm5 bm6 bm7
  obtain ⟨S0, S1, S2, q0, i0, q1, i1, q2, i2, d01, d02, d12⟩ := class_ownp OG.out
  refine (markClass_fl a900 a901 a902 a903 _ _ _ S0 S1 S2 1 _ q0 (by omega) (by omega) q1 (by omega) (by omega) q2 (by omega) (by omega) d01 d02 d12 (fun b h => by have := (i0 b h).2; have := O0.out; have := O1.out; have := O2.out; have := O3.out; have := O4.out; have := O5.out; have := O6.out; have := O7.out; have := O8.out; have := O9.out; have := O10.out; have := O11.out; have := O12.out; have := O13.out; have := O14.out; omega) (fun b h => by have := (i1 b h).2; have := O0.out; have := O1.out; have := O2.out; have := O3.out; have := O4.out; have := O5.out; have := O6.out; have := O7.out; have := O8.out; have := O9.out; have := O10.out; have := O11.out; have := O12.out; have := O13.out; have := O14.out; omega) (fun b h => by have := (i2 b h).2; have := O0.out; have := O1.out; have := O2.out; have := O3.out; have := O4.out; have := O5.out; have := O6.out; have := O7.out; have := O8.out; have := O9.out; have := O10.out; have := O11.out; have := O12.out; have := O13.out; have := O14.out; omega) (by omega) (by omega)).mono ?_
  rintro e W12 ⟨rfl, r0, r1, r2, ht⟩
  have QM0 := Lib.hid (r0.at.wide i0)
  have QM1 := Lib.hid (r1.at.wide i1)
  have QM2 := Lib.hid (r2.at.wide i2)
  have ht := ht.wide (fun k z => by rcases z with z | z | z; exact i0 k z; exact i1 k z; exact i2 k z)
  have P := Lib.hid (classE.frame QRw.out (ht.same (by rintro k ⟨z1, z2⟩ ⟨z3, z4⟩; have := O0.out; have := O1.out; have := O2.out; have := O3.out; have := O4.out; have := O5.out; have := O6.out; have := O7.out; have := O8.out; have := O9.out; have := O10.out; have := O11.out; have := O12.out; have := O13.out; have := O14.out; omega))); clear QRw; have QRw := P; clear P
  have P := Lib.hid (HXw.out.turn ht (by rintro ⟨z3, z4⟩; have := O0.out; have := O1.out; have := O2.out; have := O3.out; have := O4.out; have := O5.out; have := O6.out; have := O7.out; have := O8.out; have := O9.out; have := O10.out; have := O11.out; have := O12.out; have := O13.out; have := O14.out; omega)); clear HXw; have HXw := P; clear P
  have P := Lib.hid (HXg.out.turn ht (by rintro ⟨z3, z4⟩; have := O0.out; have := O1.out; have := O2.out; have := O3.out; have := O4.out; have := O5.out; have := O6.out; have := O7.out; have := O8.out; have := O9.out; have := O10.out; have := O11.out; have := O12.out; have := O13.out; have := O14.out; omega)); clear HXg; have HXg := P; clear P
  have B1 := Lib.hid (ht.below B.out (by rintro k ⟨z3, z4⟩; have := O0.out; have := O1.out; have := O2.out; have := O3.out; have := O4.out; have := O5.out; have := O6.out; have := O7.out; have := O8.out; have := O9.out; have := O10.out; have := O11.out; have := O12.out; have := O13.out; have := O14.out; omega)); clear B; have B := B1; clear B1
  have O15 := Lib.hid (ht.size)
  clear OG ht q0 i0 r0 q1 i1 r1 q2 i2 r2 d01 d02 d12
  have hq1 : ¬ ((1 + cntL strE a901 + cntL strE a902 + cntL strE a903 : Nat) : Int) < 0 := by omega
  generalize ((1 + cntL strE a901 + cntL strE a902 + cntL strE a903 : Nat) : Int) = Q at *
  have hq2 : (Q != Q) = false := by simp
  clear mz mc901 mc902 mc903
  have bm0 := HXw.out.cell 0 rfl
  have bm1 := HXw.out.cell 1 rfl
  have bm2 := HXw.out.cell 2 rfl
  have bm3 := HXw.out.cell 3 rfl
  have bm4 := HXg.out.cell 0 rfl
  have bm5 := HXg.out.cell 1 rfl
  have bm6 := HXg.out.cell 2 rfl
  have bm7 := HXg.out.cell 3 rfl
  go_wp2_with fail
  clear bm0 bm1 bm2 bm3 bm4 bm5 bm6 bm7
  refine (HH.out _ _ _ _ QM0.out QM1.out QM2.out).mono ?_
  rintro e W13 ⟨rfl, hb⟩
  have P := Lib.hid (classE.frame QRw.out (Same.of_below' hb)); clear QRw; have QRw := P; clear P
  have P := Lib.hid (HXw.out.below hb); clear HXw; have HXw := P; clear P
  have P := Lib.hid (HXg.out.below hb); clear HXg; have HXg := P; clear P
  have P := Lib.hid (QM0.out.frame (Same.of_below' hb)); clear QM0; have QM0 := P; clear P
  have P := Lib.hid (QM1.out.frame (Same.of_below' hb)); clear QM1; have QM1 := P; clear P
  have P := Lib.hid (QM2.out.frame (Same.of_below' hb)); clear QM2; have QM2 := P; clear P
  have B1 := Lib.hid (B.out.trans (hb.mono B.out.size)); clear B; have B := B1; clear B1
  have O16 := Lib.hid (hb.size)
  clear hb
  go_wp2_with fail
  refine (HT0.out _ B.out).mono ?_
  rintro e W14 ⟨x0, rfl, q, hb⟩
  have P := Lib.hid (classE.frame QRw.out (Same.of_below' hb)); clear QRw; have QRw := P; clear P
  have P := Lib.hid (HXw.out.below hb); clear HXw; have HXw := P; clear P
  have P := Lib.hid (HXg.out.below hb); clear HXg; have HXg := P; clear P
  have P := Lib.hid (QM0.out.frame (Same.of_below' hb)); clear QM0; have QM0 := P; clear P
  have P := Lib.hid (QM1.out.frame (Same.of_below' hb)); clear QM1; have QM1 := P; clear P
  have P := Lib.hid (QM2.out.frame (Same.of_below' hb)); clear QM2; have QM2 := P; clear P
  have B1 := Lib.hid (B.out.trans (hb.mono B.out.size)); clear B; have B := B1; clear B1
  have O17 := Lib.hid (hb.size)
  have Qx0 := Lib.hid q.at; clear q hb
  obtain ⟨px0, cx0, rfl⟩ := Qx0.out.sl
  have bm0 := HXw.out.cell 0 rfl
  have bm1 := HXw.out.cell 1 rfl
  have bm2 := HXw.out.cell 2 rfl
  have bm3 := HXw.out.cell 3 rfl
  have bm4 := HXg.out.cell 0 rfl
  have bm5 := HXg.out.cell 1 rfl
  have bm6 := HXg.out.cell 2 rfl
  have bm7 := HXg.out.cell 3 rfl
  go_wp2_with fail
  clear bm0 bm1 bm2 bm3 bm4 bm5 bm6 bm7
  refine (HI.out _ _ _ Qx0.out).mono ?_
  rintro e W15 ⟨⟨u901, u902, u903, rfl, q⟩, hb⟩
  clear Qx0
  have P := Lib.hid (classE.frame QRw.out (Same.of_below' hb)); clear QRw; have QRw := P; clear P
  have P := Lib.hid (HXw.out.below hb); clear HXw; have HXw := P; clear P
  have P := Lib.hid (HXg.out.below hb); clear HXg; have HXg := P; clear P
  have P := Lib.hid (QM0.out.frame (Same.of_below' hb)); clear QM0; have QM0 := P; clear P
  have P := Lib.hid (QM1.out.frame (Same.of_below' hb)); clear QM1; have QM1 := P; clear P
  have P := Lib.hid (QM2.out.frame (Same.of_below' hb)); clear QM2; have QM2 := P; clear P
  have B1 := Lib.hid (B.out.trans (hb.mono B.out.size)); clear B; have B := B1; clear B1
  have O18 := Lib.hid (hb.size)
  have QRh := Lib.hid (classE.ownAt q); clear q hb
  have Z := class_atp QRh.out
  obtain ⟨ph901, ch901, rfl⟩ := Z.1.sl
  obtain ⟨ph902, ch902, rfl⟩ := Z.2.1.sl
  obtain ⟨ph903, ch903, rfl⟩ := Z.2.2.sl
  clear Z
  have bm0 := (HXw.out.alloc (.cells #[.string a900, .slice ph901 a901.length ch901, .slice ph902 a902.length ch902, .slice ph903 a903.length ch903] 63)).cell 0 rfl
  have bm1 := (HXw.out.alloc (.cells #[.string a900, .slice ph901 a901.length ch901, .slice ph902 a902.length ch902, .slice ph903 a903.length ch903] 63)).cell 1 rfl
  have bm2 := (HXw.out.alloc (.cells #[.string a900, .slice ph901 a901.length ch901, .slice ph902 a902.length ch902, .slice ph903 a903.length ch903] 63)).cell 2 rfl
  have bm3 := (HXw.out.alloc (.cells #[.string a900, .slice ph901 a901.length ch901, .slice ph902 a902.length ch902, .slice ph903 a903.length ch903] 63)).cell 3 rfl
  have bm4 := (HXg.out.alloc (.cells #[.string a900, .slice ph901 a901.length ch901, .slice ph902 a902.length ch902, .slice ph903 a903.length ch903] 63)).cell 0 rfl
  have bm5 := (HXg.out.alloc (.cells #[.string a900, .slice ph901 a901.length ch901, .slice ph902 a902.length ch902, .slice ph903 a903.length ch903] 63)).cell 1 rfl
  have bm6 := (HXg.out.alloc (.cells #[.string a900, .slice ph901 a901.length ch901, .slice ph902 a902.length ch902, .slice ph903 a903.length ch903] 63)).cell 2 rfl
  have bm7 := (HXg.out.alloc (.cells #[.string a900, .slice ph901 a901.length ch901, .slice ph902 a902.length ch902, .slice ph903 a903.length ch903] 63)).cell 3 rfl
  go_wp2_with fail
  clear bm0 bm1 bm2 bm3 bm4 bm5 bm6 bm7
  refine calls_by (fun W => Below W15.heap.size W15 W ∧ Blk W W15.heap.size [.string a900, .slice ph901 a901.length ch901, .slice ph902 a902.length ch902, .slice ph903 a903.length ch903]) ⟨more' (Below.refl _ _) _, Blk.new _ _ _⟩ ?_
  rintro V15 ⟨hb, t⟩
  have P := Lib.hid (classE.frame QRw.out (Same.of_below' hb)); clear QRw; have QRw := P; clear P
  have P := Lib.hid (HXw.out.below hb); clear HXw; have HXw := P; clear P
  have P := Lib.hid (HXg.out.below hb); clear HXg; have HXg := P; clear P
  have P := Lib.hid (QM0.out.frame (Same.of_below' hb)); clear QM0; have QM0 := P; clear P
  have P := Lib.hid (QM1.out.frame (Same.of_below' hb)); clear QM1; have QM1 := P; clear P
  have P := Lib.hid (QM2.out.frame (Same.of_below' hb)); clear QM2; have QM2 := P; clear P
  have P := Lib.hid (classE.frame QRh.out (Same.of_below' hb)); clear QRh; have QRh := P; clear P
  have B1 := Lib.hid (B.out.trans (hb.mono B.out.size)); clear B; have B := B1; clear B1
  have O19 := Lib.hid (hb.size)
  clear hb
  have O20 := Lib.hid (t.lt)
  have HXh := Lib.hid t; clear t
  refine (HQR.out _ _ _ _ _ _ _ _ _ (class_atp QRh.out).1 (class_atp QRh.out).2.1 (class_atp QRh.out).2.2 (class_atp QRw.out).1 (class_atp QRw.out).2.1 (class_atp QRw.out).2.2).mono ?_
  rintro e W16 ⟨rfl, hb⟩
  have P := Lib.hid (classE.frame QRw.out (Same.of_below' hb)); clear QRw; have QRw := P; clear P
  have P := Lib.hid (HXw.out.below hb); clear HXw; have HXw := P; clear P
  have P := Lib.hid (HXg.out.below hb); clear HXg; have HXg := P; clear P
  have P := Lib.hid (QM0.out.frame (Same.of_below' hb)); clear QM0; have QM0 := P; clear P
  have P := Lib.hid (QM1.out.frame (Same.of_below' hb)); clear QM1; have QM1 := P; clear P
  have P := Lib.hid (QM2.out.frame (Same.of_below' hb)); clear QM2; have QM2 := P; clear P
  have P := Lib.hid (classE.frame QRh.out (Same.of_below' hb)); clear QRh; have QRh := P; clear P
  have P := Lib.hid (HXh.out.below hb); clear HXh; have HXh := P; clear P
  have B1 := Lib.hid (B.out.trans (hb.mono B.out.size)); clear B; have B := B1; clear B1
  have O21 := Lib.hid (hb.size)
  clear hb
  have bm0 := HXw.out.cell 0 rfl
  have bm1 := HXw.out.cell 1 rfl
  have bm2 := HXw.out.cell 2 rfl
  have bm3 := HXw.out.cell 3 rfl
  have bm4 := HXg.out.cell 0 rfl
  have bm5 := HXg.out.cell 1 rfl
  have bm6 := HXg.out.cell 2 rfl
  have bm7 := HXg.out.cell 3 rfl
  have bm8 := HXh.out.cell 0 rfl
  have bm9 := HXh.out.cell 1 rfl
  have bm10 := HXh.out.cell 2 rfl
  have bm11 := HXh.out.cell 3 rfl
  go_wp2_with fail
  clear bm0 bm1 bm2 bm3 bm4 bm5 bm6 bm7 bm8 bm9 bm10 bm11
  refine (HH.out _ _ _ _ QM0.out QM1.out QM2.out).mono ?_
  rintro e W17 ⟨rfl, hb⟩
  have P := Lib.hid (classE.frame QRw.out (Same.of_below' hb)); clear QRw; have QRw := P; clear P
  have P := Lib.hid (HXw.out.below hb); clear HXw; have HXw := P; clear P
  have P := Lib.hid (HXg.out.below hb); clear HXg; have HXg := P; clear P
  have P := Lib.hid (QM0.out.frame (Same.of_below' hb)); clear QM0; have QM0 := P; clear P
  have P := Lib.hid (QM1.out.frame (Same.of_below' hb)); clear QM1; have QM1 := P; clear P
  have P := Lib.hid (QM2.out.frame (Same.of_below' hb)); clear QM2; have QM2 := P; clear P
  have P := Lib.hid (classE.frame QRh.out (Same.of_below' hb)); clear QRh; have QRh := P; clear P
  have P := Lib.hid (HXh.out.below hb); clear HXh; have HXh := P; clear P
  have B1 := Lib.hid (B.out.trans (hb.mono B.out.size)); clear B; have B := B1; clear B1
  have O22 := Lib.hid (hb.size)
  clear hb
  go_wp2
  go_ret
  exact ⟨rfl, B.out⟩
end Go.Proofs.Ytlgafmgohinkbaa
/- Arguments of the laws: where they lie. -/
namespace Go.Proofs.Ytlgafmgohinkbaa
open Go.RowKit

open Go.ChangeShapes Go.WideShapes Go.Joins Go.Deep
theorem opn_str : Opens Try.prog 9 strE := opens_str Try.underlying9
theorem Try.cellStr : Try.prog.cellsOf 9 = strE.n := by kernel_rfl
theorem opn_int : Opens Try.prog 2 intE := opens_int Try.underlying2
theorem opn_bool : Opens Try.prog 4 boolE := opens_bool Try.underlying4
theorem Try.cellRdn : Try.prog.cellsOf 208 = rdnE.n := by kernel_rfl
set_option maxRecDepth 100000 in
theorem opn_rdn : Opens Try.prog 208 rdnE := opens_struct Try.underlying208 Try.cellRdn (ff_cons _ (by rfl) (by rfl) (by kernel_rfl) opn_str (ff_last _ (by rfl) (by rfl) (by kernel_rfl) (by rfl) opn_str))
theorem opn_strS : Opens Try.prog 29 (slE strE) := opens_sl Try.underlying29 Try.cellStr (by decide) opn_str
theorem Try.cellAttr : Try.prog.cellsOf 210 = attrE.n := by kernel_rfl
set_option maxRecDepth 100000 in
theorem opn_attr : Opens Try.prog 210 attrE := opens_struct Try.underlying210 Try.cellAttr (ff_cons _ (by rfl) (by rfl) (by kernel_rfl) opn_str (ff_last _ (by rfl) (by rfl) (by kernel_rfl) (by rfl) opn_strS))
theorem opn_rdnS : Opens Try.prog 123 (slE rdnE) := opens_sl Try.underlying123 Try.cellRdn (by decide) opn_rdn
theorem opn_attrS : Opens Try.prog 124 (slE attrE) := opens_sl Try.underlying124 Try.cellAttr (by decide) opn_attr
theorem Try.cellEntry : Try.prog.cellsOf 126 = entryE.n := by kernel_rfl
set_option maxRecDepth 100000 in
theorem opn_entry : Opens Try.prog 126 entryE := opens_struct Try.underlying126 Try.cellEntry (ff_cons _ (by rfl) (by rfl) (by kernel_rfl) opn_rdnS (ff_last _ (by rfl) (by rfl) (by kernel_rfl) (by rfl) opn_attrS))
theorem Try.cellNode : Try.prog.cellsOf 102 = nodeE.n := by kernel_rfl
set_option maxRecDepth 100000 in
theorem opn_node : Opens Try.prog 102 nodeE := opens_struct Try.underlying102 Try.cellNode (ff_cons _ (by rfl) (by rfl) (by kernel_rfl) opn_int (ff_cons _ (by rfl) (by rfl) (by kernel_rfl) opn_str (ff_cons _ (by rfl) (by rfl) (by kernel_rfl) opn_str (ff_last _ (by rfl) (by rfl) (by kernel_rfl) (by rfl) opn_int))))
theorem Try.cellClass : Try.prog.cellsOf 134 = classE.n := by kernel_rfl
set_option maxRecDepth 100000 in
theorem opn_class : Opens Try.prog 134 classE := opens_struct Try.underlying134 Try.cellClass (ff_cons _ (by rfl) (by rfl) (by kernel_rfl) opn_str (ff_cons _ (by rfl) (by rfl) (by kernel_rfl) opn_strS (ff_cons _ (by rfl) (by rfl) (by kernel_rfl) opn_strS (ff_last _ (by rfl) (by rfl) (by kernel_rfl) (by rfl) opn_strS))))
theorem Try.cellMod : Try.prog.cellsOf 35 = modE.n := by kernel_rfl
set_option maxRecDepth 100000 in
theorem opn_mod : Opens Try.prog 35 modE := opens_struct Try.underlying35 Try.cellMod (ff_cons _ (by rfl) (by rfl) (by kernel_rfl) opn_int (ff_cons _ (by rfl) (by rfl) (by kernel_rfl) opn_str (ff_last _ (by rfl) (by rfl) (by kernel_rfl) (by rfl) opn_strS)))
theorem opn_entryS : Opens Try.prog 42 (slE entryE) := opens_sl Try.underlying42 Try.cellEntry (by decide) opn_entry
theorem opn_nodeS : Opens Try.prog 22 (slE nodeE) := opens_sl Try.underlying22 Try.cellNode (by decide) opn_node
theorem opn_classS : Opens Try.prog 50 (slE classE) := opens_sl Try.underlying50 Try.cellClass (by decide) opn_class
set_option maxRecDepth 100000 in
theorem opv_rdn {H : Type} {enc : TypeId × Value → H} {w : World} {base : Nat} {spare : Nat → Bool} {held : Bool} {r : Reach} {b0 : Nat} {v : Value} {d : DataW H} {p : List MemPlace} (hv : Value.okWide Try.prog w r b0 208 v) (h : DataW.Trod enc Try.prog w base spare held 208 v d p) :
    ∃ (a0 : ByteArray) (a1 : ByteArray) , v = .agg #[.string a0, .string a1] ∧ (True) ∧ rdnE.long (a0, a1) := by
  obtain ⟨cs, a, rfl, h1, h2⟩ := opv_struct Try.underlying208 opn_rdn hv h
  obtain ⟨a0, a1, rfl, e1, hq⟩ := rdn_atq h1
  refine ⟨a0, a1, agg_eq e1, ?_, h2⟩
  exact hq
set_option maxRecDepth 100000 in
theorem opv_attr {H : Type} {enc : TypeId × Value → H} {w : World} {base : Nat} {spare : Nat → Bool} {held : Bool} {r : Reach} {b0 : Nat} {v : Value} {d : DataW H} {p : List MemPlace} (hv : Value.okWide Try.prog w r b0 210 v) (h : DataW.Trod enc Try.prog w base spare held 210 v d p) :
    ∃ (a0 : ByteArray) (a1 : (List ByteArray)) (v1 : Value), v = .agg #[.string a0, v1] ∧ (SlAt strE (All w) w a1 v1) ∧ attrE.long (a0, a1) := by
  obtain ⟨cs, a, rfl, h1, h2⟩ := opv_struct Try.underlying210 opn_attr hv h
  obtain ⟨a0, a1, v1, rfl, e1, hq⟩ := attr_atq h1
  refine ⟨a0, a1, v1, agg_eq e1, ?_, h2⟩
  exact hq.1
set_option maxRecDepth 100000 in
theorem opv_entry {H : Type} {enc : TypeId × Value → H} {w : World} {base : Nat} {spare : Nat → Bool} {held : Bool} {r : Reach} {b0 : Nat} {v : Value} {d : DataW H} {p : List MemPlace} (hv : Value.okWide Try.prog w r b0 126 v) (h : DataW.Trod enc Try.prog w base spare held 126 v d p) :
    ∃ (a0 : (List RdnT)) (a1 : (List AttrT)) (v0 v1 : Value), v = .agg #[v0, v1] ∧ (SlAt rdnE (All w) w a0 v0 ∧ SlAt attrE (All w) w a1 v1) ∧ entryE.long (a0, a1) := by
  obtain ⟨cs, a, rfl, h1, h2⟩ := opv_struct Try.underlying126 opn_entry hv h
  obtain ⟨a0, a1, v0, v1, rfl, e1, hq⟩ := entry_atq h1
  refine ⟨a0, a1, v0, v1, agg_eq e1, ?_, h2⟩
  exact ⟨hq.1, hq.2.1⟩
set_option maxRecDepth 100000 in
theorem opv_node {H : Type} {enc : TypeId × Value → H} {w : World} {base : Nat} {spare : Nat → Bool} {held : Bool} {r : Reach} {b0 : Nat} {v : Value} {d : DataW H} {p : List MemPlace} (hv : Value.okWide Try.prog w r b0 102 v) (h : DataW.Trod enc Try.prog w base spare held 102 v d p) :
    ∃ (a0 : Int) (a1 : ByteArray) (a2 : ByteArray) (a3 : Int) , v = .agg #[.int .i64 a0, .string a1, .string a2, .int .i64 a3] ∧ (True) ∧ nodeE.long (a0, a1, a2, a3) := by
  obtain ⟨cs, a, rfl, h1, h2⟩ := opv_struct Try.underlying102 opn_node hv h
  obtain ⟨a0, a1, a2, a3, rfl, e1, hq⟩ := node_atq h1
  refine ⟨a0, a1, a2, a3, agg_eq e1, ?_, h2⟩
  exact hq
set_option maxRecDepth 100000 in
theorem opv_class {H : Type} {enc : TypeId × Value → H} {w : World} {base : Nat} {spare : Nat → Bool} {held : Bool} {r : Reach} {b0 : Nat} {v : Value} {d : DataW H} {p : List MemPlace} (hv : Value.okWide Try.prog w r b0 134 v) (h : DataW.Trod enc Try.prog w base spare held 134 v d p) :
    ∃ (a0 : ByteArray) (a1 : (List ByteArray)) (a2 : (List ByteArray)) (a3 : (List ByteArray)) (v1 v2 v3 : Value), v = .agg #[.string a0, v1, v2, v3] ∧ (SlAt strE (All w) w a1 v1 ∧ SlAt strE (All w) w a2 v2 ∧ SlAt strE (All w) w a3 v3) ∧ classE.long (a0, a1, a2, a3) := by
  obtain ⟨cs, a, rfl, h1, h2⟩ := opv_struct Try.underlying134 opn_class hv h
  obtain ⟨a0, a1, a2, a3, v1, v2, v3, rfl, e1, hq⟩ := class_atq h1
  refine ⟨a0, a1, a2, a3, v1, v2, v3, agg_eq e1, ?_, h2⟩
  exact ⟨hq.1, hq.2.1, hq.2.2.1⟩
set_option maxRecDepth 100000 in
theorem opv_mod {H : Type} {enc : TypeId × Value → H} {w : World} {base : Nat} {spare : Nat → Bool} {held : Bool} {r : Reach} {b0 : Nat} {v : Value} {d : DataW H} {p : List MemPlace} (hv : Value.okWide Try.prog w r b0 35 v) (h : DataW.Trod enc Try.prog w base spare held 35 v d p) :
    ∃ (a0 : Int) (a1 : ByteArray) (a2 : (List ByteArray)) (v2 : Value), v = .agg #[.int .i64 a0, .string a1, v2] ∧ (SlAt strE (All w) w a2 v2) ∧ modE.long (a0, a1, a2) := by
  obtain ⟨cs, a, rfl, h1, h2⟩ := opv_struct Try.underlying35 opn_mod hv h
  obtain ⟨a0, a1, a2, v2, rfl, e1, hq⟩ := mod_atq h1
  refine ⟨a0, a1, a2, v2, agg_eq e1, ?_, h2⟩
  exact hq.1
end Go.Proofs.Ytlgafmgohinkbaa
