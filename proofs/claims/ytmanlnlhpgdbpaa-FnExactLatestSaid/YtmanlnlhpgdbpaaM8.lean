/- Merged texts: heldAttr, heldEntry, heldChange, LatestW, Opn. -/
import Derived.Test.YtmanlnlhpgdbpaaM2
import Derived.Test.YtmanlnlhpgdbpaaM4
import Derived.SliceStrings
import Derived.Test.YtmanlnlhpgdbpaaM7
import Derived.Test.YtmanlnlhpgdbpaaM1
import Derived.Test.YtmanlnlhpgdbpaaM5
import Derived.Test.YtmanlnlhpgdbpaaM6
import Derived.Test.YtmanlnlhpgdbpaaRows
/- The helpers of the laws: marks asked. -/
namespace Go.Proofs.Ytmanlnlhpgdbpaa
open Go.RowKit
attribute [local go_sem ↓] Go.wp_at_zero Go.wp_at_succ

set_option maxRecDepth 100000 in
set_option maxHeartbeats 4000000 in
theorem heldAttrS_at {S : Bs} (v : Value) (d : List AttrT) (k : Nat) (w : World) (h : SlAt attrE S w (mkAll attrE k d) v) (hl : d.length ≤ 1048576) (hz : szL attrE d ≤ 1048576) (hk1 : 0 < k) (hk2 : k + cntL attrE d ≤ 1000000000) :
    Calls Try.prog 45 #[v, .int .i64 k] w fun e w' => e = .returned (.int .i64 ((k + cntL attrE d : Nat) : Int)) ∧ Below w.heap.size w w' := by
  obtain ⟨ao, cap, rfl⟩ := h.sl
  have hml := mkAll_length attrE k d
  rw [hml]
  rw [hml] at h
  have HS := Lib.hid h; clear h
  have HTx : Hid (∀ (X : World) (m : Nat) (q : Int), q = (m : Int) → 0 < m → m ≤ 1000000000 → Calls Try.prog 41 #[.int .i64 q] X fun e w' => e = .returned (.string (mkT m)) ∧ Below X.heap.size X w') := Lib.hid (fun X m q e h1 h2 => by subst e; exact markText_any m X h1 h2)
  have HM1 : Hid (∀ (X : World) (u : Value) (V : List ByteArray) (m : Nat) (q : Int), q = (m : Int) → SlAt strE S X (mkAll strE m V) u → V.length ≤ 1048576 → szL strE V ≤ 1048576 → 0 < m → m + cntL strE V ≤ 1000000000 → Calls Try.prog 79 #[u, .int .i64 q] X fun e w' => e = .returned (.int .i64 ((m + cntL strE V : Nat) : Int)) ∧ Below X.heap.size X w') := Lib.hid (fun X u V m q e h h0 hz h1 h2 => by subst e; exact heldStringS_at u V m X h h0 hz h1 h2)
  go_enter Try.func45, Try.ntmps45
  go_wp2
  go_loopw [1, 5] (fun t i wr => ∃ j : Nat, j ≤ d.length ∧ i = .int .i64 j ∧ t = .int .i64 ((k + cntL attrE (d.take j) : Nat) : Int) ∧ Below w.heap.size w wr) (fun _ i _ => d.length - (intOf i).toNat)
  case atStart => exact ⟨0, Nat.zero_le _, rfl, by simp [cntL], Below.refl _ _⟩
  case round =>
    obtain ⟨j, hj, rfl, rfl, hbel⟩ := hrel
    have hcl := cntL_take_le attrE d j
    by_cases hlt : j < d.length
    · obtain ⟨b, off, x0, x1, u1, rfl, _, hb0, hx, hc, q1, _⟩ := attr_row (HS.out.frame (Same.of_below' hbel)) (k := j) (by rw [hml]; exact hlt)
      have HCs := Lib.hid (cntL_take attrE d j hlt)
      have hcs : cntL attrE (d.take j) + (attrE).cnt d[j] ≤ cntL attrE d := by have := cntL_take_le attrE d (j + 1); rw [HCs.out] at this; exact this
      rw [mkAll_get attrE k d j hlt] at hx
      rcases hd : d[j] with ⟨a0, a1⟩
      rw [hd] at hx hcs
      have HX := Lib.hid hd
      have hct : (attrE).cnt (a0, a1) = 1 + (cntL strE a1) := rfl
      rw [hct] at hcs
      have hl1 : a1.length ≤ 1048576 := by have := szL_mem attrE (List.getElem_mem hlt); rw [hd] at this; have h2 : (attrE).sz (a0, a1) = a0.size + ((a1.length + szL strE a1)) := rfl; rw [h2] at this; omega
      have hz1 : szL strE a1 ≤ 1048576 := by have := szL_mem attrE (List.getElem_mem hlt); rw [hd] at this; have h2 : (attrE).sz (a0, a1) = a0.size + ((a1.length + szL strE a1)) := rfl; rw [h2] at this; omega
      have hm : ((x0, x1) : AttrT) = (mkT (k + cntL attrE (d.take j)), mkAll strE (k + cntL attrE (d.take j) + 1) a1) := hx.symm.trans rfl
      simp only [Prod.mk.injEq] at hm
      obtain ⟨rfl, rfl⟩ := hm
      clear hx hd
      have HQ1 := Lib.hid q1; clear q1
      generalize hc' : cntL attrE (d.take j) = c at *
      clear hc'
      generalize hm1 : cntL strE a1 = m1 at *
      have Hm1 := Lib.hid hm1; clear hm1
      have SK : Hid (∀ W : World, Below wr.heap.size wr W → (Below wr.heap.size wr W ∧ W.cell? ⟨b, off + j * 2, none⟩ = some (.string (mkT (k + c))) ∧ W.cell? ⟨b, off + j * 2 + 1, none⟩ = some (u1))) := Lib.hid (fun W h => ⟨h, (h.cell (p := ⟨b, _, none⟩) hb0).trans hc.1, (h.cell (p := ⟨b, _, none⟩) hb0).trans hc.2⟩)
      have hw0 : Below wr.heap.size wr wr := Below.refl _ _
      have hbd : Below wr.heap.size wr wr.drew := hw0.drew
      have HBl := Lib.hid hbel
      clear hbel hc
      have g1 : (0 : Int) ≤ (j : Int) := by omega
      have g2 : (j : Int) < (d.length : Int) := by omega
      have HT1 : Hid (∀ (X : World) (q : Int), q = ((k + c : Nat) : Int) → Below wr.heap.size wr X → Calls Try.prog 41 #[.int .i64 q] X fun e w' => e = .returned (.string (mkT (k + c))) ∧ Below wr.heap.size wr w') := Lib.hid (fun X q e h => (HTx.out X (k + c) q e (by omega) (by omega)).mono fun _ _ z => ⟨z.1, h.trans (z.2.mono h.size)⟩)
      have hkk : ((mkT (k + c)).toList == (mkT (k + c)).toList) = true := by simp
      generalize mkT (k + c) = A0 at *
      go_wp2_with fail
      go_region_held3 (fun W => Below wr.heap.size wr W ∧ W.cell? ⟨b, off + j * 2, none⟩ = some (.string A0) ∧ W.cell? ⟨b, off + j * 2 + 1, none⟩ = some (u1))
        (exact SK.out _ (by assumption))
        (first | (go_at_call 41; refine (HT1.out _ _ (by omega) (by assumption)).mono ?_; rintro e X1 ⟨rfl, hx1⟩) | (fail "none"))
      clear HT1 hkk
      have HN := Lib.hid (HM1.out X1 u1 a1 (k + c + 1) _ rfl (HQ1.out.frame (Same.of_below' hx1)) hl1 hz1 (by omega) (by rw [Hm1.out]; omega))
      rw [Hm1.out] at HN
      obtain ⟨_, c0, c1⟩ := SK.out X1 hx1
      have hq : ¬ ((k + c + 1 + m1 : Nat) : Int) < 0 := by omega
      obtain ⟨p1, n1, j1, rfl⟩ : ∃ p n j, u1 = .slice p n j := by obtain ⟨p, j, z⟩ := HQ1.out.sl; exact ⟨p, _, j, z⟩
      go_wp2_with fail
      refine (calls_int HN.out (by omega)).mono ?_
      rintro e X2 ⟨rfl, hb⟩
      have hx2 := hx1.trans (hb.mono hx1.size)
      clear HN hb c0 c1
      go_wp2
      go_roundw
      case rel => exact ⟨j + 1, by omega, by go_num, by rw [HCs.out, HX.out, hct]; first | (congr 1; done) | (congr 1; omega), HBl.out.trans (hx2.mono HBl.out.size)⟩
      case measure => simp [intOf]; omega
    · have e : j = d.length := by omega
      subst e
      have hce : cntL attrE (d.take d.length) = cntL attrE d := by rw [List.take_length]
      rw [hce]
      go_wp2
      go_ret
      exact ⟨rfl, hbel⟩
end Go.Proofs.Ytmanlnlhpgdbpaa
/- The helpers of the laws: marks asked. -/
namespace Go.Proofs.Ytmanlnlhpgdbpaa
open Go.RowKit
attribute [local go_sem ↓] Go.wp_at_zero Go.wp_at_succ

end Go.Proofs.Ytmanlnlhpgdbpaa
/- The helpers of the laws: marks asked. -/
namespace Go.Proofs.Ytmanlnlhpgdbpaa
open Go.RowKit
attribute [local go_sem ↓] Go.wp_at_zero Go.wp_at_succ

set_option maxRecDepth 100000 in
set_option maxHeartbeats 4000000 in
theorem heldChangeS_at {S : Bs} (v : Value) (d : List ChangeT) (k : Nat) (w : World) (h : SlAt changeE S w (mkAll changeE k d) v) (hl : d.length ≤ 1048576) (hz : szL changeE d ≤ 1048576) (hk1 : 0 < k) (hk2 : k + cntL changeE d ≤ 1000000000) :
    Calls Try.prog 12 #[v, .int .i64 k] w fun e w' => e = .returned (.int .i64 ((k + cntL changeE d : Nat) : Int)) ∧ Below w.heap.size w w' := by
  obtain ⟨ao, cap, rfl⟩ := h.sl
  have hml := mkAll_length changeE k d
  rw [hml]
  rw [hml] at h
  have HS := Lib.hid h; clear h
  have HTx : Hid (∀ (X : World) (m : Nat) (q : Int), q = (m : Int) → 0 < m → m ≤ 1000000000 → Calls Try.prog 41 #[.int .i64 q] X fun e w' => e = .returned (.string (mkT m)) ∧ Below X.heap.size X w') := Lib.hid (fun X m q e h1 h2 => by subst e; exact markText_any m X h1 h2)
  have HM3 : Hid (∀ (X : World) (u : Value) (V : List RdnT) (m : Nat) (q : Int), q = (m : Int) → SlAt rdnE S X (mkAll rdnE m V) u → V.length ≤ 1048576 → szL rdnE V ≤ 1048576 → 0 < m → m + cntL rdnE V ≤ 1000000000 → Calls Try.prog 44 #[u, .int .i64 q] X fun e w' => e = .returned (.int .i64 ((m + cntL rdnE V : Nat) : Int)) ∧ Below X.heap.size X w') := Lib.hid (fun X u V m q e h h0 hz h1 h2 => by subst e; exact heldRdnS_at u V m X h h0 hz h1 h2)
  have HM4 : Hid (∀ (X : World) (u : Value) (V : List AttrT) (m : Nat) (q : Int), q = (m : Int) → SlAt attrE S X (mkAll attrE m V) u → V.length ≤ 1048576 → szL attrE V ≤ 1048576 → 0 < m → m + cntL attrE V ≤ 1000000000 → Calls Try.prog 45 #[u, .int .i64 q] X fun e w' => e = .returned (.int .i64 ((m + cntL attrE V : Nat) : Int)) ∧ Below X.heap.size X w') := Lib.hid (fun X u V m q e h h0 hz h1 h2 => by subst e; exact heldAttrS_at u V m X h h0 hz h1 h2)
  go_enter Try.func12, Try.ntmps12
  go_wp2
  go_loopw [1, 5] (fun t i wr => ∃ j : Nat, j ≤ d.length ∧ i = .int .i64 j ∧ t = .int .i64 ((k + cntL changeE (d.take j) : Nat) : Int) ∧ Below w.heap.size w wr) (fun _ i _ => d.length - (intOf i).toNat)
  case atStart => exact ⟨0, Nat.zero_le _, rfl, by simp [cntL], Below.refl _ _⟩
  case round =>
    obtain ⟨j, hj, rfl, rfl, hbel⟩ := hrel
    have hcl := cntL_take_le changeE d j
    by_cases hlt : j < d.length
    · obtain ⟨b, off, x0, x1, x2, x3, x4, u3, u4, rfl, _, hb0, hx, hc, q3, q4, _⟩ := change_row (HS.out.frame (Same.of_below' hbel)) (k := j) (by rw [hml]; exact hlt)
      have HCs := Lib.hid (cntL_take changeE d j hlt)
      have hcs : cntL changeE (d.take j) + (changeE).cnt d[j] ≤ cntL changeE d := by have := cntL_take_le changeE d (j + 1); rw [HCs.out] at this; exact this
      rw [mkAll_get changeE k d j hlt] at hx
      rcases hd : d[j] with ⟨a0, a1, a2, ⟨a3, a4⟩⟩
      rw [hd] at hx hcs
      have HX := Lib.hid hd
      have hct : (changeE).cnt (a0, a1, a2, (a3, a4)) = 1 + (1 + (1 + ((cntL rdnE a3 + (cntL attrE a4))))) := rfl
      rw [hct] at hcs
      have hl3 : a3.length ≤ 1048576 := by have := szL_mem changeE (List.getElem_mem hlt); rw [hd] at this; have h2 : (changeE).sz (a0, a1, a2, (a3, a4)) = 0 + (0 + (a2.size + (((a3.length + szL rdnE a3) + ((a4.length + szL attrE a4)))))) := rfl; rw [h2] at this; omega
      have hz3 : szL rdnE a3 ≤ 1048576 := by have := szL_mem changeE (List.getElem_mem hlt); rw [hd] at this; have h2 : (changeE).sz (a0, a1, a2, (a3, a4)) = 0 + (0 + (a2.size + (((a3.length + szL rdnE a3) + ((a4.length + szL attrE a4)))))) := rfl; rw [h2] at this; omega
      have hl4 : a4.length ≤ 1048576 := by have := szL_mem changeE (List.getElem_mem hlt); rw [hd] at this; have h2 : (changeE).sz (a0, a1, a2, (a3, a4)) = 0 + (0 + (a2.size + (((a3.length + szL rdnE a3) + ((a4.length + szL attrE a4)))))) := rfl; rw [h2] at this; omega
      have hz4 : szL attrE a4 ≤ 1048576 := by have := szL_mem changeE (List.getElem_mem hlt); rw [hd] at this; have h2 : (changeE).sz (a0, a1, a2, (a3, a4)) = 0 + (0 + (a2.size + (((a3.length + szL rdnE a3) + ((a4.length + szL attrE a4)))))) := rfl; rw [h2] at this; omega
      have hm : ((x0, x1, x2, (x3, x4)) : ChangeT) = (((k + cntL changeE (d.take j) : Nat) : Int), ((k + cntL changeE (d.take j) + 1 : Nat) : Int), mkT (k + cntL changeE (d.take j) + 1 + 1), (mkAll rdnE (k + cntL changeE (d.take j) + 1 + 1 + 1) a3, mkAll attrE (k + cntL changeE (d.take j) + 1 + 1 + 1 + cntL rdnE a3) a4)) := hx.symm.trans rfl
      simp only [Prod.mk.injEq] at hm
      obtain ⟨rfl, rfl, rfl, ⟨rfl, rfl⟩⟩ := hm
      clear hx hd
      have HQ3 := Lib.hid q3; clear q3
      have HQ4 := Lib.hid q4; clear q4
      generalize hc' : cntL changeE (d.take j) = c at *
      clear hc'
      generalize hm3 : cntL rdnE a3 = m3 at *
      have Hm3 := Lib.hid hm3; clear hm3
      generalize hm4 : cntL attrE a4 = m4 at *
      have Hm4 := Lib.hid hm4; clear hm4
      have SK : Hid (∀ W : World, Below wr.heap.size wr W → (Below wr.heap.size wr W ∧ W.cell? ⟨b, off + j * 5, none⟩ = some (.int .i64 ((k + c : Nat) : Int)) ∧ W.cell? ⟨b, off + j * 5 + 1, none⟩ = some (.int .i64 ((k + c + 1 : Nat) : Int)) ∧ W.cell? ⟨b, off + j * 5 + 2, none⟩ = some (.string (mkT (k + c + 1 + 1))) ∧ W.cell? ⟨b, off + j * 5 + 3, none⟩ = some (u3) ∧ W.cell? ⟨b, off + j * 5 + 4, none⟩ = some (u4))) := Lib.hid (fun W h => ⟨h, (h.cell (p := ⟨b, _, none⟩) hb0).trans hc.1, (h.cell (p := ⟨b, _, none⟩) hb0).trans hc.2.1, (h.cell (p := ⟨b, _, none⟩) hb0).trans hc.2.2.1, (h.cell (p := ⟨b, _, none⟩) hb0).trans hc.2.2.2.1, (h.cell (p := ⟨b, _, none⟩) hb0).trans hc.2.2.2.2⟩)
      have hw0 : Below wr.heap.size wr wr := Below.refl _ _
      have hbd : Below wr.heap.size wr wr.drew := hw0.drew
      have HBl := Lib.hid hbel
      clear hbel hc
      have g1 : (0 : Int) ≤ (j : Int) := by omega
      have g2 : (j : Int) < (d.length : Int) := by omega
      obtain ⟨_, c0, c1, c2, c3, c4⟩ := SK.out wr hw0
      obtain ⟨_, c0, c1, c2, c3, c4⟩ := SK.out wr hw0
      have HT1 : Hid (∀ (X : World) (q : Int), q = ((k + c + 1 + 1 : Nat) : Int) → Below wr.heap.size wr X → Calls Try.prog 41 #[.int .i64 q] X fun e w' => e = .returned (.string (mkT (k + c + 1 + 1))) ∧ Below wr.heap.size wr w') := Lib.hid (fun X q e h => (HTx.out X (k + c + 1 + 1) q e (by omega) (by omega)).mono fun _ _ z => ⟨z.1, h.trans (z.2.mono h.size)⟩)
      have hkk : ((mkT (k + c + 1 + 1)).toList == (mkT (k + c + 1 + 1)).toList) = true := by simp
      generalize mkT (k + c + 1 + 1) = A2 at *
      go_wp2_with fail
      go_region_held3 (fun W => Below wr.heap.size wr W ∧ W.cell? ⟨b, off + j * 5, none⟩ = some (.int .i64 ((k + c : Nat) : Int)) ∧ W.cell? ⟨b, off + j * 5 + 1, none⟩ = some (.int .i64 ((k + c + 1 : Nat) : Int)) ∧ W.cell? ⟨b, off + j * 5 + 2, none⟩ = some (.string A2) ∧ W.cell? ⟨b, off + j * 5 + 3, none⟩ = some (u3) ∧ W.cell? ⟨b, off + j * 5 + 4, none⟩ = some (u4))
        (exact SK.out _ (by assumption))
        (first | (go_at_call 41; refine (HT1.out _ _ (by omega) (by assumption)).mono ?_; rintro e X1 ⟨rfl, hx1⟩) | (fail "none"))
      clear HT1 hkk
      have HN := Lib.hid (HM3.out X1 u3 a3 (k + c + 1 + 1 + 1) _ rfl (HQ3.out.frame (Same.of_below' hx1)) hl3 hz3 (by omega) (by rw [Hm3.out]; omega))
      rw [Hm3.out] at HN
      obtain ⟨_, c0, c1, c2, c3, c4⟩ := SK.out X1 hx1
      have hq : ¬ ((k + c + 1 + 1 + 1 + m3 : Nat) : Int) < 0 := by omega
      obtain ⟨p3, n3, j3, rfl⟩ : ∃ p n j, u3 = .slice p n j := by obtain ⟨p, j, z⟩ := HQ3.out.sl; exact ⟨p, _, j, z⟩
      go_wp2_with fail
      refine (calls_int HN.out (by omega)).mono ?_
      rintro e X2 ⟨rfl, hb⟩
      have hx2 := hx1.trans (hb.mono hx1.size)
      clear HN hb c0 c1 c2 c3 c4
      have HN := Lib.hid (HM4.out X2 u4 a4 (k + c + 1 + 1 + 1 + m3) _ rfl (HQ4.out.frame (Same.of_below' hx2)) hl4 hz4 (by omega) (by rw [Hm4.out]; omega))
      rw [Hm4.out] at HN
      obtain ⟨_, c0, c1, c2, c3, c4⟩ := SK.out X2 hx2
      have hq : ¬ ((k + c + 1 + 1 + 1 + m3 + m4 : Nat) : Int) < 0 := by omega
      obtain ⟨p4, n4, j4, rfl⟩ : ∃ p n j, u4 = .slice p n j := by obtain ⟨p, j, z⟩ := HQ4.out.sl; exact ⟨p, _, j, z⟩
      go_wp2_with fail
      refine (calls_int HN.out (by omega)).mono ?_
      rintro e X3 ⟨rfl, hb⟩
      have hx3 := hx2.trans (hb.mono hx2.size)
      clear HN hb c0 c1 c2 c3 c4
      go_wp2
      go_roundw
      case rel => exact ⟨j + 1, by omega, by go_num, by rw [HCs.out, HX.out, hct]; first | (congr 1; done) | (congr 1; omega), HBl.out.trans (hx3.mono HBl.out.size)⟩
      case measure => simp [intOf]; omega
    · have e : j = d.length := by omega
      subst e
      have hce : cntL changeE (d.take d.length) = cntL changeE d := by rw [List.take_length]
      rw [hce]
      go_wp2
      go_ret
      exact ⟨rfl, hbel⟩
end Go.Proofs.Ytmanlnlhpgdbpaa
/- The law FnExactLatest: its walk. -/
namespace Go.Proofs.Ytmanlnlhpgdbpaa
open Go.RowKit
attribute [local go_sem ↓] Go.wp_at_zero Go.wp_at_succ

set_option maxRecDepth 100000 in
set_option maxHeartbeats 4000000 in
theorem Latest_walk (v0 : Value) (d0 : List ChangeT) (w : World) (h0 : SlAt changeE (All w) w d0 v0) (f0 : (slE changeE).long d0) :
    Calls Try.prog 3 #[v0] w fun e w' => e = .returned (.bool true) ∧ Below w.heap.size w w' := by
  have HQ0 : Hid (d0.length + szL changeE d0 ≤ 1048576 → ∀ (Y : World) (S S' : Bs) (x u : Value), SlAt changeE S Y d0 x → SlAt changeE S' Y d0 u → Calls Try.prog 10 #[x, u] Y fun e w' => e = .returned (.bool true) ∧ Below Y.heap.size Y w') := Lib.hid (fun z Y S S' x u h1 h2 => eqChangeS_at x u d0 Y h1 h2 z)
  have HS0 : Hid (∀ (l : Int) (W : World), Below w.heap.size w W → 0 ≤ l → l ≤ 1048576 → Calls Try.prog 6 #[v0, .int .i64 l] W fun e w' => e = .returned (.int .i64 (leftR (d0.length + szL changeE d0) l)) ∧ Below W.heap.size W w') := Lib.hid (fun l W b p q => szChangeS_at v0 d0 l W (h0.frame (Same.of_below' b)) f0 p q)
  have HT0 : Hid (d0.length + szL changeE d0 ≤ 1048576 → ∀ Y : World, Below w.heap.size w Y → Calls Try.prog 8 #[v0] Y fun e w' => ∃ u, e = .returned u ∧ SlOwn changeE (Fresh Y w') w' d0 u ∧ Below Y.heap.size Y w') := Lib.hid (fun z Y b => toChangeS_at v0 d0 Y (h0.frame (Same.of_below' b)) z)
  have HSp : Hid (d0.length + szL changeE d0 ≤ 1048576 → ∀ (Y : World) (S0 : Bs) (u0 : Value), SlAt changeE S0 Y d0 u0 → Calls Try.prog 7 #[u0] Y fun e w' => (∃ u9 : Value, e = .returned u9 ∧ SlOwn changeE (Fresh Y w') w' (latestR d0) u9) ∧ Below Y.heap.size Y w') := Lib.hid (fun z0 Y S0 u0 h0 => SpecLatest_any u0 d0 Y h0 z0)
  have HIm : Hid (d0.length + szL changeE d0 ≤ 1048576 → ∀ (Y : World) (S0 : Bs) (u0 : Value), SlAt changeE S0 Y d0 u0 → Calls Try.prog 9 #[u0] Y fun e w' => (∃ u9 : Value, e = .returned u9 ∧ SlOwn changeE (Fresh Y w') w' (latestR d0) u9) ∧ Below Y.heap.size Y w') := Lib.hid (fun z0 Y S0 u0 h0 => Latest_any u0 d0 Y h0 z0)
  obtain ⟨o0, k0, rfl⟩ := h0.sl
  clear h0 f0
  go_enter Try.func3, Try.ntmps3
  have B : Hid (Below w.heap.size w w) := Lib.hid (Below.refl _ _)
  go_wp2_with fail
  refine (HS0.out (1048576) w B.out (by omega) (by omega)).mono ?_
  rintro e W1 ⟨rfl, hb⟩
  have B1 := Lib.hid (B.out.trans (hb.mono B.out.size)); clear B; have B := B1; clear B1
  have O0 := Lib.hid (hb.size)
  clear hb HS0
  by_cases g0 : ((d0.length + szL changeE d0 : Nat) : Int) ≤ 1048576
  rotate_left
  · rw [leftR_neg g0]
    clear g0
    go_wp2
    go_ret
    exact ⟨rfl, B.out⟩
  rw [leftR_pos g0]
  have HZ0 : Hid (d0.length + szL changeE d0 ≤ 1048576) := Lib.hid (by omega)
  have p0 : (0 : Int) ≤ ((d0.length + szL changeE d0 : Nat) : Int) := by omega
  have c0 : ¬ 1048576 - ((d0.length + szL changeE d0 : Nat) : Int) < 0 := by omega
  generalize ((d0.length + szL changeE d0 : Nat) : Int) = t0 at *
  have HT := Lib.hid (HT0.out HZ0.out); clear HT0; have HT0 := HT; clear HT
  have HQ := Lib.hid (HQ0.out HZ0.out); clear HQ0; have HQ0 := HQ; clear HQ
  have HS := Lib.hid (HSp.out HZ0.out); have HI := Lib.hid (HIm.out HZ0.out); clear HSp HIm
  have O1 := Lib.hid (B.out.size)
  have HRz : Hid ((latestR d0).length + szL changeE (latestR d0) ≤ 1048576) := Lib.hid (Nat.le_trans (latestR_sz d0) HZ0.out)
  generalize latestR d0 = R at *
  have HQR : Hid (∀ (Y : World) (S S' : Bs) (x u : Value), SlAt changeE S Y R x → SlAt changeE S' Y R u → Calls Try.prog 10 #[x, u] Y fun e w' => e = .returned (.bool true) ∧ Below Y.heap.size Y w') := Lib.hid (fun Y S S' x u h1 h2 => eqChangeS_at x u R Y h1 h2 HRz.out)
  go_wp2_with fail
  refine (HT0.out _ B.out).mono ?_
  rintro e W2 ⟨x0, rfl, q, hb⟩
  have B1 := Lib.hid (B.out.trans (hb.mono B.out.size)); clear B; have B := B1; clear B1
  have O2 := Lib.hid (hb.size)
  have Qx0 := Lib.hid q.at; clear q hb
  obtain ⟨px0, cx0, rfl⟩ := Qx0.out.sl
  go_wp2_with fail
  refine (HS.out _ _ _ Qx0.out).mono ?_
  rintro e W3 ⟨⟨u9, rfl, q⟩, hb⟩
  clear Qx0
  have B1 := Lib.hid (B.out.trans (hb.mono B.out.size)); clear B; have B := B1; clear B1
  have O3 := Lib.hid (hb.size)
  have Qw := Lib.hid q; clear q hb
  obtain ⟨pw, cw, rfl⟩ := Qw.out.at.sl
  go_wp2_with fail
  refine (HT0.out _ B.out).mono ?_
  rintro e W4 ⟨y0, rfl, q, hb⟩
  have P := Lib.hid (Qw.out.frame (Same.of_below' hb)); clear Qw; have Qw := P; clear P
  have B1 := Lib.hid (B.out.trans (hb.mono B.out.size)); clear B; have B := B1; clear B1
  have O4 := Lib.hid (hb.size)
  have Qy0 := Lib.hid q.at; have OY0 := Lib.hid q; clear q hb
  obtain ⟨py0, cy0, rfl⟩ := Qy0.out.sl
  go_wp2_with fail
  refine (HI.out _ _ _ Qy0.out).mono ?_
  rintro e W5 ⟨⟨u9, rfl, q⟩, hb⟩
  have P := Lib.hid (Qw.out.frame (Same.of_below' hb)); clear Qw; have Qw := P; clear P
  have P := Lib.hid (Qy0.out.frame (Same.of_below' hb)); clear Qy0; have Qy0 := P; clear P
  have P := Lib.hid (OY0.out.frame (Same.of_below' hb)); clear OY0; have OY0 := P; clear P
  have B1 := Lib.hid (B.out.trans (hb.mono B.out.size)); clear B; have B := B1; clear B1
  have O5 := Lib.hid (hb.size)
  have Qg := Lib.hid q; clear q hb
  obtain ⟨pg, cg, rfl⟩ := Qg.out.at.sl
  go_wp2_with fail
  refine (HQR.out _ _ _ _ _ Qg.out.at Qw.out.at).mono ?_
  rintro e W6 ⟨rfl, hb⟩
  have P := Lib.hid (Qw.out.frame (Same.of_below' hb)); clear Qw; have Qw := P; clear P
  have P := Lib.hid (Qy0.out.frame (Same.of_below' hb)); clear Qy0; have Qy0 := P; clear P
  have P := Lib.hid (OY0.out.frame (Same.of_below' hb)); clear OY0; have OY0 := P; clear P
  have P := Lib.hid (Qg.out.frame (Same.of_below' hb)); clear Qg; have Qg := P; clear P
  have B1 := Lib.hid (B.out.trans (hb.mono B.out.size)); clear B; have B := B1; clear B1
  have O6 := Lib.hid (hb.size)
  clear hb
  go_wp2_with fail
  refine (HT0.out _ B.out).mono ?_
  rintro e W7 ⟨z0, rfl, q, hb⟩
  have P := Lib.hid (Qw.out.frame (Same.of_below' hb)); clear Qw; have Qw := P; clear P
  have P := Lib.hid (Qy0.out.frame (Same.of_below' hb)); clear Qy0; have Qy0 := P; clear P
  have P := Lib.hid (OY0.out.frame (Same.of_below' hb)); clear OY0; have OY0 := P; clear P
  have P := Lib.hid (Qg.out.frame (Same.of_below' hb)); clear Qg; have Qg := P; clear P
  have B1 := Lib.hid (B.out.trans (hb.mono B.out.size)); clear B; have B := B1; clear B1
  have O7 := Lib.hid (hb.size)
  have Qz0 := Lib.hid q.at; clear q hb
  obtain ⟨pz0, cz0, rfl⟩ := Qz0.out.sl
  go_wp2_with fail
  refine (HQ0.out _ _ _ _ _ Qy0.out Qz0.out).mono ?_
  rintro e W8 ⟨rfl, hb⟩
  have P := Lib.hid (Qw.out.frame (Same.of_below' hb)); clear Qw; have Qw := P; clear P
  have P := Lib.hid (Qy0.out.frame (Same.of_below' hb)); clear Qy0; have Qy0 := P; clear P
  have P := Lib.hid (OY0.out.frame (Same.of_below' hb)); clear OY0; have OY0 := P; clear P
  have P := Lib.hid (Qg.out.frame (Same.of_below' hb)); clear Qg; have Qg := P; clear P
  have P := Lib.hid (Qz0.out.frame (Same.of_below' hb)); clear Qz0; have Qz0 := P; clear P
  have B1 := Lib.hid (B.out.trans (hb.mono B.out.size)); clear B; have B := B1; clear B1
  have O8 := Lib.hid (hb.size)
  clear hb
  clear Qz0
  clear Qy0
  go_wp2_with fail
  have mz := HZ0.out; have mc0 := cnt_fit (e := changeE) d0 (by decide) mz
  refine (markChangeS_at _ d0 (1) _ OY0.out (by omega) (by omega) (by omega) (by omega)).mono ?_
  rintro e W9 ⟨rfl, _, ht⟩
  clear mz
  have P := Lib.hid (Qw.out.frame (ht.same (by rintro k ⟨z1, z2⟩ ⟨z3, z4⟩; have := O0.out; have := O1.out; have := O2.out; have := O3.out; have := O4.out; have := O5.out; have := O6.out; have := O7.out; have := O8.out; omega))); clear Qw; have Qw := P; clear P
  have P := Lib.hid (Qg.out.frame (ht.same (by rintro k ⟨z1, z2⟩ ⟨z3, z4⟩; have := O0.out; have := O1.out; have := O2.out; have := O3.out; have := O4.out; have := O5.out; have := O6.out; have := O7.out; have := O8.out; omega))); clear Qg; have Qg := P; clear P
  have B1 := Lib.hid (ht.below B.out (by rintro k ⟨z3, z4⟩; have := O0.out; have := O1.out; have := O2.out; have := O3.out; have := O4.out; have := O5.out; have := O6.out; have := O7.out; have := O8.out; omega)); clear B; have B := B1; clear B1
  have O9 := Lib.hid (ht.size)
  clear OY0 ht
  have hk : ¬ ((1 + cntL changeE d0 : Nat) : Int) < 0 := by omega
  go_wp2_with fail
  refine (HQR.out _ _ _ _ _ Qg.out.at Qw.out.at).mono ?_
  rintro e W10 ⟨rfl, hb⟩
  have P := Lib.hid (Qw.out.frame (Same.of_below' hb)); clear Qw; have Qw := P; clear P
  have P := Lib.hid (Qg.out.frame (Same.of_below' hb)); clear Qg; have Qg := P; clear P
  have B1 := Lib.hid (B.out.trans (hb.mono B.out.size)); clear B; have B := B1; clear B1
  have O10 := Lib.hid (hb.size)
  clear hb
  clear hk mc0
  have mz := HRz.out; have mc := cnt_fit (e := changeE) R (by decide) mz
  have HH : Hid (∀ (Y : World) (S : Bs), SlAt changeE S Y (mkAll changeE 1 R) (.slice pg R.length cg) → Calls Try.prog 12 #[.slice pg R.length cg, .int .i64 1] Y fun e w' => e = .returned (.int .i64 ((1 + cntL changeE R : Nat) : Int)) ∧ Below Y.heap.size Y w') := Lib.hid (fun Y S h => heldChangeS_at _ R 1 Y h (by omega) (by omega) (by omega) (by omega))
  go_wp2_with fail
  refine (markChangeS_at _ R 1 _ Qg.out (by omega) (by omega) (by omega) (by omega)).mono ?_
  rintro e W11 ⟨rfl, r, ht⟩
  have QM := Lib.hid r.at; clear r
  have P := Lib.hid (Qw.out.frame (ht.same (by rintro k ⟨z1, z2⟩ ⟨z3, z4⟩; have := O0.out; have := O1.out; have := O2.out; have := O3.out; have := O4.out; have := O5.out; have := O6.out; have := O7.out; have := O8.out; have := O9.out; have := O10.out; omega))); clear Qw; have Qw := P; clear P
  have B1 := Lib.hid (ht.below B.out (by rintro k ⟨z3, z4⟩; have := O0.out; have := O1.out; have := O2.out; have := O3.out; have := O4.out; have := O5.out; have := O6.out; have := O7.out; have := O8.out; have := O9.out; have := O10.out; omega)); clear B; have B := B1; clear B1
  have O11 := Lib.hid (ht.size)
  clear Qg ht
  have hq1 : ¬ ((1 + cntL changeE R : Nat) : Int) < 0 := by omega
  generalize ((1 + cntL changeE R : Nat) : Int) = Q at *
  have hq2 : (Q != Q) = false := by simp
  clear mz mc
  go_wp2_with fail
  refine (HH.out _ _ QM.out).mono ?_
  rintro e W12 ⟨rfl, hb⟩
  have P := Lib.hid (Qw.out.frame (Same.of_below' hb)); clear Qw; have Qw := P; clear P
  have P := Lib.hid (QM.out.frame (Same.of_below' hb)); clear QM; have QM := P; clear P
  have B1 := Lib.hid (B.out.trans (hb.mono B.out.size)); clear B; have B := B1; clear B1
  have O12 := Lib.hid (hb.size)
  clear hb
  go_wp2_with fail
  refine (HT0.out _ B.out).mono ?_
  rintro e W13 ⟨x0, rfl, q, hb⟩
  have P := Lib.hid (Qw.out.frame (Same.of_below' hb)); clear Qw; have Qw := P; clear P
  have P := Lib.hid (QM.out.frame (Same.of_below' hb)); clear QM; have QM := P; clear P
  have B1 := Lib.hid (B.out.trans (hb.mono B.out.size)); clear B; have B := B1; clear B1
  have O13 := Lib.hid (hb.size)
  have Qx0 := Lib.hid q.at; clear q hb
  obtain ⟨px0, cx0, rfl⟩ := Qx0.out.sl
  go_wp2_with fail
  refine (HI.out _ _ _ Qx0.out).mono ?_
  rintro e W14 ⟨⟨u9, rfl, q⟩, hb⟩
  clear Qx0
  have P := Lib.hid (Qw.out.frame (Same.of_below' hb)); clear Qw; have Qw := P; clear P
  have P := Lib.hid (QM.out.frame (Same.of_below' hb)); clear QM; have QM := P; clear P
  have B1 := Lib.hid (B.out.trans (hb.mono B.out.size)); clear B; have B := B1; clear B1
  have O14 := Lib.hid (hb.size)
  have Qh := Lib.hid q; clear q hb
  obtain ⟨ph, ch, rfl⟩ := Qh.out.at.sl
  go_wp2_with fail
  refine (HQR.out _ _ _ _ _ Qh.out.at Qw.out.at).mono ?_
  rintro e W15 ⟨rfl, hb⟩
  have P := Lib.hid (Qw.out.frame (Same.of_below' hb)); clear Qw; have Qw := P; clear P
  have P := Lib.hid (QM.out.frame (Same.of_below' hb)); clear QM; have QM := P; clear P
  have P := Lib.hid (Qh.out.frame (Same.of_below' hb)); clear Qh; have Qh := P; clear P
  have B1 := Lib.hid (B.out.trans (hb.mono B.out.size)); clear B; have B := B1; clear B1
  have O15 := Lib.hid (hb.size)
  clear hb
  go_wp2_with fail
  refine (HH.out _ _ QM.out).mono ?_
  rintro e W16 ⟨rfl, hb⟩
  have P := Lib.hid (Qw.out.frame (Same.of_below' hb)); clear Qw; have Qw := P; clear P
  have P := Lib.hid (QM.out.frame (Same.of_below' hb)); clear QM; have QM := P; clear P
  have P := Lib.hid (Qh.out.frame (Same.of_below' hb)); clear Qh; have Qh := P; clear P
  have B1 := Lib.hid (B.out.trans (hb.mono B.out.size)); clear B; have B := B1; clear B1
  have O16 := Lib.hid (hb.size)
  clear hb
  go_wp2
  go_ret
  exact ⟨rfl, B.out⟩
end Go.Proofs.Ytmanlnlhpgdbpaa
/- Arguments of the laws: where they lie. -/
namespace Go.Proofs.Ytmanlnlhpgdbpaa
open Go.RowKit

open Go.ChangeShapes Go.WideShapes Go.Joins Go.Deep
theorem opn_str : Opens Try.prog 9 strE := opens_str Try.underlying9
theorem Try.cellStr : Try.prog.cellsOf 9 = strE.n := by kernel_rfl
theorem opn_int : Opens Try.prog 2 intE := opens_int Try.underlying2
theorem opn_strS : Opens Try.prog 40 (slE strE) := opens_sl Try.underlying40 Try.cellStr (by decide) opn_str
theorem Try.cellRdn : Try.prog.cellsOf 150 = rdnE.n := by kernel_rfl
set_option maxRecDepth 100000 in
theorem opn_rdn : Opens Try.prog 150 rdnE := opens_struct Try.underlying150 Try.cellRdn (ff_cons _ (by rfl) (by rfl) (by kernel_rfl) opn_str (ff_last _ (by rfl) (by rfl) (by kernel_rfl) (by rfl) opn_str))
theorem Try.cellAttr : Try.prog.cellsOf 152 = attrE.n := by kernel_rfl
set_option maxRecDepth 100000 in
theorem opn_attr : Opens Try.prog 152 attrE := opens_struct Try.underlying152 Try.cellAttr (ff_cons _ (by rfl) (by rfl) (by kernel_rfl) opn_str (ff_last _ (by rfl) (by rfl) (by kernel_rfl) (by rfl) opn_strS))
theorem opn_rdnS : Opens Try.prog 67 (slE rdnE) := opens_sl Try.underlying67 Try.cellRdn (by decide) opn_rdn
theorem opn_attrS : Opens Try.prog 68 (slE attrE) := opens_sl Try.underlying68 Try.cellAttr (by decide) opn_attr
theorem Try.cellEntry : Try.prog.cellsOf 70 = entryE.n := by kernel_rfl
set_option maxRecDepth 100000 in
theorem opn_entry : Opens Try.prog 70 entryE := opens_struct Try.underlying70 Try.cellEntry (ff_cons _ (by rfl) (by rfl) (by kernel_rfl) opn_rdnS (ff_last _ (by rfl) (by rfl) (by kernel_rfl) (by rfl) opn_attrS))
theorem Try.cellChange : Try.prog.cellsOf 72 = changeE.n := by kernel_rfl
set_option maxRecDepth 100000 in
theorem opn_change : Opens Try.prog 72 changeE := opens_struct Try.underlying72 Try.cellChange (ff_cons _ (by rfl) (by rfl) (by kernel_rfl) opn_int (ff_cons _ (by rfl) (by rfl) (by kernel_rfl) opn_int (ff_cons _ (by rfl) (by rfl) (by kernel_rfl) opn_str (ff_last _ (by rfl) (by rfl) (by kernel_rfl) (by rfl) opn_entry))))
theorem opn_changeS : Opens Try.prog 22 (slE changeE) := opens_sl Try.underlying22 Try.cellChange (by decide) opn_change
set_option maxRecDepth 100000 in
theorem opv_rdn {H : Type} {enc : TypeId × Value → H} {w : World} {base : Nat} {spare : Nat → Bool} {held : Bool} {r : Reach} {b0 : Nat} {v : Value} {d : DataW H} {p : List MemPlace} (hv : Value.okWide Try.prog w r b0 150 v) (h : DataW.Trod enc Try.prog w base spare held 150 v d p) :
    ∃ (a0 : ByteArray) (a1 : ByteArray) , v = .agg #[.string a0, .string a1] ∧ (True) ∧ rdnE.long (a0, a1) := by
  obtain ⟨cs, a, rfl, h1, h2⟩ := opv_struct Try.underlying150 opn_rdn hv h
  obtain ⟨a0, a1, rfl, e1, hq⟩ := rdn_atq h1
  refine ⟨a0, a1, agg_eq e1, ?_, h2⟩
  exact hq
set_option maxRecDepth 100000 in
theorem opv_attr {H : Type} {enc : TypeId × Value → H} {w : World} {base : Nat} {spare : Nat → Bool} {held : Bool} {r : Reach} {b0 : Nat} {v : Value} {d : DataW H} {p : List MemPlace} (hv : Value.okWide Try.prog w r b0 152 v) (h : DataW.Trod enc Try.prog w base spare held 152 v d p) :
    ∃ (a0 : ByteArray) (a1 : (List ByteArray)) (v1 : Value), v = .agg #[.string a0, v1] ∧ (SlAt strE (All w) w a1 v1) ∧ attrE.long (a0, a1) := by
  obtain ⟨cs, a, rfl, h1, h2⟩ := opv_struct Try.underlying152 opn_attr hv h
  obtain ⟨a0, a1, v1, rfl, e1, hq⟩ := attr_atq h1
  refine ⟨a0, a1, v1, agg_eq e1, ?_, h2⟩
  exact hq.1
set_option maxRecDepth 100000 in
theorem opv_entry {H : Type} {enc : TypeId × Value → H} {w : World} {base : Nat} {spare : Nat → Bool} {held : Bool} {r : Reach} {b0 : Nat} {v : Value} {d : DataW H} {p : List MemPlace} (hv : Value.okWide Try.prog w r b0 70 v) (h : DataW.Trod enc Try.prog w base spare held 70 v d p) :
    ∃ (a0 : (List RdnT)) (a1 : (List AttrT)) (v0 v1 : Value), v = .agg #[v0, v1] ∧ (SlAt rdnE (All w) w a0 v0 ∧ SlAt attrE (All w) w a1 v1) ∧ entryE.long (a0, a1) := by
  obtain ⟨cs, a, rfl, h1, h2⟩ := opv_struct Try.underlying70 opn_entry hv h
  obtain ⟨a0, a1, v0, v1, rfl, e1, hq⟩ := entry_atq h1
  refine ⟨a0, a1, v0, v1, agg_eq e1, ?_, h2⟩
  exact ⟨hq.1, hq.2.1⟩
set_option maxRecDepth 100000 in
theorem opv_change {H : Type} {enc : TypeId × Value → H} {w : World} {base : Nat} {spare : Nat → Bool} {held : Bool} {r : Reach} {b0 : Nat} {v : Value} {d : DataW H} {p : List MemPlace} (hv : Value.okWide Try.prog w r b0 72 v) (h : DataW.Trod enc Try.prog w base spare held 72 v d p) :
    ∃ (a0 : Int) (a1 : Int) (a2 : ByteArray) (a3 : (List RdnT)) (a4 : (List AttrT)) (v3 v4 : Value), v = .agg #[.int .i64 a0, .int .i64 a1, .string a2, v3, v4] ∧ (SlAt rdnE (All w) w a3 v3 ∧ SlAt attrE (All w) w a4 v4) ∧ changeE.long (a0, a1, a2, (a3, a4)) := by
  obtain ⟨cs, a, rfl, h1, h2⟩ := opv_struct Try.underlying72 opn_change hv h
  obtain ⟨a0, a1, a2, a3, a4, v3, v4, rfl, e1, hq⟩ := change_atq h1
  refine ⟨a0, a1, a2, a3, a4, v3, v4, agg_eq e1, ?_, h2⟩
  exact ⟨hq.1, hq.2.1⟩
end Go.Proofs.Ytmanlnlhpgdbpaa
