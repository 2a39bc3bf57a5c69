/- Merged texts: eqString, eqAttr, eqEntry, eqChange, eqChanges, eqChangesOut, markRdn, markString, markAttr, markEntry, markChange, markChangesV, markChangesOutV, heldRdn, heldString, heldAttr, heldEntry. -/
import Derived.Test.YtmanlnlhpgdbpaaGreatM2
import Derived.Test.YtmanlnlhpgdbpaaGreatM3
import Derived.SliceStrings
import Derived.Test.YtmanlnlhpgdbpaaGreatM11
import Derived.Test.YtmanlnlhpgdbpaaGreatM6
/- The helpers of the laws: comparisons. -/
namespace Go.Proofs.YtmanlnlhpgdbpaaGreat
open Go.RowKit
attribute [local go_sem ↓] Go.wp_at_zero Go.wp_at_succ

set_option maxRecDepth 100000 in
set_option maxHeartbeats 4000000 in
theorem eqStringS_at {S S' : Bs} (v u : Value) (d : List ByteArray) (w : World) (hd : SlAt strE S w d v) (hu : SlAt strE S' w d u) (hz : d.length + szL strE d ≤ 1048576) :
    Calls Tryz.prog 100 #[v, u] w fun e w' => e = .returned (.bool true) ∧ Below w.heap.size w w' := by
  obtain ⟨ao, ca, rfl⟩ := hd.sl
  obtain ⟨bo, cb, rfl⟩ := hu.sl
  have HA := Lib.hid hd; have HB := Lib.hid hu; clear hd hu
  have HL := Lib.hid hz
  have hl : d.length ≤ 1048576 := by omega
  clear hz
  go_enter Tryz.func100, Tryz.ntmps100
  go_wp2
  go_loopw [5] (fun i wr => ∃ k : Nat, k ≤ d.length ∧ i = .int .i64 k ∧ Below w.heap.size w wr) (fun i _ => d.length - (intOf i).toNat)
  case atStart => exact ⟨0, Nat.zero_le _, rfl, Below.refl _ _⟩
  case round =>
    obtain ⟨k, hk, rfl, hbel⟩ := hrel
    have hsz := hbel.size
    by_cases hlt : k < d.length
    · obtain ⟨p, off, A, rfl, _, hp0, hx, c1⟩ := str_row (HA.out.frame (Same.of_below' hbel)) hlt
      obtain ⟨q, off', A', rfl, _, hq0, hx', c2⟩ := str_row (HB.out.frame (Same.of_below' hbel)) hlt
      obtain rfl : A = A' := hx.symm.trans hx'
      clear hx hx'
      have hkk : (A.toList == A.toList) = true := by simp
      have g1 : (0 : Int) ≤ (k : Int) := by omega
      have g2 : (k : Int) < (d.length : Int) := by omega
      have hbd := hbel.drew
      have c1' : wr.drew.cell? ⟨p, off + k, none⟩ = some (.string A) := c1
      have c2' : wr.drew.cell? ⟨q, off' + k, none⟩ = some (.string A) := c2
      go_wp2_with fail
      go_region_held3 (fun W => Below w.heap.size w W ∧ W.cell? ⟨p, off + k, none⟩ = some (.string A) ∧ W.cell? ⟨q, off' + k, none⟩ = some (.string A))
        (first | exact ⟨hbel, c1, c2⟩ | exact ⟨hbd, c1', c2'⟩)
        (fail "none")
      all_goals
        go_wp2
        go_roundw
        case rel => exact ⟨k + 1, by omega, by go_num, by first | exact hbel | exact hbd⟩
        case measure => simp [intOf]; omega
    · go_wp2
      go_ret
      exact ⟨rfl, hbel⟩
end Go.Proofs.YtmanlnlhpgdbpaaGreat
/- The helpers of the laws: comparisons. -/
namespace Go.Proofs.YtmanlnlhpgdbpaaGreat
open Go.RowKit
attribute [local go_sem ↓] Go.wp_at_zero Go.wp_at_succ

set_option maxRecDepth 100000 in
set_option maxHeartbeats 4000000 in
theorem eqAttr_at {S S' : Bs} (w0 : World) (a0 : ByteArray) (a1 : (List ByteArray)) (v1 : Value) (u1 : Value) (w : World) (hB : Below w0.heap.size w0 w) (h1 : SlAt strE S w0 a1 v1) (g1 : SlAt strE S' w0 a1 u1) (hz : attrE.sz (a0, a1) ≤ 1048576) :
    Calls Tryz.prog 79 #[.agg #[.string a0, v1], .agg #[.string a0, u1]] w fun e w' => e = .returned (.bool true) ∧ Below w0.heap.size w0 w' := by
  have HE : attrE.sz (a0, a1) = a0.size + ((a1.length + szL strE a1)) := rfl
  rw [HE] at hz
  have hk0 : (a0.toList == a0.toList) = true := by simp
  have C1 : Hid (∀ W : World, Below w0.heap.size w0 W → Calls Tryz.prog 100 #[v1, u1] W fun e w' => e = .returned (.bool true) ∧ Below W.heap.size W w') := Lib.hid (fun W b => eqStringS_at v1 u1 a1 W (h1.frame (Same.of_below' b)) (g1.frame (Same.of_below' b)) (by omega))
  obtain ⟨o1, k1, rfl⟩ := h1.sl
  obtain ⟨p1, j1, rfl⟩ := g1.sl
  clear hz HE h1 g1
  have HB := Lib.hid hB
  clear hB
  go_enter Tryz.func79, Tryz.ntmps79
  go_wp2_with fail
  refine calls_by (fun W => Below w0.heap.size w0 W ∧ Blk W w.heap.size [.string a0, .slice o1 a1.length k1] ∧ Blk W (w.heap.size + 1) [.string a0, .slice p1 a1.length j1]) ⟨more' (more' HB.out _) _, (Blk.new _ _ _).alloc _, blk_at _ _ _ (by simp)⟩ ?_
  rintro W1 ⟨b1, x1, y1⟩
  have X1 := Lib.hid x1; have Y1 := Lib.hid y1; clear x1 y1
  refine (C1.out W1 b1).mono ?_
  rintro e W2 ⟨rfl, hb⟩
  have X2 := Lib.hid (X1.out.below hb); have Y2 := Lib.hid (Y1.out.below hb); have b2 := b1.trans (hb.mono b1.size)
  clear X1 Y1 hb b1 C1
  have m0 := X2.out.cell 0 rfl
  have n0 := Y2.out.cell 0 rfl
  have m1 := X2.out.cell 1 rfl
  have n1 := Y2.out.cell 1 rfl
  go_wp2
  go_ret
  exact ⟨rfl, b2⟩
set_option maxRecDepth 100000 in
set_option maxHeartbeats 4000000 in
theorem eqAttrS_at {S S' : Bs} (v u : Value) (d : List AttrT) (w : World) (hd : SlAt attrE S w d v) (hu : SlAt attrE S' w d u) (hz : d.length + szL attrE d ≤ 1048576) :
    Calls Tryz.prog 50 #[v, u] w fun e w' => e = .returned (.bool true) ∧ Below w.heap.size w w' := by
  obtain ⟨ao, ca, rfl⟩ := hd.sl
  obtain ⟨bo, cb, rfl⟩ := hu.sl
  have HA := Lib.hid hd; have HB := Lib.hid hu; clear hd hu
  have HL := Lib.hid hz
  have hl : d.length ≤ 1048576 := by omega
  clear hz
  go_enter Tryz.func50, Tryz.ntmps50
  go_wp2
  go_loopw [5] (fun i wr => ∃ k : Nat, k ≤ d.length ∧ i = .int .i64 k ∧ Below w.heap.size w wr) (fun i _ => d.length - (intOf i).toNat)
  case atStart => exact ⟨0, Nat.zero_le _, rfl, Below.refl _ _⟩
  case round =>
    obtain ⟨k, hk, rfl, hbel⟩ := hrel
    have hsz := hbel.size
    by_cases hlt : k < d.length
    · obtain ⟨p, off, a0, a1, v1, rfl, _, hp0, hx, hc, s1, _⟩ := attr_row (HA.out.frame (Same.of_below' hbel)) hlt
      obtain ⟨q, off', x0, x1, u1, rfl, _, hq0, hx', hd, t1, _⟩ := attr_row (HB.out.frame (Same.of_below' hbel)) hlt
      have hxx := hx.symm.trans hx'
      simp only [Prod.mk.injEq] at hxx
      obtain ⟨rfl, rfl⟩ := hxx
      have HZ : Hid (attrE.sz (a0, a1) ≤ 1048576) := Lib.hid (by have h1 := szL_mem attrE (List.getElem_mem hlt); rw [hx] at h1; have := HL.out; omega)
      clear hx hx'
      have C : Hid (∀ W : World, Below wr.heap.size wr W → Calls Tryz.prog 79 #[.agg #[.string a0, v1], .agg #[.string a0, u1]] W fun e w' => e = .returned (.bool true) ∧ Below wr.heap.size wr w') := Lib.hid (fun W b => eqAttr_at wr a0 a1 v1 u1 W b s1 t1 HZ.out)
      clear s1 t1 HZ
      have SK : Hid (∀ W : World, Below wr.heap.size wr W → (Below wr.heap.size wr W ∧ (W.cell? ⟨p, off + k * 2, none⟩ = some (.string a0) ∧ W.cell? ⟨p, off + k * 2 + 1, none⟩ = some (v1)) ∧ (W.cell? ⟨q, off' + k * 2, none⟩ = some (.string a0) ∧ W.cell? ⟨q, off' + k * 2 + 1, none⟩ = some (u1)))) :=
        Lib.hid (fun W h => ⟨h, ⟨(h.cell (p := ⟨p, _, none⟩) hp0).trans hc.1, (h.cell (p := ⟨p, _, none⟩) hp0).trans hc.2⟩, ⟨(h.cell (p := ⟨q, _, none⟩) hq0).trans hd.1, (h.cell (p := ⟨q, _, none⟩) hq0).trans hd.2⟩⟩)
      have hbd : Below wr.heap.size wr wr.drew := (Below.refl _ _).drew
      have hb0 : Below wr.heap.size wr wr := Below.refl _ _
      have HBl := Lib.hid hbel
      clear hc hd hbel
      have g1 : (0 : Int) ≤ (k : Int) := by omega
      have g2 : (k : Int) < (d.length : Int) := by omega
      go_wp2_with fail
      go_region_held3 (fun W => Below wr.heap.size wr W ∧ (W.cell? ⟨p, off + k * 2, none⟩ = some (.string a0) ∧ W.cell? ⟨p, off + k * 2 + 1, none⟩ = some (v1)) ∧ (W.cell? ⟨q, off' + k * 2, none⟩ = some (.string a0) ∧ W.cell? ⟨q, off' + k * 2 + 1, none⟩ = some (u1)))
        (exact SK.out _ (by assumption))
        (first | (go_at_call 79; refine (C.out _ (by assumption)).mono ?_; rintro e w2 ⟨rfl, hb2⟩) | (fail "none"))
      all_goals
        go_wp2
        go_roundw
        case rel => exact ⟨k + 1, by omega, by go_num, HBl.out.trans (hb2.mono HBl.out.size)⟩
        case measure => simp [intOf]; omega
    · go_wp2
      go_ret
      exact ⟨rfl, hbel⟩
end Go.Proofs.YtmanlnlhpgdbpaaGreat
/- The helpers of the laws: comparisons. -/
namespace Go.Proofs.YtmanlnlhpgdbpaaGreat
open Go.RowKit
attribute [local go_sem ↓] Go.wp_at_zero Go.wp_at_succ

set_option maxRecDepth 100000 in
set_option maxHeartbeats 4000000 in
theorem eqEntry_at {S S' : Bs} (w0 : World) (a0 : (List RdnT)) (a1 : (List AttrT)) (v0 v1 : Value) (u0 u1 : Value) (w : World) (hB : Below w0.heap.size w0 w) (h0 : SlAt rdnE S w0 a0 v0) (h1 : SlAt attrE S w0 a1 v1) (g0 : SlAt rdnE S' w0 a0 u0) (g1 : SlAt attrE S' w0 a1 u1) (hz : entryE.sz (a0, a1) ≤ 1048576) :
    Calls Tryz.prog 20 #[.agg #[v0, v1], .agg #[u0, u1]] w fun e w' => e = .returned (.bool true) ∧ Below w0.heap.size w0 w' := by
  have HE : entryE.sz (a0, a1) = (a0.length + szL rdnE a0) + ((a1.length + szL attrE a1)) := rfl
  rw [HE] at hz
  have C0 : Hid (∀ W : World, Below w0.heap.size w0 W → Calls Tryz.prog 19 #[v0, u0] W fun e w' => e = .returned (.bool true) ∧ Below W.heap.size W w') := Lib.hid (fun W b => eqRdnS_at v0 u0 a0 W (h0.frame (Same.of_below' b)) (g0.frame (Same.of_below' b)) (by omega))
  have C1 : Hid (∀ W : World, Below w0.heap.size w0 W → Calls Tryz.prog 50 #[v1, u1] W fun e w' => e = .returned (.bool true) ∧ Below W.heap.size W w') := Lib.hid (fun W b => eqAttrS_at v1 u1 a1 W (h1.frame (Same.of_below' b)) (g1.frame (Same.of_below' b)) (by omega))
  obtain ⟨o0, k0, rfl⟩ := h0.sl
  obtain ⟨p0, j0, rfl⟩ := g0.sl
  obtain ⟨o1, k1, rfl⟩ := h1.sl
  obtain ⟨p1, j1, rfl⟩ := g1.sl
  clear hz HE h0 g0 h1 g1
  have HB := Lib.hid hB
  clear hB
  go_enter Tryz.func20, Tryz.ntmps20
  go_wp2_with fail
  refine calls_by (fun W => Below w0.heap.size w0 W ∧ Blk W w.heap.size [.slice o0 a0.length k0, .slice o1 a1.length k1] ∧ Blk W (w.heap.size + 1) [.slice p0 a0.length j0, .slice p1 a1.length j1]) ⟨more' (more' HB.out _) _, (Blk.new _ _ _).alloc _, blk_at _ _ _ (by simp)⟩ ?_
  rintro W1 ⟨b1, x1, y1⟩
  have X1 := Lib.hid x1; have Y1 := Lib.hid y1; clear x1 y1
  refine (C0.out W1 b1).mono ?_
  rintro e W2 ⟨rfl, hb⟩
  have X2 := Lib.hid (X1.out.below hb); have Y2 := Lib.hid (Y1.out.below hb); have b2 := b1.trans (hb.mono b1.size)
  clear X1 Y1 hb b1 C0
  have m0 := X2.out.cell 0 rfl
  have n0 := Y2.out.cell 0 rfl
  have m1 := X2.out.cell 1 rfl
  have n1 := Y2.out.cell 1 rfl
  go_wp2_with fail
  refine (C1.out W2 b2).mono ?_
  rintro e W3 ⟨rfl, hb⟩
  have X3 := Lib.hid (X2.out.below hb); have Y3 := Lib.hid (Y2.out.below hb); have b3 := b2.trans (hb.mono b2.size)
  clear X2 Y2 hb b2 C1 m0 n0 m1 n1
  have m0 := X3.out.cell 0 rfl
  have n0 := Y3.out.cell 0 rfl
  have m1 := X3.out.cell 1 rfl
  have n1 := Y3.out.cell 1 rfl
  go_wp2
  go_ret
  exact ⟨rfl, b3⟩
end Go.Proofs.YtmanlnlhpgdbpaaGreat
/- The helpers of the laws: comparisons. -/
namespace Go.Proofs.YtmanlnlhpgdbpaaGreat
open Go.RowKit
attribute [local go_sem ↓] Go.wp_at_zero Go.wp_at_succ

set_option maxRecDepth 100000 in
set_option maxHeartbeats 4000000 in
theorem eqChange_at {S S' : Bs} (w0 : World) (a0 : Int) (a1 : Int) (a2 : ByteArray) (a3 : (List RdnT)) (a4 : (List AttrT)) (v3 v4 : Value) (u3 u4 : Value) (w : World) (hB : Below w0.heap.size w0 w) (h3 : SlAt rdnE S w0 a3 v3) (h4 : SlAt attrE S w0 a4 v4) (g3 : SlAt rdnE S' w0 a3 u3) (g4 : SlAt attrE S' w0 a4 u4) (hz : changeE.sz (a0, a1, a2, (a3, a4)) ≤ 1048576) :
    Calls Tryz.prog 69 #[.agg #[.int .i64 a0, .int .i64 a1, .string a2, v3, v4], .agg #[.int .i64 a0, .int .i64 a1, .string a2, u3, u4]] w fun e w' => e = .returned (.bool true) ∧ Below w0.heap.size w0 w' := by
  have HE : changeE.sz (a0, a1, a2, (a3, a4)) = 0 + (0 + (a2.size + (entryE.sz (a3, a4)))) := rfl
  rw [HE] at hz
  have hk0 : (a0 == a0) = true := by simp
  have hj0 : (a0 != a0) = false := by simp
  have hk1 : (a1 == a1) = true := by simp
  have hj1 : (a1 != a1) = false := by simp
  have hk2 : (a2.toList == a2.toList) = true := by simp
  have C3 : Hid (∀ W : World, Below w0.heap.size w0 W → Calls Tryz.prog 20 #[.agg #[v3, v4], .agg #[u3, u4]] W fun e w' => e = .returned (.bool true) ∧ Below W.heap.size W w') := Lib.hid (fun W b => eqEntry_at W a3 a4 v3 v4 u3 u4 W (Below.refl _ _) (h3.frame (Same.of_below' b)) (h4.frame (Same.of_below' b)) (g3.frame (Same.of_below' b)) (g4.frame (Same.of_below' b)) (by omega))
  obtain ⟨o3, k3, rfl⟩ := h3.sl
  obtain ⟨p3, j3, rfl⟩ := g3.sl
  obtain ⟨o4, k4, rfl⟩ := h4.sl
  obtain ⟨p4, j4, rfl⟩ := g4.sl
  clear hz HE h3 g3 h4 g4
  have HB := Lib.hid hB
  clear hB
  go_enter Tryz.func69, Tryz.ntmps69
  go_wp2_with fail
  refine calls_by (fun W => Below w0.heap.size w0 W ∧ Blk W w.heap.size [.int .i64 a0, .int .i64 a1, .string a2, .slice o3 a3.length k3, .slice o4 a4.length k4] ∧ Blk W (w.heap.size + 1) [.int .i64 a0, .int .i64 a1, .string a2, .slice p3 a3.length j3, .slice p4 a4.length j4]) ⟨more' (more' HB.out _) _, (Blk.new _ _ _).alloc _, blk_at _ _ _ (by simp)⟩ ?_
  rintro W1 ⟨b1, x1, y1⟩
  have X1 := Lib.hid x1; have Y1 := Lib.hid y1; clear x1 y1
  refine (C3.out W1 b1).mono ?_
  rintro e W2 ⟨rfl, hb⟩
  have X2 := Lib.hid (X1.out.below hb); have Y2 := Lib.hid (Y1.out.below hb); have b2 := b1.trans (hb.mono b1.size)
  clear X1 Y1 hb b1 C3
  have m0 := X2.out.cell 0 rfl
  have n0 := Y2.out.cell 0 rfl
  have m1 := X2.out.cell 1 rfl
  have n1 := Y2.out.cell 1 rfl
  have m2 := X2.out.cell 2 rfl
  have n2 := Y2.out.cell 2 rfl
  have m3 := X2.out.cell 3 rfl
  have n3 := Y2.out.cell 3 rfl
  have m4 := X2.out.cell 4 rfl
  have n4 := Y2.out.cell 4 rfl
  go_wp2
  go_ret
  exact ⟨rfl, b2⟩
set_option maxRecDepth 100000 in
set_option maxHeartbeats 4000000 in
theorem eqChangeS_at {S S' : Bs} (v u : Value) (d : List ChangeT) (w : World) (hd : SlAt changeE S w d v) (hu : SlAt changeE S' w d u) (hz : d.length + szL changeE d ≤ 1048576) :
    Calls Tryz.prog 38 #[v, u] w fun e w' => e = .returned (.bool true) ∧ Below w.heap.size w w' := by
  obtain ⟨ao, ca, rfl⟩ := hd.sl
  obtain ⟨bo, cb, rfl⟩ := hu.sl
  have HA := Lib.hid hd; have HB := Lib.hid hu; clear hd hu
  have HL := Lib.hid hz
  have hl : d.length ≤ 1048576 := by omega
  clear hz
  go_enter Tryz.func38, Tryz.ntmps38
  go_wp2
  go_loopw [5] (fun i wr => ∃ k : Nat, k ≤ d.length ∧ i = .int .i64 k ∧ Below w.heap.size w wr) (fun i _ => d.length - (intOf i).toNat)
  case atStart => exact ⟨0, Nat.zero_le _, rfl, Below.refl _ _⟩
  case round =>
    obtain ⟨k, hk, rfl, hbel⟩ := hrel
    have hsz := hbel.size
    by_cases hlt : k < d.length
    · obtain ⟨p, off, a0, a1, a2, a3, a4, v3, v4, rfl, _, hp0, hx, hc, s3, s4, _⟩ := change_row (HA.out.frame (Same.of_below' hbel)) hlt
      obtain ⟨q, off', x0, x1, x2, x3, x4, u3, u4, rfl, _, hq0, hx', hd, t3, t4, _⟩ := change_row (HB.out.frame (Same.of_below' hbel)) hlt
      have hxx := hx.symm.trans hx'
      simp only [Prod.mk.injEq] at hxx
      obtain ⟨rfl, rfl, rfl, ⟨rfl, rfl⟩⟩ := hxx
      have HZ : Hid (changeE.sz (a0, a1, a2, (a3, a4)) ≤ 1048576) := Lib.hid (by have h1 := szL_mem changeE (List.getElem_mem hlt); rw [hx] at h1; have := HL.out; omega)
      clear hx hx'
      have C : Hid (∀ W : World, Below wr.heap.size wr W → Calls Tryz.prog 69 #[.agg #[.int .i64 a0, .int .i64 a1, .string a2, v3, v4], .agg #[.int .i64 a0, .int .i64 a1, .string a2, u3, u4]] W fun e w' => e = .returned (.bool true) ∧ Below wr.heap.size wr w') := Lib.hid (fun W b => eqChange_at wr a0 a1 a2 a3 a4 v3 v4 u3 u4 W b s3 s4 t3 t4 HZ.out)
      clear s3 t3 s4 t4 HZ
      have SK : Hid (∀ W : World, Below wr.heap.size wr W → (Below wr.heap.size wr W ∧ (W.cell? ⟨p, off + k * 5, none⟩ = some (.int .i64 a0) ∧ W.cell? ⟨p, off + k * 5 + 1, none⟩ = some (.int .i64 a1) ∧ W.cell? ⟨p, off + k * 5 + 2, none⟩ = some (.string a2) ∧ W.cell? ⟨p, off + k * 5 + 3, none⟩ = some (v3) ∧ W.cell? ⟨p, off + k * 5 + 4, none⟩ = some (v4)) ∧ (W.cell? ⟨q, off' + k * 5, none⟩ = some (.int .i64 a0) ∧ W.cell? ⟨q, off' + k * 5 + 1, none⟩ = some (.int .i64 a1) ∧ W.cell? ⟨q, off' + k * 5 + 2, none⟩ = some (.string a2) ∧ W.cell? ⟨q, off' + k * 5 + 3, none⟩ = some (u3) ∧ W.cell? ⟨q, off' + k * 5 + 4, none⟩ = some (u4)))) :=
        Lib.hid (fun W h => ⟨h, ⟨(h.cell (p := ⟨p, _, none⟩) hp0).trans hc.1, (h.cell (p := ⟨p, _, none⟩) hp0).trans hc.2.1, (h.cell (p := ⟨p, _, none⟩) hp0).trans hc.2.2.1, (h.cell (p := ⟨p, _, none⟩) hp0).trans hc.2.2.2.1, (h.cell (p := ⟨p, _, none⟩) hp0).trans hc.2.2.2.2⟩, ⟨(h.cell (p := ⟨q, _, none⟩) hq0).trans hd.1, (h.cell (p := ⟨q, _, none⟩) hq0).trans hd.2.1, (h.cell (p := ⟨q, _, none⟩) hq0).trans hd.2.2.1, (h.cell (p := ⟨q, _, none⟩) hq0).trans hd.2.2.2.1, (h.cell (p := ⟨q, _, none⟩) hq0).trans hd.2.2.2.2⟩⟩)
      have hbd : Below wr.heap.size wr wr.drew := (Below.refl _ _).drew
      have hb0 : Below wr.heap.size wr wr := Below.refl _ _
      have HBl := Lib.hid hbel
      clear hc hd hbel
      have g1 : (0 : Int) ≤ (k : Int) := by omega
      have g2 : (k : Int) < (d.length : Int) := by omega
      go_wp2_with fail
      go_region_held3 (fun W => Below wr.heap.size wr W ∧ (W.cell? ⟨p, off + k * 5, none⟩ = some (.int .i64 a0) ∧ W.cell? ⟨p, off + k * 5 + 1, none⟩ = some (.int .i64 a1) ∧ W.cell? ⟨p, off + k * 5 + 2, none⟩ = some (.string a2) ∧ W.cell? ⟨p, off + k * 5 + 3, none⟩ = some (v3) ∧ W.cell? ⟨p, off + k * 5 + 4, none⟩ = some (v4)) ∧ (W.cell? ⟨q, off' + k * 5, none⟩ = some (.int .i64 a0) ∧ W.cell? ⟨q, off' + k * 5 + 1, none⟩ = some (.int .i64 a1) ∧ W.cell? ⟨q, off' + k * 5 + 2, none⟩ = some (.string a2) ∧ W.cell? ⟨q, off' + k * 5 + 3, none⟩ = some (u3) ∧ W.cell? ⟨q, off' + k * 5 + 4, none⟩ = some (u4)))
        (exact SK.out _ (by assumption))
        (first | (go_at_call 69; refine (C.out _ (by assumption)).mono ?_; rintro e w2 ⟨rfl, hb2⟩) | (fail "none"))
      all_goals
        go_wp2
        go_roundw
        case rel => exact ⟨k + 1, by omega, by go_num, HBl.out.trans (hb2.mono HBl.out.size)⟩
        case measure => simp [intOf]; omega
    · go_wp2
      go_ret
      exact ⟨rfl, hbel⟩
end Go.Proofs.YtmanlnlhpgdbpaaGreat
/- The helpers of the laws: comparisons. -/
namespace Go.Proofs.YtmanlnlhpgdbpaaGreat
open Go.RowKit
attribute [local go_sem ↓] Go.wp_at_zero Go.wp_at_succ

set_option maxRecDepth 100000 in
set_option maxHeartbeats 4000000 in
theorem eqChanges_at {S S' : Bs} (w0 : World) (a0 : Int) (a1 : (List ChangeT)) (v1 : Value) (u1 : Value) (w : World) (hB : Below w0.heap.size w0 w) (h1 : SlAt changeE S w0 a1 v1) (g1 : SlAt changeE S' w0 a1 u1) (hz : changesE.sz (a0, a1) ≤ 1048576) :
    Calls Tryz.prog 11 #[.agg #[.int .i64 a0, v1], .agg #[.int .i64 a0, u1]] w fun e w' => e = .returned (.bool true) ∧ Below w0.heap.size w0 w' := by
  have HE : changesE.sz (a0, a1) = 0 + ((a1.length + szL changeE a1)) := rfl
  rw [HE] at hz
  have hk0 : (a0 == a0) = true := by simp
  have hj0 : (a0 != a0) = false := by simp
  have C1 : Hid (∀ W : World, Below w0.heap.size w0 W → Calls Tryz.prog 38 #[v1, u1] W fun e w' => e = .returned (.bool true) ∧ Below W.heap.size W w') := Lib.hid (fun W b => eqChangeS_at v1 u1 a1 W (h1.frame (Same.of_below' b)) (g1.frame (Same.of_below' b)) (by omega))
  obtain ⟨o1, k1, rfl⟩ := h1.sl
  obtain ⟨p1, j1, rfl⟩ := g1.sl
  clear hz HE h1 g1
  have HB := Lib.hid hB
  clear hB
  go_enter Tryz.func11, Tryz.ntmps11
  go_wp2_with fail
  refine calls_by (fun W => Below w0.heap.size w0 W ∧ Blk W w.heap.size [.int .i64 a0, .slice o1 a1.length k1] ∧ Blk W (w.heap.size + 1) [.int .i64 a0, .slice p1 a1.length j1]) ⟨more' (more' HB.out _) _, (Blk.new _ _ _).alloc _, blk_at _ _ _ (by simp)⟩ ?_
  rintro W1 ⟨b1, x1, y1⟩
  have X1 := Lib.hid x1; have Y1 := Lib.hid y1; clear x1 y1
  refine (C1.out W1 b1).mono ?_
  rintro e W2 ⟨rfl, hb⟩
  have X2 := Lib.hid (X1.out.below hb); have Y2 := Lib.hid (Y1.out.below hb); have b2 := b1.trans (hb.mono b1.size)
  clear X1 Y1 hb b1 C1
  have m0 := X2.out.cell 0 rfl
  have n0 := Y2.out.cell 0 rfl
  have m1 := X2.out.cell 1 rfl
  have n1 := Y2.out.cell 1 rfl
  go_wp2
  go_ret
  exact ⟨rfl, b2⟩
end Go.Proofs.YtmanlnlhpgdbpaaGreat
/- The helpers of the laws: comparisons. -/
namespace Go.Proofs.YtmanlnlhpgdbpaaGreat
open Go.RowKit
attribute [local go_sem ↓] Go.wp_at_zero Go.wp_at_succ

set_option maxRecDepth 100000 in
set_option maxHeartbeats 4000000 in
theorem eqChangesOut_at {S S' : Bs} (w0 : World) (a0 : Int) (a1 : (List ChangeT)) (a2 : (List ChangeT)) (a3 : Int) (v1 v2 : Value) (u1 u2 : Value) (w : World) (hB : Below w0.heap.size w0 w) (h1 : SlAt changeE S w0 a1 v1) (h2 : SlAt changeE S w0 a2 v2) (g1 : SlAt changeE S' w0 a1 u1) (g2 : SlAt changeE S' w0 a2 u2) (hz : changesOutE.sz ((a0, a1), a2, a3) ≤ 1048576) :
    Calls Tryz.prog 18 #[.agg #[.int .i64 a0, v1, v2, .int .i64 a3], .agg #[.int .i64 a0, u1, u2, .int .i64 a3]] w fun e w' => e = .returned (.bool true) ∧ Below w0.heap.size w0 w' := by
  have HE : changesOutE.sz ((a0, a1), a2, a3) = changesE.sz (a0, a1) + ((a2.length + szL changeE a2) + (0)) := rfl
  rw [HE] at hz
  have C0 : Hid (∀ W : World, Below w0.heap.size w0 W → Calls Tryz.prog 11 #[.agg #[.int .i64 a0, v1], .agg #[.int .i64 a0, u1]] W fun e w' => e = .returned (.bool true) ∧ Below W.heap.size W w') := Lib.hid (fun W b => eqChanges_at W a0 a1 v1 u1 W (Below.refl _ _) (h1.frame (Same.of_below' b)) (g1.frame (Same.of_below' b)) (by omega))
  have C2 : Hid (∀ W : World, Below w0.heap.size w0 W → Calls Tryz.prog 38 #[v2, u2] W fun e w' => e = .returned (.bool true) ∧ Below W.heap.size W w') := Lib.hid (fun W b => eqChangeS_at v2 u2 a2 W (h2.frame (Same.of_below' b)) (g2.frame (Same.of_below' b)) (by omega))
  have hk3 : (a3 == a3) = true := by simp
  have hj3 : (a3 != a3) = false := by simp
  obtain ⟨o1, k1, rfl⟩ := h1.sl
  obtain ⟨p1, j1, rfl⟩ := g1.sl
  obtain ⟨o2, k2, rfl⟩ := h2.sl
  obtain ⟨p2, j2, rfl⟩ := g2.sl
  clear hz HE h1 g1 h2 g2
  have HB := Lib.hid hB
  clear hB
  go_enter Tryz.func18, Tryz.ntmps18
  go_wp2_with fail
  refine calls_by (fun W => Below w0.heap.size w0 W ∧ Blk W w.heap.size [.int .i64 a0, .slice o1 a1.length k1, .slice o2 a2.length k2, .int .i64 a3] ∧ Blk W (w.heap.size + 1) [.int .i64 a0, .slice p1 a1.length j1, .slice p2 a2.length j2, .int .i64 a3]) ⟨more' (more' HB.out _) _, (Blk.new _ _ _).alloc _, blk_at _ _ _ (by simp)⟩ ?_
  rintro W1 ⟨b1, x1, y1⟩
  have X1 := Lib.hid x1; have Y1 := Lib.hid y1; clear x1 y1
  refine (C0.out W1 b1).mono ?_
  rintro e W2 ⟨rfl, hb⟩
  have X2 := Lib.hid (X1.out.below hb); have Y2 := Lib.hid (Y1.out.below hb); have b2 := b1.trans (hb.mono b1.size)
  clear X1 Y1 hb b1 C0
  have m0 := X2.out.cell 0 rfl
  have n0 := Y2.out.cell 0 rfl
  have m1 := X2.out.cell 1 rfl
  have n1 := Y2.out.cell 1 rfl
  have m2 := X2.out.cell 2 rfl
  have n2 := Y2.out.cell 2 rfl
  have m3 := X2.out.cell 3 rfl
  have n3 := Y2.out.cell 3 rfl
  go_wp2_with fail
  refine (C2.out W2 b2).mono ?_
  rintro e W3 ⟨rfl, hb⟩
  have X3 := Lib.hid (X2.out.below hb); have Y3 := Lib.hid (Y2.out.below hb); have b3 := b2.trans (hb.mono b2.size)
  clear X2 Y2 hb b2 C2 m0 n0 m1 n1 m2 n2 m3 n3
  have m0 := X3.out.cell 0 rfl
  have n0 := Y3.out.cell 0 rfl
  have m1 := X3.out.cell 1 rfl
  have n1 := Y3.out.cell 1 rfl
  have m2 := X3.out.cell 2 rfl
  have n2 := Y3.out.cell 2 rfl
  have m3 := X3.out.cell 3 rfl
  have n3 := Y3.out.cell 3 rfl
  go_wp2
  go_ret
  exact ⟨rfl, b3⟩
end Go.Proofs.YtmanlnlhpgdbpaaGreat
/- The helpers of the laws: marks. -/
namespace Go.Proofs.YtmanlnlhpgdbpaaGreat
open Go.RowKit
attribute [local go_sem ↓] Go.wp_at_zero Go.wp_at_succ

set_option maxRecDepth 100000 in
set_option maxHeartbeats 4000000 in
theorem markRdnS_at {S : Bs} (v : Value) (d : List RdnT) (k : Nat) (w : World) (h : SlOwn rdnE S w d v) (hl : d.length ≤ 1048576) (hz : szL rdnE d ≤ 1048576) (hk1 : 0 < k) (hk2 : k + cntL rdnE d ≤ 1000000000) :
    Calls Tryz.prog 22 #[v, .int .i64 k] w fun e w' => e = .returned (.int .i64 ((k + cntL rdnE d : Nat) : Int)) ∧ SlOwn rdnE S w' (mkAll rdnE k d) v ∧ Turn S w w' := by
  obtain ⟨ao, cap, rfl⟩ := h.at.sl
  have HS := Lib.hid h; clear h
  have HTx : Hid (∀ (X : World) (m : Nat) (q : Int), q = (m : Int) → 0 < m → m ≤ 1000000000 → Calls Tryz.prog 52 #[.int .i64 q] X fun e w' => e = .returned (.string (mkT m)) ∧ Below X.heap.size X w') := Lib.hid (fun X m q e h1 h2 => by subst e; exact markText_any m X h1 h2)
  go_enter Tryz.func22, Tryz.ntmps22
  go_wp2
  go_loopw [1, 5] (fun t i wr => ∃ j : Nat, j ≤ d.length ∧ i = .int .i64 j ∧ t = .int .i64 ((k + cntL rdnE (d.take j) : Nat) : Int) ∧ SlOwn rdnE S wr (mkTo rdnE k d j) (.slice ao d.length cap) ∧ Turn S w wr) (fun _ i _ => d.length - (intOf i).toNat)
  case atStart => exact ⟨0, Nat.zero_le _, rfl, by simp [cntL], by rw [mkTo_zero]; exact HS.out, Turn.refl _ _⟩
  case round =>
    obtain ⟨j, hj, rfl, rfl, hO, hT⟩ := hrel
    have HO := Lib.hid hO; have HT := Lib.hid hT; clear hO hT
    have hcl := cntL_take_le rdnE d j
    by_cases hlt : j < d.length
    · obtain ⟨g, Sr, cs, rfl, hcap, hSg, hSr, hSub, hR, hrow, hown⟩ := mk_open HO.out hlt
      have HCs := Lib.hid (cntL_take rdnE d j hlt)
      have hcs : cntL rdnE (d.take j) + (rdnE).cnt d[j] ≤ cntL rdnE d := by have := cntL_take_le rdnE d (j + 1); rw [HCs.out] at this; exact this
      obtain ⟨a0, a1, hx, rfl, _⟩ := rdn_own hown
      rw [hx] at hcs
      have hct : (rdnE).cnt (a0, a1) = 1 + (1) := rfl
      rw [hct] at hcs
      have HX := Lib.hid hx
      clear hx hown
      have HR0 := Lib.hid hR; have HW0 := Lib.hid hrow; have HT0 := HT; clear hR hrow
      generalize hc : cntL rdnE (d.take j) = c at *
      have Hc := Lib.hid hc; clear hc
      have g1 : (0 : Int) ≤ (j : Int) := by omega
      have g2 : (j : Int) < (d.length : Int) := by omega
      go_wp2_with fail
      refine (HTx.out wr (k + c) _ (by omega) (by omega) (by omega)).mono ?_
      rintro e X1 ⟨rfl, hb⟩
      have HW1 := Lib.hid (HW0.out.same (hb.block _ HW0.out.lt)); have HR1 := Lib.hid (HR0.out.turn (by rw [mkTo_length _ _ _ hj]; exact hlt) (Turn.of_below hb)); have HT1 := Lib.hid (HT0.out.trans (Turn.of_below hb))
      clear hb HW0 HR0 HT0 
      have HW0 := HW1; have HR0 := HR1; have HT0 := HT1; clear HW1 HR1 HT1
      have c0 := HW0.out.cells 0 (by simp)
      have c0 : X1.cell? ⟨g, j * 2, none⟩ = some (.string a0) := c0
      have f0 : X1.frozen? ⟨g, j * 2, none⟩ = false := HW0.out.soft _
      have c1 := HW0.out.cells 1 (by simp)
      have c1 : X1.cell? ⟨g, j * 2 + 1, none⟩ = some (.string a1) := c1
      have f1 : X1.frozen? ⟨g, j * 2 + 1, none⟩ = false := HW0.out.soft _
      go_wp2_with fail
      refine calls_by (fun W => (∃ cs : List Value, RowAt W g (j * (rdnE).n) cs ∧ cs = [.string (mkT (k + c)), .string a1]) ∧ Rest rdnE S W (mkTo rdnE k d j) g j Sr ∧ Turn S w W) ⟨⟨_, (HW0.out.store (j := 0) (by simp) _), by simp only [List.set_cons_zero, List.set_cons_succ, List.cons.injEq, Value.int.injEq, Value.bool.injEq, true_and, and_true] <;> omega⟩, (HR0.out.store (u := 0) (by decide) _), (HT0.out.trans (Turn.store _ _ _ hSg))⟩ ?_
      try clear c0; try clear f0; try clear c1; try clear f1
      clear HR0 HW0 HT0 
      rintro X2 ⟨⟨cs, hw, rfl⟩, hr, ht⟩
      have HW0 := Lib.hid hw; have HR0 := Lib.hid hr; have HT0 := Lib.hid ht; clear hw hr ht
      refine (HTx.out X2 (k + c + 1) _ (by omega) (by omega) (by omega)).mono ?_
      rintro e X3 ⟨rfl, hb⟩
      have HW1 := Lib.hid (HW0.out.same (hb.block _ HW0.out.lt)); have HR1 := Lib.hid (HR0.out.turn (by rw [mkTo_length _ _ _ hj]; exact hlt) (Turn.of_below hb)); have HT1 := Lib.hid (HT0.out.trans (Turn.of_below hb))
      clear hb HW0 HR0 HT0 
      have HW0 := HW1; have HR0 := HR1; have HT0 := HT1; clear HW1 HR1 HT1
      have c0 := HW0.out.cells 0 (by simp)
      have c0 : X3.cell? ⟨g, j * 2, none⟩ = some (.string (mkT (k + c))) := c0
      have f0 : X3.frozen? ⟨g, j * 2, none⟩ = false := HW0.out.soft _
      have c1 := HW0.out.cells 1 (by simp)
      have c1 : X3.cell? ⟨g, j * 2 + 1, none⟩ = some (.string a1) := c1
      have f1 : X3.frozen? ⟨g, j * 2 + 1, none⟩ = false := HW0.out.soft _
      go_wp2
      go_roundw
      case rel =>
        refine ⟨j + 1, by omega, by go_num, ?_, mk_close (cs := [.string (mkT (k + c)), .string (mkT (k + c + 1))]) (HR0.out.store (u := 1) (by decide) _) hlt hcap (RowAt.cong (HW0.out.store (j := 1) (by simp) _) ?_) ?_, (HT0.out.trans (Turn.store _ _ _ hSg))⟩
        · rw [HCs.out, HX.out, hct]; first | (congr 1; done) | (congr 1; omega)
        · simp only [List.set_cons_zero, List.set_cons_succ, List.cons.injEq, Value.int.injEq, Value.bool.injEq, true_and, and_true]
          first | done | omega | (refine ⟨?_, ?_⟩ <;> first | omega | (rw [Bool.eq_iff_iff]; simp; omega)) | (rw [Bool.eq_iff_iff]; simp; omega)
        · rw [Hc.out, HX.out]
          exact rdn_pack (mkT (k + c)) (mkT (k + c + 1))   trivial
      case measure => simp [intOf]; omega
    · have e : j = d.length := by omega
      subst e
      have HOO : Hid (SlOwn rdnE S wr (mkAll rdnE k d) (.slice ao d.length cap)) := Lib.hid (by have := HO.out; rw [mkTo_all] at this; exact this)
      have hce : cntL rdnE (d.take d.length) = cntL rdnE d := by rw [List.take_length]
      rw [hce]
      go_wp2
      go_ret
      exact ⟨rfl, HOO.out, HT.out⟩
end Go.Proofs.YtmanlnlhpgdbpaaGreat
/- The helpers of the laws: marks. -/
namespace Go.Proofs.YtmanlnlhpgdbpaaGreat
open Go.RowKit
attribute [local go_sem ↓] Go.wp_at_zero Go.wp_at_succ

set_option maxRecDepth 100000 in
set_option maxHeartbeats 4000000 in
theorem markStringS_at {S : Bs} (v : Value) (d : List ByteArray) (k : Nat) (w : World) (h : SlOwn strE S w d v) (hl : d.length ≤ 1048576) (hz : szL strE d ≤ 1048576) (hk1 : 0 < k) (hk2 : k + cntL strE d ≤ 1000000000) :
    Calls Tryz.prog 80 #[v, .int .i64 k] w fun e w' => e = .returned (.int .i64 ((k + cntL strE d : Nat) : Int)) ∧ SlOwn strE S w' (mkAll strE k d) v ∧ Turn S w w' := by
  obtain ⟨ao, cap, rfl⟩ := h.at.sl
  have HS := Lib.hid h; clear h
  have HTx : Hid (∀ (X : World) (m : Nat) (q : Int), q = (m : Int) → 0 < m → m ≤ 1000000000 → Calls Tryz.prog 52 #[.int .i64 q] X fun e w' => e = .returned (.string (mkT m)) ∧ Below X.heap.size X w') := Lib.hid (fun X m q e h1 h2 => by subst e; exact markText_any m X h1 h2)
  go_enter Tryz.func80, Tryz.ntmps80
  go_wp2
  go_loopw [1, 5] (fun t i wr => ∃ j : Nat, j ≤ d.length ∧ i = .int .i64 j ∧ t = .int .i64 ((k + cntL strE (d.take j) : Nat) : Int) ∧ SlOwn strE S wr (mkTo strE k d j) (.slice ao d.length cap) ∧ Turn S w wr) (fun _ i _ => d.length - (intOf i).toNat)
  case atStart => exact ⟨0, Nat.zero_le _, rfl, by simp [cntL], by rw [mkTo_zero]; exact HS.out, Turn.refl _ _⟩
  case round =>
    obtain ⟨j, hj, rfl, rfl, hO, hT⟩ := hrel
    have HO := Lib.hid hO; have HT := Lib.hid hT; clear hO hT
    have hcl := cntL_take_le strE d j
    by_cases hlt : j < d.length
    · obtain ⟨g, Sr, cs, rfl, hcap, hSg, hSr, hSub, hR, hrow, hown⟩ := mk_open HO.out hlt
      have HCs := Lib.hid (cntL_take strE d j hlt)
      have hcs : cntL strE (d.take j) + (strE).cnt d[j] ≤ cntL strE d := by have := cntL_take_le strE d (j + 1); rw [HCs.out] at this; exact this
      obtain ⟨a0, hx, rfl⟩ := txt_own hown
      rw [hx] at hcs
      have hct : (strE).cnt a0 = 1 := rfl
      rw [hct] at hcs
      have HX := Lib.hid hx
      clear hx hown
      have HR0 := Lib.hid hR; have HW0 := Lib.hid hrow; have HT0 := HT; clear hR hrow
      have HJ : Hid (j * (strE).n = j) := Lib.hid (Nat.mul_one j)
      rw [HJ.out] at HW0
      generalize hc : cntL strE (d.take j) = c at *
      have Hc := Lib.hid hc; clear hc
      have g1 : (0 : Int) ≤ (j : Int) := by omega
      have g2 : (j : Int) < (d.length : Int) := by omega
      go_wp2_with fail
      refine (HTx.out wr (k + c) _ (by omega) (by omega) (by omega)).mono ?_
      rintro e X1 ⟨rfl, hb⟩
      have HW1 := Lib.hid (HW0.out.same (hb.block _ HW0.out.lt)); have HR1 := Lib.hid (HR0.out.turn (by rw [mkTo_length _ _ _ hj]; exact hlt) (Turn.of_below hb)); have HT1 := Lib.hid (HT0.out.trans (Turn.of_below hb))
      clear hb HW0 HR0 HT0 
      have HW0 := HW1; have HR0 := HR1; have HT0 := HT1; clear HW1 HR1 HT1
      have c0 := HW0.out.cells 0 (by simp)
      have c0 : X1.cell? ⟨g, j, none⟩ = some (.string a0) := c0
      have f0 : X1.frozen? ⟨g, j, none⟩ = false := HW0.out.soft _
      go_wp2
      go_roundw
      case rel =>
        refine ⟨j + 1, by omega, by go_num, ?_, mk_close (cs := [.string (mkT (k + c))]) (HR0.out.store1 rfl _) hlt hcap (RowAt.cong (by rw [HJ.out]; exact (HW0.out.store (j := 0) (by simp) _)) ?_) ?_, (HT0.out.trans (Turn.store _ _ _ hSg))⟩
        · rw [HCs.out, HX.out, hct]; first | (congr 1; done) | (congr 1; omega)
        · simp only [List.set_cons_zero, List.set_cons_succ, List.cons.injEq, Value.int.injEq, Value.bool.injEq, true_and, and_true]
          first | done | omega | (refine ⟨?_, ?_⟩ <;> first | omega | (rw [Bool.eq_iff_iff]; simp; omega)) | (rw [Bool.eq_iff_iff]; simp; omega)
        · rw [Hc.out, HX.out]
          exact rfl
      case measure => simp [intOf]; omega
    · have e : j = d.length := by omega
      subst e
      have HOO : Hid (SlOwn strE S wr (mkAll strE k d) (.slice ao d.length cap)) := Lib.hid (by have := HO.out; rw [mkTo_all] at this; exact this)
      have hce : cntL strE (d.take d.length) = cntL strE d := by rw [List.take_length]
      rw [hce]
      go_wp2
      go_ret
      exact ⟨rfl, HOO.out, HT.out⟩
end Go.Proofs.YtmanlnlhpgdbpaaGreat
/- The helpers of the laws: marks. -/
namespace Go.Proofs.YtmanlnlhpgdbpaaGreat
open Go.RowKit
attribute [local go_sem ↓] Go.wp_at_zero Go.wp_at_succ

set_option maxRecDepth 100000 in
set_option maxHeartbeats 4000000 in
theorem markAttrS_at {S : Bs} (v : Value) (d : List AttrT) (k : Nat) (w : World) (h : SlOwn attrE S w d v) (hl : d.length ≤ 1048576) (hz : szL attrE d ≤ 1048576) (hk1 : 0 < k) (hk2 : k + cntL attrE d ≤ 1000000000) :
    Calls Tryz.prog 53 #[v, .int .i64 k] w fun e w' => e = .returned (.int .i64 ((k + cntL attrE d : Nat) : Int)) ∧ SlOwn attrE S w' (mkAll attrE k d) v ∧ Turn S w w' := by
  obtain ⟨ao, cap, rfl⟩ := h.at.sl
  have HS := Lib.hid h; clear h
  have HTx : Hid (∀ (X : World) (m : Nat) (q : Int), q = (m : Int) → 0 < m → m ≤ 1000000000 → Calls Tryz.prog 52 #[.int .i64 q] X fun e w' => e = .returned (.string (mkT m)) ∧ Below X.heap.size X w') := Lib.hid (fun X m q e h1 h2 => by subst e; exact markText_any m X h1 h2)
  have HM1 : Hid (∀ (X : World) (Sx : Bs) (u : Value) (V : List ByteArray) (m : Nat) (q : Int), q = (m : Int) → SlOwn strE Sx X V u → V.length ≤ 1048576 → szL strE V ≤ 1048576 → 0 < m → m + cntL strE V ≤ 1000000000 → Calls Tryz.prog 80 #[u, .int .i64 q] X fun e w' => e = .returned (.int .i64 ((m + cntL strE V : Nat) : Int)) ∧ SlOwn strE Sx w' (mkAll strE m V) u ∧ Turn Sx X w') := Lib.hid (fun X Sx u V m q e h h0 hz h1 h2 => by subst e; exact markStringS_at u V m X h h0 hz h1 h2)
  go_enter Tryz.func53, Tryz.ntmps53
  go_wp2
  go_loopw [1, 5] (fun t i wr => ∃ j : Nat, j ≤ d.length ∧ i = .int .i64 j ∧ t = .int .i64 ((k + cntL attrE (d.take j) : Nat) : Int) ∧ SlOwn attrE S wr (mkTo attrE k d j) (.slice ao d.length cap) ∧ Turn S w wr) (fun _ i _ => d.length - (intOf i).toNat)
  case atStart => exact ⟨0, Nat.zero_le _, rfl, by simp [cntL], by rw [mkTo_zero]; exact HS.out, Turn.refl _ _⟩
  case round =>
    obtain ⟨j, hj, rfl, rfl, hO, hT⟩ := hrel
    have HO := Lib.hid hO; have HT := Lib.hid hT; clear hO hT
    have hcl := cntL_take_le attrE d j
    by_cases hlt : j < d.length
    · obtain ⟨g, Sr, cs, rfl, hcap, hSg, hSr, hSub, hR, hrow, hown⟩ := mk_open HO.out hlt
      have HCs := Lib.hid (cntL_take attrE d j hlt)
      have hcs : cntL attrE (d.take j) + (attrE).cnt d[j] ≤ cntL attrE d := by have := cntL_take_le attrE d (j + 1); rw [HCs.out] at this; exact this
      obtain ⟨a0, a1, u1, S1, hx, rfl, q1, i1, _⟩ := attr_own hown
      rw [hx] at hcs
      have hct : (attrE).cnt (a0, a1) = 1 + (cntL strE a1) := rfl
      rw [hct] at hcs
      have HX := Lib.hid hx
      have hl1 : a1.length ≤ 1048576 := by have := szL_mem attrE (List.getElem_mem hlt); rw [hx] at this; have h2 : (attrE).sz (a0, a1) = a0.size + ((a1.length + szL strE a1)) := rfl; rw [h2] at this; omega
      have hz1 : szL strE a1 ≤ 1048576 := by have := szL_mem attrE (List.getElem_mem hlt); rw [hx] at this; have h2 : (attrE).sz (a0, a1) = a0.size + ((a1.length + szL strE a1)) := rfl; rw [h2] at this; omega
      clear hx hown
      have HR0 := Lib.hid hR; have HW0 := Lib.hid hrow; have HT0 := HT; clear hR hrow
      have HQ1 := Lib.hid q1; clear q1
      generalize hc : cntL attrE (d.take j) = c at *
      have Hc := Lib.hid hc; clear hc
      have g1 : (0 : Int) ≤ (j : Int) := by omega
      have g2 : (j : Int) < (d.length : Int) := by omega
      generalize hm1 : cntL strE a1 = m1 at *
      have Hm1 := Lib.hid hm1; clear hm1
      go_wp2_with fail
      refine (HTx.out wr (k + c) _ (by omega) (by omega) (by omega)).mono ?_
      rintro e X1 ⟨rfl, hb⟩
      have HW1 := Lib.hid (HW0.out.same (hb.block _ HW0.out.lt)); have HR1 := Lib.hid (HR0.out.turn (by rw [mkTo_length _ _ _ hj]; exact hlt) (Turn.of_below hb)); have HT1 := Lib.hid (HT0.out.trans (Turn.of_below hb))
      have HP1 := Lib.hid (HQ1.out.frame (Same.of_below' hb))
      clear hb HW0 HR0 HT0 HQ1
      have HW0 := HW1; have HR0 := HR1; have HT0 := HT1; clear HW1 HR1 HT1
      have HQ1 := HP1; clear HP1
      have c0 := HW0.out.cells 0 (by simp)
      have c0 : X1.cell? ⟨g, j * 2, none⟩ = some (.string a0) := c0
      have f0 : X1.frozen? ⟨g, j * 2, none⟩ = false := HW0.out.soft _
      have c1 := HW0.out.cells 1 (by simp)
      have c1 : X1.cell? ⟨g, j * 2 + 1, none⟩ = some (u1) := c1
      have f1 : X1.frozen? ⟨g, j * 2 + 1, none⟩ = false := HW0.out.soft _
      go_wp2_with fail
      refine calls_by (fun W => (∃ cs : List Value, RowAt W g (j * (attrE).n) cs ∧ cs = [.string (mkT (k + c)), u1]) ∧ Rest attrE S W (mkTo attrE k d j) g j Sr ∧ Turn S w W ∧ SlOwn strE S1 W (a1) u1) ⟨⟨_, (HW0.out.store (j := 0) (by simp) _), by simp only [List.set_cons_zero, List.set_cons_succ, List.cons.injEq, Value.int.injEq, Value.bool.injEq, true_and, and_true] <;> omega⟩, (HR0.out.store (u := 0) (by decide) _), (HT0.out.trans (Turn.store _ _ _ hSg)), (HQ1.out.frame (Same.set _ _ _ (fun z => hSr (i1 g z))))⟩ ?_
      try clear c0; try clear f0; try clear c1; try clear f1
      clear HR0 HW0 HT0 HQ1
      rintro X2 ⟨⟨cs, hw, rfl⟩, hr, ht, q1⟩
      have HW0 := Lib.hid hw; have HR0 := Lib.hid hr; have HT0 := Lib.hid ht; clear hw hr ht
      have HQ1 := Lib.hid q1; clear q1
      refine (HM1.out X2 S1 u1 a1 (k + c + 1) _ (by omega) HQ1.out hl1 hz1 (by omega) (by rw [Hm1.out]; omega)).mono ?_
      rintro e X3 ⟨rfl, q1, ht⟩
      have HW1 := Lib.hid (HW0.out.same (ht.block _ HW0.out.lt (fun z => hSr (i1 g z)))); have HR1 := Lib.hid (HR0.out.turn (by rw [mkTo_length _ _ _ hj]; exact hlt) (ht.wide i1)); have HT1 := Lib.hid (HT0.out.trans (ht.wide (fun z y => hSub z (i1 z y))))
      have HP1 := Lib.hid q1; clear q1
      clear ht HW0 HR0 HT0 HQ1
      have HW0 := HW1; have HR0 := HR1; have HT0 := HT1; clear HW1 HR1 HT1
      have HQ1 := HP1; clear HP1
      rw [Hm1.out]
      have c0 := HW0.out.cells 0 (by simp)
      have c0 : X3.cell? ⟨g, j * 2, none⟩ = some (.string (mkT (k + c))) := c0
      have f0 : X3.frozen? ⟨g, j * 2, none⟩ = false := HW0.out.soft _
      have c1 := HW0.out.cells 1 (by simp)
      have c1 : X3.cell? ⟨g, j * 2 + 1, none⟩ = some (u1) := c1
      have f1 : X3.frozen? ⟨g, j * 2 + 1, none⟩ = false := HW0.out.soft _
      go_wp2
      go_roundw
      case rel =>
        refine ⟨j + 1, by omega, by go_num, ?_, mk_close (cs := [.string (mkT (k + c)), u1]) HR0.out hlt hcap (RowAt.cong HW0.out ?_) ?_, HT0.out⟩
        · rw [HCs.out, HX.out, hct]; first | (congr 1; done) | (congr 1; omega)
        · simp only [List.set_cons_zero, List.set_cons_succ, List.cons.injEq, Value.int.injEq, Value.bool.injEq, true_and, and_true]
          first | done | omega | (refine ⟨?_, ?_⟩ <;> first | omega | (rw [Bool.eq_iff_iff]; simp; omega)) | (rw [Bool.eq_iff_iff]; simp; omega)
        · rw [Hc.out, HX.out]
          have e1 := Hm1.out
          subst e1
          exact attr_pack (mkT (k + c)) (mkAll strE (k + c + 1) a1) _ S1 ⟨HQ1.out, i1, trivial⟩
      case measure => simp [intOf]; omega
    · have e : j = d.length := by omega
      subst e
      have HOO : Hid (SlOwn attrE S wr (mkAll attrE k d) (.slice ao d.length cap)) := Lib.hid (by have := HO.out; rw [mkTo_all] at this; exact this)
      have hce : cntL attrE (d.take d.length) = cntL attrE d := by rw [List.take_length]
      rw [hce]
      go_wp2
      go_ret
      exact ⟨rfl, HOO.out, HT.out⟩
end Go.Proofs.YtmanlnlhpgdbpaaGreat
/- The helpers of the laws: marks. -/
namespace Go.Proofs.YtmanlnlhpgdbpaaGreat
open Go.RowKit
attribute [local go_sem ↓] Go.wp_at_zero Go.wp_at_succ

end Go.Proofs.YtmanlnlhpgdbpaaGreat
/- The helpers of the laws: marks. -/
namespace Go.Proofs.YtmanlnlhpgdbpaaGreat
open Go.RowKit
attribute [local go_sem ↓] Go.wp_at_zero Go.wp_at_succ

set_option maxRecDepth 100000 in
set_option maxHeartbeats 4000000 in
theorem markChangeS_at {S : Bs} (v : Value) (d : List ChangeT) (k : Nat) (w : World) (h : SlOwn changeE S w d v) (hl : d.length ≤ 1048576) (hz : szL changeE d ≤ 1048576) (hk1 : 0 < k) (hk2 : k + cntL changeE d ≤ 1000000000) :
    Calls Tryz.prog 51 #[v, .int .i64 k] w fun e w' => e = .returned (.int .i64 ((k + cntL changeE d : Nat) : Int)) ∧ SlOwn changeE S w' (mkAll changeE k d) v ∧ Turn S w w' := by
  obtain ⟨ao, cap, rfl⟩ := h.at.sl
  have HS := Lib.hid h; clear h
  have HTx : Hid (∀ (X : World) (m : Nat) (q : Int), q = (m : Int) → 0 < m → m ≤ 1000000000 → Calls Tryz.prog 52 #[.int .i64 q] X fun e w' => e = .returned (.string (mkT m)) ∧ Below X.heap.size X w') := Lib.hid (fun X m q e h1 h2 => by subst e; exact markText_any m X h1 h2)
  have HM3 : Hid (∀ (X : World) (Sx : Bs) (u : Value) (V : List RdnT) (m : Nat) (q : Int), q = (m : Int) → SlOwn rdnE Sx X V u → V.length ≤ 1048576 → szL rdnE V ≤ 1048576 → 0 < m → m + cntL rdnE V ≤ 1000000000 → Calls Tryz.prog 22 #[u, .int .i64 q] X fun e w' => e = .returned (.int .i64 ((m + cntL rdnE V : Nat) : Int)) ∧ SlOwn rdnE Sx w' (mkAll rdnE m V) u ∧ Turn Sx X w') := Lib.hid (fun X Sx u V m q e h h0 hz h1 h2 => by subst e; exact markRdnS_at u V m X h h0 hz h1 h2)
  have HM4 : Hid (∀ (X : World) (Sx : Bs) (u : Value) (V : List AttrT) (m : Nat) (q : Int), q = (m : Int) → SlOwn attrE Sx X V u → V.length ≤ 1048576 → szL attrE V ≤ 1048576 → 0 < m → m + cntL attrE V ≤ 1000000000 → Calls Tryz.prog 53 #[u, .int .i64 q] X fun e w' => e = .returned (.int .i64 ((m + cntL attrE V : Nat) : Int)) ∧ SlOwn attrE Sx w' (mkAll attrE m V) u ∧ Turn Sx X w') := Lib.hid (fun X Sx u V m q e h h0 hz h1 h2 => by subst e; exact markAttrS_at u V m X h h0 hz h1 h2)
  go_enter Tryz.func51, Tryz.ntmps51
  go_wp2
  go_loopw [1, 5] (fun t i wr => ∃ j : Nat, j ≤ d.length ∧ i = .int .i64 j ∧ t = .int .i64 ((k + cntL changeE (d.take j) : Nat) : Int) ∧ SlOwn changeE S wr (mkTo changeE k d j) (.slice ao d.length cap) ∧ Turn S w wr) (fun _ i _ => d.length - (intOf i).toNat)
  case atStart => exact ⟨0, Nat.zero_le _, rfl, by simp [cntL], by rw [mkTo_zero]; exact HS.out, Turn.refl _ _⟩
  case round =>
    obtain ⟨j, hj, rfl, rfl, hO, hT⟩ := hrel
    have HO := Lib.hid hO; have HT := Lib.hid hT; clear hO hT
    have hcl := cntL_take_le changeE d j
    by_cases hlt : j < d.length
    · obtain ⟨g, Sr, cs, rfl, hcap, hSg, hSr, hSub, hR, hrow, hown⟩ := mk_open HO.out hlt
      have HCs := Lib.hid (cntL_take changeE d j hlt)
      have hcs : cntL changeE (d.take j) + (changeE).cnt d[j] ≤ cntL changeE d := by have := cntL_take_le changeE d (j + 1); rw [HCs.out] at this; exact this
      obtain ⟨a0, a1, a2, a3, a4, u3, u4, S3, S4, hx, rfl, q3, i3, q4, i4, d3_4, _⟩ := change_own hown
      rw [hx] at hcs
      have hct : (changeE).cnt (a0, a1, a2, (a3, a4)) = 1 + (1 + (1 + ((cntL rdnE a3 + (cntL attrE a4))))) := rfl
      rw [hct] at hcs
      have HX := Lib.hid hx
      have hl3 : a3.length ≤ 1048576 := by have := szL_mem changeE (List.getElem_mem hlt); rw [hx] at this; have h2 : (changeE).sz (a0, a1, a2, (a3, a4)) = 0 + (0 + (a2.size + (((a3.length + szL rdnE a3) + ((a4.length + szL attrE a4)))))) := rfl; rw [h2] at this; omega
      have hz3 : szL rdnE a3 ≤ 1048576 := by have := szL_mem changeE (List.getElem_mem hlt); rw [hx] at this; have h2 : (changeE).sz (a0, a1, a2, (a3, a4)) = 0 + (0 + (a2.size + (((a3.length + szL rdnE a3) + ((a4.length + szL attrE a4)))))) := rfl; rw [h2] at this; omega
      have hl4 : a4.length ≤ 1048576 := by have := szL_mem changeE (List.getElem_mem hlt); rw [hx] at this; have h2 : (changeE).sz (a0, a1, a2, (a3, a4)) = 0 + (0 + (a2.size + (((a3.length + szL rdnE a3) + ((a4.length + szL attrE a4)))))) := rfl; rw [h2] at this; omega
      have hz4 : szL attrE a4 ≤ 1048576 := by have := szL_mem changeE (List.getElem_mem hlt); rw [hx] at this; have h2 : (changeE).sz (a0, a1, a2, (a3, a4)) = 0 + (0 + (a2.size + (((a3.length + szL rdnE a3) + ((a4.length + szL attrE a4)))))) := rfl; rw [h2] at this; omega
      clear hx hown
      have HR0 := Lib.hid hR; have HW0 := Lib.hid hrow; have HT0 := HT; clear hR hrow
      have HQ3 := Lib.hid q3; clear q3
      have HQ4 := Lib.hid q4; clear q4
      generalize hc : cntL changeE (d.take j) = c at *
      have Hc := Lib.hid hc; clear hc
      have g1 : (0 : Int) ≤ (j : Int) := by omega
      have g2 : (j : Int) < (d.length : Int) := by omega
      generalize hm3 : cntL rdnE a3 = m3 at *
      have Hm3 := Lib.hid hm3; clear hm3
      generalize hm4 : cntL attrE a4 = m4 at *
      have Hm4 := Lib.hid hm4; clear hm4
      have c0 := HW0.out.cells 0 (by simp)
      have c0 : wr.cell? ⟨g, j * 5, none⟩ = some (.int .i64 a0) := c0
      have f0 : wr.frozen? ⟨g, j * 5, none⟩ = false := HW0.out.soft _
      have c1 := HW0.out.cells 1 (by simp)
      have c1 : wr.cell? ⟨g, j * 5 + 1, none⟩ = some (.int .i64 a1) := c1
      have f1 : wr.frozen? ⟨g, j * 5 + 1, none⟩ = false := HW0.out.soft _
      have c2 := HW0.out.cells 2 (by simp)
      have c2 : wr.cell? ⟨g, j * 5 + 2, none⟩ = some (.string a2) := c2
      have f2 : wr.frozen? ⟨g, j * 5 + 2, none⟩ = false := HW0.out.soft _
      have c3 := HW0.out.cells 3 (by simp)
      have c3 : wr.cell? ⟨g, j * 5 + 3, none⟩ = some (u3) := c3
      have f3 : wr.frozen? ⟨g, j * 5 + 3, none⟩ = false := HW0.out.soft _
      have c4 := HW0.out.cells 4 (by simp)
      have c4 : wr.cell? ⟨g, j * 5 + 4, none⟩ = some (u4) := c4
      have f4 : wr.frozen? ⟨g, j * 5 + 4, none⟩ = false := HW0.out.soft _
      go_wp2_with fail
      refine calls_by (fun W => (∃ cs : List Value, RowAt W g (j * (changeE).n) cs ∧ cs = [.int .i64 ((k + c : Nat) : Int), .int .i64 ((k + c + 1 : Nat) : Int), .string a2, u3, u4]) ∧ Rest changeE S W (mkTo changeE k d j) g j Sr ∧ Turn S w W ∧ SlOwn rdnE S3 W (a3) u3 ∧ SlOwn attrE S4 W (a4) u4) ⟨⟨_, ((HW0.out.store (j := 0) (by simp) _).store (j := 1) (by simp) _), by simp only [List.set_cons_zero, List.set_cons_succ, List.cons.injEq, Value.int.injEq, Value.bool.injEq, true_and, and_true] <;> omega⟩, ((HR0.out.store (u := 0) (by decide) _).store (u := 1) (by decide) _), ((HT0.out.trans (Turn.store _ _ _ hSg)).trans (Turn.store _ _ _ hSg)), ((HQ3.out.frame (Same.set _ _ _ (fun z => hSr (i3 g z)))).frame (Same.set _ _ _ (fun z => hSr (i3 g z)))), ((HQ4.out.frame (Same.set _ _ _ (fun z => hSr (i4 g z)))).frame (Same.set _ _ _ (fun z => hSr (i4 g z))))⟩ ?_
      try clear c0; try clear f0; try clear c1; try clear f1; try clear c2; try clear f2; try clear c3; try clear f3; try clear c4; try clear f4
      clear HR0 HW0 HT0 HQ3 HQ4
      rintro X1 ⟨⟨cs, hw, rfl⟩, hr, ht, q3, q4⟩
      have HW0 := Lib.hid hw; have HR0 := Lib.hid hr; have HT0 := Lib.hid ht; clear hw hr ht
      have HQ3 := Lib.hid q3; clear q3
      have HQ4 := Lib.hid q4; clear q4
      refine (HTx.out X1 (k + c + 1 + 1) _ (by omega) (by omega) (by omega)).mono ?_
      rintro e X2 ⟨rfl, hb⟩
      have HW1 := Lib.hid (HW0.out.same (hb.block _ HW0.out.lt)); have HR1 := Lib.hid (HR0.out.turn (by rw [mkTo_length _ _ _ hj]; exact hlt) (Turn.of_below hb)); have HT1 := Lib.hid (HT0.out.trans (Turn.of_below hb))
      have HP3 := Lib.hid (HQ3.out.frame (Same.of_below' hb))
      have HP4 := Lib.hid (HQ4.out.frame (Same.of_below' hb))
      clear hb HW0 HR0 HT0 HQ3 HQ4
      have HW0 := HW1; have HR0 := HR1; have HT0 := HT1; clear HW1 HR1 HT1
      have HQ3 := HP3; clear HP3
      have HQ4 := HP4; clear HP4
      have c0 := HW0.out.cells 0 (by simp)
      have c0 : X2.cell? ⟨g, j * 5, none⟩ = some (.int .i64 ((k + c : Nat) : Int)) := c0
      have f0 : X2.frozen? ⟨g, j * 5, none⟩ = false := HW0.out.soft _
      have c1 := HW0.out.cells 1 (by simp)
      have c1 : X2.cell? ⟨g, j * 5 + 1, none⟩ = some (.int .i64 ((k + c + 1 : Nat) : Int)) := c1
      have f1 : X2.frozen? ⟨g, j * 5 + 1, none⟩ = false := HW0.out.soft _
      have c2 := HW0.out.cells 2 (by simp)
      have c2 : X2.cell? ⟨g, j * 5 + 2, none⟩ = some (.string a2) := c2
      have f2 : X2.frozen? ⟨g, j * 5 + 2, none⟩ = false := HW0.out.soft _
      have c3 := HW0.out.cells 3 (by simp)
      have c3 : X2.cell? ⟨g, j * 5 + 3, none⟩ = some (u3) := c3
      have f3 : X2.frozen? ⟨g, j * 5 + 3, none⟩ = false := HW0.out.soft _
      have c4 := HW0.out.cells 4 (by simp)
      have c4 : X2.cell? ⟨g, j * 5 + 4, none⟩ = some (u4) := c4
      have f4 : X2.frozen? ⟨g, j * 5 + 4, none⟩ = false := HW0.out.soft _
      go_wp2_with fail
      refine calls_by (fun W => (∃ cs : List Value, RowAt W g (j * (changeE).n) cs ∧ cs = [.int .i64 ((k + c : Nat) : Int), .int .i64 ((k + c + 1 : Nat) : Int), .string (mkT (k + c + 1 + 1)), u3, u4]) ∧ Rest changeE S W (mkTo changeE k d j) g j Sr ∧ Turn S w W ∧ SlOwn rdnE S3 W (a3) u3 ∧ SlOwn attrE S4 W (a4) u4) ⟨⟨_, (HW0.out.store (j := 2) (by simp) _), by simp only [List.set_cons_zero, List.set_cons_succ, List.cons.injEq, Value.int.injEq, Value.bool.injEq, true_and, and_true] <;> omega⟩, (HR0.out.store (u := 2) (by decide) _), (HT0.out.trans (Turn.store _ _ _ hSg)), (HQ3.out.frame (Same.set _ _ _ (fun z => hSr (i3 g z)))), (HQ4.out.frame (Same.set _ _ _ (fun z => hSr (i4 g z))))⟩ ?_
      try clear c0; try clear f0; try clear c1; try clear f1; try clear c2; try clear f2; try clear c3; try clear f3; try clear c4; try clear f4
      clear HR0 HW0 HT0 HQ3 HQ4
      rintro X3 ⟨⟨cs, hw, rfl⟩, hr, ht, q3, q4⟩
      have HW0 := Lib.hid hw; have HR0 := Lib.hid hr; have HT0 := Lib.hid ht; clear hw hr ht
      have HQ3 := Lib.hid q3; clear q3
      have HQ4 := Lib.hid q4; clear q4
      refine (HM3.out X3 S3 u3 a3 (k + c + 1 + 1 + 1) _ (by omega) HQ3.out hl3 hz3 (by omega) (by rw [Hm3.out]; omega)).mono ?_
      rintro e X4 ⟨rfl, q3, ht⟩
      have HW1 := Lib.hid (HW0.out.same (ht.block _ HW0.out.lt (fun z => hSr (i3 g z)))); have HR1 := Lib.hid (HR0.out.turn (by rw [mkTo_length _ _ _ hj]; exact hlt) (ht.wide i3)); have HT1 := Lib.hid (HT0.out.trans (ht.wide (fun z y => hSub z (i3 z y))))
      have HP3 := Lib.hid q3; clear q3
      have HP4 := Lib.hid (HQ4.out.frame (ht.same (fun z y1 y2 => d3_4 z y2 y1)))
      clear ht HW0 HR0 HT0 HQ3 HQ4
      have HW0 := HW1; have HR0 := HR1; have HT0 := HT1; clear HW1 HR1 HT1
      have HQ3 := HP3; clear HP3
      have HQ4 := HP4; clear HP4
      rw [Hm3.out]
      have c0 := HW0.out.cells 0 (by simp)
      have c0 : X4.cell? ⟨g, j * 5, none⟩ = some (.int .i64 ((k + c : Nat) : Int)) := c0
      have f0 : X4.frozen? ⟨g, j * 5, none⟩ = false := HW0.out.soft _
      have c1 := HW0.out.cells 1 (by simp)
      have c1 : X4.cell? ⟨g, j * 5 + 1, none⟩ = some (.int .i64 ((k + c + 1 : Nat) : Int)) := c1
      have f1 : X4.frozen? ⟨g, j * 5 + 1, none⟩ = false := HW0.out.soft _
      have c2 := HW0.out.cells 2 (by simp)
      have c2 : X4.cell? ⟨g, j * 5 + 2, none⟩ = some (.string (mkT (k + c + 1 + 1))) := c2
      have f2 : X4.frozen? ⟨g, j * 5 + 2, none⟩ = false := HW0.out.soft _
      have c3 := HW0.out.cells 3 (by simp)
      have c3 : X4.cell? ⟨g, j * 5 + 3, none⟩ = some (u3) := c3
      have f3 : X4.frozen? ⟨g, j * 5 + 3, none⟩ = false := HW0.out.soft _
      have c4 := HW0.out.cells 4 (by simp)
      have c4 : X4.cell? ⟨g, j * 5 + 4, none⟩ = some (u4) := c4
      have f4 : X4.frozen? ⟨g, j * 5 + 4, none⟩ = false := HW0.out.soft _
      go_wp2_with fail
      refine (HM4.out X4 S4 u4 a4 (k + c + 1 + 1 + 1 + m3) _ (by omega) HQ4.out hl4 hz4 (by omega) (by rw [Hm4.out]; omega)).mono ?_
      rintro e X5 ⟨rfl, q4, ht⟩
      have HW1 := Lib.hid (HW0.out.same (ht.block _ HW0.out.lt (fun z => hSr (i4 g z)))); have HR1 := Lib.hid (HR0.out.turn (by rw [mkTo_length _ _ _ hj]; exact hlt) (ht.wide i4)); have HT1 := Lib.hid (HT0.out.trans (ht.wide (fun z y => hSub z (i4 z y))))
      have HP3 := Lib.hid (HQ3.out.frame (ht.same (d3_4)))
      have HP4 := Lib.hid q4; clear q4
      clear ht HW0 HR0 HT0 HQ3 HQ4
      have HW0 := HW1; have HR0 := HR1; have HT0 := HT1; clear HW1 HR1 HT1
      have HQ3 := HP3; clear HP3
      have HQ4 := HP4; clear HP4
      rw [Hm4.out]
      try clear c0; try clear f0; try clear c1; try clear f1; try clear c2; try clear f2; try clear c3; try clear f3; try clear c4; try clear f4
      have c0 := HW0.out.cells 0 (by simp)
      have c0 : X5.cell? ⟨g, j * 5, none⟩ = some (.int .i64 ((k + c : Nat) : Int)) := c0
      have f0 : X5.frozen? ⟨g, j * 5, none⟩ = false := HW0.out.soft _
      have c1 := HW0.out.cells 1 (by simp)
      have c1 : X5.cell? ⟨g, j * 5 + 1, none⟩ = some (.int .i64 ((k + c + 1 : Nat) : Int)) := c1
      have f1 : X5.frozen? ⟨g, j * 5 + 1, none⟩ = false := HW0.out.soft _
      have c2 := HW0.out.cells 2 (by simp)
      have c2 : X5.cell? ⟨g, j * 5 + 2, none⟩ = some (.string (mkT (k + c + 1 + 1))) := c2
      have f2 : X5.frozen? ⟨g, j * 5 + 2, none⟩ = false := HW0.out.soft _
      have c3 := HW0.out.cells 3 (by simp)
      have c3 : X5.cell? ⟨g, j * 5 + 3, none⟩ = some (u3) := c3
      have f3 : X5.frozen? ⟨g, j * 5 + 3, none⟩ = false := HW0.out.soft _
      have c4 := HW0.out.cells 4 (by simp)
      have c4 : X5.cell? ⟨g, j * 5 + 4, none⟩ = some (u4) := c4
      have f4 : X5.frozen? ⟨g, j * 5 + 4, none⟩ = false := HW0.out.soft _
      go_wp2
      go_roundw
      case rel =>
        refine ⟨j + 1, by omega, by go_num, ?_, mk_close (cs := [.int .i64 ((k + c : Nat) : Int), .int .i64 ((k + c + 1 : Nat) : Int), .string (mkT (k + c + 1 + 1)), u3, u4]) HR0.out hlt hcap (RowAt.cong HW0.out ?_) ?_, HT0.out⟩
        · rw [HCs.out, HX.out, hct]; first | (congr 1; done) | (congr 1; omega)
        · simp only [List.set_cons_zero, List.set_cons_succ, List.cons.injEq, Value.int.injEq, Value.bool.injEq, true_and, and_true]
          first | done | omega | (refine ⟨?_, ?_⟩ <;> first | omega | (rw [Bool.eq_iff_iff]; simp; omega)) | (rw [Bool.eq_iff_iff]; simp; omega)
        · rw [Hc.out, HX.out]
          have e3 := Hm3.out
          have e4 := Hm4.out
          subst e3 e4
          exact change_pack ((k + c : Nat) : Int) ((k + c + 1 : Nat) : Int) (mkT (k + c + 1 + 1)) (mkAll rdnE (k + c + 1 + 1 + 1) a3) (mkAll attrE (k + c + 1 + 1 + 1 + (cntL rdnE a3)) a4) _ _ S3 S4 ⟨HQ3.out, i3, HQ4.out, i4, d3_4, trivial⟩
      case measure => simp [intOf]; omega
    · have e : j = d.length := by omega
      subst e
      have HOO : Hid (SlOwn changeE S wr (mkAll changeE k d) (.slice ao d.length cap)) := Lib.hid (by have := HO.out; rw [mkTo_all] at this; exact this)
      have hce : cntL changeE (d.take d.length) = cntL changeE d := by rw [List.take_length]
      rw [hce]
      go_wp2
      go_ret
      exact ⟨rfl, HOO.out, HT.out⟩
end Go.Proofs.YtmanlnlhpgdbpaaGreat
/- The helpers of the laws: marks. -/
namespace Go.Proofs.YtmanlnlhpgdbpaaGreat
open Go.RowKit
attribute [local go_sem ↓] Go.wp_at_zero Go.wp_at_succ

set_option maxRecDepth 100000 in
set_option maxHeartbeats 4000000 in
theorem markChanges_fl (a0 : Int) (a1 : (List ChangeT)) (u1 : Value) (S1 : Bs) (k : Nat) (w : World) (q1 : SlOwn changeE S1 w a1 u1) (l1 : a1.length ≤ 1048576) (z1 : szL changeE a1 ≤ 1048576) (y1 : ∀ b, S1 b → b < w.heap.size) (hk1 : 0 < k) (hk2 : k + cntL changeE a1 ≤ 1000000000) :
    Calls Tryz.prog 21 #[.agg #[.int .i64 a0, u1], .int .i64 k] w fun e w' => e = .returned (.int .i64 ((k + cntL changeE a1 : Nat) : Int)) ∧ SlOwn changeE S1 w' (mkAll changeE (k) a1) u1 ∧ Turn (fun b => S1 b) w w' := by
  have C1 : Hid (∀ (X : World) (V : List ChangeT) (m : Nat) (q : Int), q = (m : Int) → SlOwn changeE S1 X V u1 → V.length ≤ 1048576 → szL changeE V ≤ 1048576 → 0 < m → m + cntL changeE V ≤ 1000000000 → Calls Tryz.prog 51 #[u1, .int .i64 q] X fun e w' => e = .returned (.int .i64 ((m + cntL changeE V : Nat) : Int)) ∧ SlOwn changeE S1 w' (mkAll changeE m V) u1 ∧ Turn S1 X w') := Lib.hid (fun X V m q e h h0 hz h1 h2 => by subst e; exact markChangeS_at u1 V m X h h0 hz h1 h2)
  have Q1 := Lib.hid q1
  obtain ⟨o1, k1, rfl⟩ := q1.at.sl
  clear q1
  go_enter Tryz.func21, Tryz.ntmps21
  go_wp2_with fail
  refine calls_by (fun W => Below w.heap.size w W ∧ Blk W w.heap.size [.int .i64 a0, .slice o1 a1.length k1]) ⟨more' (Below.refl _ _) _, Blk.new _ _ _⟩ ?_
  rintro W0 ⟨b0, t0⟩
  have R1 := Lib.hid (Q1.out.frame (Same.of_below' b0)); clear Q1; have Q1 := R1; clear R1
  have T0 := Lib.hid t0; have M0 : Hid (Turn (fun b => S1 b) w W0) := Lib.hid (Turn.of_below b0); clear b0
  clear t0
  generalize hm1 : cntL changeE a1 = m1 at *
  have Hm1 := Lib.hid hm1; clear hm1
  refine (C1.out W0 a1 (k) _ (by omega) Q1.out l1 z1 (by omega) (by rw [Hm1.out]; omega)).mono ?_
  rintro e W1 ⟨rfl, q1, ht⟩
  rw [Hm1.out]
  have R1 := Lib.hid q1
  have T1 := Lib.hid (show Blk W1 w.heap.size _ from by obtain ⟨T, h⟩ := T0.out; exact ⟨T, (ht.block _ T0.out.lt (fun r => by first | (have := y1 _ r; omega))).trans h⟩)
  have M1 := Lib.hid (M0.out.trans (ht.wide (fun z r => by simp [r])))
  clear ht T0 M0 Q1 q1
  have Q1 := R1; clear R1
  go_wp2
  go_ret
  have e1 := Hm1.out
  subst e1
  exact ⟨ret_int (by omega), Q1.out, M1.out⟩
end Go.Proofs.YtmanlnlhpgdbpaaGreat
/- The helpers of the laws: marks. -/
namespace Go.Proofs.YtmanlnlhpgdbpaaGreat
open Go.RowKit
attribute [local go_sem ↓] Go.wp_at_zero Go.wp_at_succ

set_option maxRecDepth 100000 in
set_option maxHeartbeats 4000000 in
theorem markChangesOut_fl (a0 : Int) (a1 : (List ChangeT)) (a2 : (List ChangeT)) (a3 : Int) (u1 u2 : Value) (S1 S2 : Bs) (k : Nat) (w : World) (q1 : SlOwn changeE S1 w a1 u1) (l1 : a1.length ≤ 1048576) (z1 : szL changeE a1 ≤ 1048576) (q2 : SlOwn changeE S2 w a2 u2) (l2 : a2.length ≤ 1048576) (z2 : szL changeE a2 ≤ 1048576) (d1_2 : ∀ b, S1 b → ¬ S2 b) (y1 : ∀ b, S1 b → b < w.heap.size) (y2 : ∀ b, S2 b → b < w.heap.size) (hk1 : 0 < k) (hk2 : k + cntL changeE a1 + cntL changeE a2 ≤ 1000000000) :
    Calls Tryz.prog 24 #[.agg #[.int .i64 a0, u1, u2, .int .i64 a3], .int .i64 k] w fun e w' => e = .returned (.int .i64 ((k + cntL changeE a1 + cntL changeE a2 : Nat) : Int)) ∧ SlOwn changeE S1 w' (mkAll changeE (k) a1) u1 ∧ SlOwn changeE S2 w' (mkAll changeE (k + cntL changeE a1) a2) u2 ∧ Turn (fun b => S1 b ∨ S2 b) w w' := by
  have C0 : Hid (∀ (X : World) (m : Nat) (q : Int), q = (m : Int) → w.heap.size ≤ X.heap.size → SlOwn changeE S1 X a1 u1 → 0 < m → m + cntL changeE a1 ≤ 1000000000 → Calls Tryz.prog 21 #[.agg #[.int .i64 a0, u1], .int .i64 q] X fun e w' => e = .returned (.int .i64 ((m + cntL changeE a1 : Nat) : Int)) ∧ SlOwn changeE S1 w' (mkAll changeE (m) a1) u1 ∧ Turn (fun b => S1 b) X w') := Lib.hid (fun X m q e hX p1 h1 h2 => by subst e; exact markChanges_fl a0 a1 u1 S1 m X p1 l1 z1  (fun b r => Nat.lt_of_lt_of_le (y1 b r) hX) h1 h2)
  have C2 : Hid (∀ (X : World) (V : List ChangeT) (m : Nat) (q : Int), q = (m : Int) → SlOwn changeE S2 X V u2 → V.length ≤ 1048576 → szL changeE V ≤ 1048576 → 0 < m → m + cntL changeE V ≤ 1000000000 → Calls Tryz.prog 51 #[u2, .int .i64 q] X fun e w' => e = .returned (.int .i64 ((m + cntL changeE V : Nat) : Int)) ∧ SlOwn changeE S2 w' (mkAll changeE m V) u2 ∧ Turn S2 X w') := Lib.hid (fun X V m q e h h0 hz h1 h2 => by subst e; exact markChangeS_at u2 V m X h h0 hz h1 h2)
  have Q1 := Lib.hid q1
  obtain ⟨o1, k1, rfl⟩ := q1.at.sl
  clear q1
  have Q2 := Lib.hid q2
  obtain ⟨o2, k2, rfl⟩ := q2.at.sl
  clear q2
  go_enter Tryz.func24, Tryz.ntmps24
  go_wp2_with fail
  refine calls_by (fun W => Below w.heap.size w W ∧ Blk W w.heap.size [.int .i64 a0, .slice o1 a1.length k1, .slice o2 a2.length k2, .int .i64 a3]) ⟨more' (Below.refl _ _) _, Blk.new _ _ _⟩ ?_
  rintro W0 ⟨b0, t0⟩
  have R1 := Lib.hid (Q1.out.frame (Same.of_below' b0)); clear Q1; have Q1 := R1; clear R1
  have R2 := Lib.hid (Q2.out.frame (Same.of_below' b0)); clear Q2; have Q2 := R2; clear R2
  have T0 := Lib.hid t0; have M0 : Hid (Turn (fun b => S1 b ∨ S2 b) w W0) := Lib.hid (Turn.of_below b0); clear b0
  clear t0
  generalize hm1 : cntL changeE a1 = m1 at *
  have Hm1 := Lib.hid hm1; clear hm1
  generalize hm2 : cntL changeE a2 = m2 at *
  have Hm2 := Lib.hid hm2; clear hm2
  refine (C0.out W0 (k) _ (by omega) M0.out.size Q1.out (by omega) (by omega)).mono ?_
  rintro e W1 ⟨rfl, q1, ht⟩
  have R1 := Lib.hid q1
  have R2 := Lib.hid (Q2.out.frame (ht.same (fun z p r => by first | exact d1_2 z r p)))
  have T1 := Lib.hid (show Blk W1 w.heap.size _ from by obtain ⟨T, h⟩ := T0.out; exact ⟨T, (ht.block _ T0.out.lt (fun r => by first | (have := y1 _ r; omega))).trans h⟩)
  have M1 := Lib.hid (M0.out.trans (ht.wide (fun z r => by simp [r])))
  clear ht T0 M0 Q1 Q2 q1
  have Q1 := R1; clear R1
  have Q2 := R2; clear R2
  have c0 := T1.out.cell 0 rfl
  have c1 := T1.out.cell 1 rfl
  have c2 := T1.out.cell 2 rfl
  have c3 := T1.out.cell 3 rfl
  go_wp2_with fail
  refine (C2.out W1 a2 (k + m1) _ (by omega) Q2.out l2 z2 (by omega) (by rw [Hm2.out]; omega)).mono ?_
  rintro e W2 ⟨rfl, q2, ht⟩
  rw [Hm2.out]
  have R1 := Lib.hid (Q1.out.frame (ht.same (fun z p r => by first | exact d1_2 z p r)))
  have R2 := Lib.hid q2
  have T2 := Lib.hid (show Blk W2 w.heap.size _ from by obtain ⟨T, h⟩ := T1.out; exact ⟨T, (ht.block _ T1.out.lt (fun r => by first | (have := y2 _ r; omega))).trans h⟩)
  have M2 := Lib.hid (M1.out.trans (ht.wide (fun z r => by simp [r])))
  clear ht T1 M1 Q1 Q2 q2 c0 c1 c2 c3
  have Q1 := R1; clear R1
  have Q2 := R2; clear R2
  go_wp2
  go_ret
  have e1 := Hm1.out
  subst e1
  have e2 := Hm2.out
  subst e2
  exact ⟨ret_int (by omega), Q1.out, Q2.out, M2.out⟩
end Go.Proofs.YtmanlnlhpgdbpaaGreat
/- The helpers of the laws: marks asked. -/
namespace Go.Proofs.YtmanlnlhpgdbpaaGreat
open Go.RowKit
attribute [local go_sem ↓] Go.wp_at_zero Go.wp_at_succ

set_option maxRecDepth 100000 in
set_option maxHeartbeats 4000000 in
theorem heldRdnS_at {S : Bs} (v : Value) (d : List RdnT) (k : Nat) (w : World) (h : SlAt rdnE S w (mkAll rdnE k d) v) (hl : d.length ≤ 1048576) (hz : szL rdnE d ≤ 1048576) (hk1 : 0 < k) (hk2 : k + cntL rdnE d ≤ 1000000000) :
    Calls Tryz.prog 81 #[v, .int .i64 k] w fun e w' => e = .returned (.int .i64 ((k + cntL rdnE d : Nat) : Int)) ∧ Below w.heap.size w w' := by
  obtain ⟨ao, cap, rfl⟩ := h.sl
  have hml := mkAll_length rdnE k d
  rw [hml]
  rw [hml] at h
  have HS := Lib.hid h; clear h
  have HTx : Hid (∀ (X : World) (m : Nat) (q : Int), q = (m : Int) → 0 < m → m ≤ 1000000000 → Calls Tryz.prog 52 #[.int .i64 q] X fun e w' => e = .returned (.string (mkT m)) ∧ Below X.heap.size X w') := Lib.hid (fun X m q e h1 h2 => by subst e; exact markText_any m X h1 h2)
  go_enter Tryz.func81, Tryz.ntmps81
  go_wp2
  go_loopw [1, 5] (fun t i wr => ∃ j : Nat, j ≤ d.length ∧ i = .int .i64 j ∧ t = .int .i64 ((k + cntL rdnE (d.take j) : Nat) : Int) ∧ Below w.heap.size w wr) (fun _ i _ => d.length - (intOf i).toNat)
  case atStart => exact ⟨0, Nat.zero_le _, rfl, by simp [cntL], Below.refl _ _⟩
  case round =>
    obtain ⟨j, hj, rfl, rfl, hbel⟩ := hrel
    have hcl := cntL_take_le rdnE d j
    by_cases hlt : j < d.length
    · obtain ⟨b, off, x0, x1, rfl, _, hb0, hx, hc, _⟩ := rdn_row (HS.out.frame (Same.of_below' hbel)) (k := j) (by rw [hml]; exact hlt)
      have HCs := Lib.hid (cntL_take rdnE d j hlt)
      have hcs : cntL rdnE (d.take j) + (rdnE).cnt d[j] ≤ cntL rdnE d := by have := cntL_take_le rdnE d (j + 1); rw [HCs.out] at this; exact this
      rw [mkAll_get rdnE k d j hlt] at hx
      rcases hd : d[j] with ⟨a0, a1⟩
      rw [hd] at hx hcs
      have HX := Lib.hid hd
      have hct : (rdnE).cnt (a0, a1) = 1 + (1) := rfl
      rw [hct] at hcs
      have hm : ((x0, x1) : RdnT) = (mkT (k + cntL rdnE (d.take j)), mkT (k + cntL rdnE (d.take j) + 1)) := hx.symm.trans rfl
      simp only [Prod.mk.injEq] at hm
      obtain ⟨rfl, rfl⟩ := hm
      clear hx hd
      generalize hc' : cntL rdnE (d.take j) = c at *
      clear hc'
      have SK : Hid (∀ W : World, Below wr.heap.size wr W → (Below wr.heap.size wr W ∧ W.cell? ⟨b, off + j * 2, none⟩ = some (.string (mkT (k + c))) ∧ W.cell? ⟨b, off + j * 2 + 1, none⟩ = some (.string (mkT (k + c + 1))))) := Lib.hid (fun W h => ⟨h, (h.cell (p := ⟨b, _, none⟩) hb0).trans hc.1, (h.cell (p := ⟨b, _, none⟩) hb0).trans hc.2⟩)
      have hw0 : Below wr.heap.size wr wr := Below.refl _ _
      have hbd : Below wr.heap.size wr wr.drew := hw0.drew
      have HBl := Lib.hid hbel
      clear hbel hc
      have g1 : (0 : Int) ≤ (j : Int) := by omega
      have g2 : (j : Int) < (d.length : Int) := by omega
      have HT1 : Hid (∀ (X : World) (q : Int), q = ((k + c : Nat) : Int) → Below wr.heap.size wr X → Calls Tryz.prog 52 #[.int .i64 q] X fun e w' => e = .returned (.string (mkT (k + c))) ∧ Below wr.heap.size wr w') := Lib.hid (fun X q e h => (HTx.out X (k + c) q e (by omega) (by omega)).mono fun _ _ z => ⟨z.1, h.trans (z.2.mono h.size)⟩)
      have hkk : ((mkT (k + c)).toList == (mkT (k + c)).toList) = true := by simp
      generalize mkT (k + c) = A0 at *
      go_wp2_with fail
      go_region_held3 (fun W => Below wr.heap.size wr W ∧ W.cell? ⟨b, off + j * 2, none⟩ = some (.string A0) ∧ W.cell? ⟨b, off + j * 2 + 1, none⟩ = some (.string (mkT (k + c + 1))))
        (exact SK.out _ (by assumption))
        (first | (go_at_call 52; refine (HT1.out _ _ (by omega) (by assumption)).mono ?_; rintro e X1 ⟨rfl, hx1⟩) | (fail "none"))
      clear HT1 hkk
      have HT1 : Hid (∀ (X : World) (q : Int), q = ((k + c + 1 : Nat) : Int) → Below wr.heap.size wr X → Calls Tryz.prog 52 #[.int .i64 q] X fun e w' => e = .returned (.string (mkT (k + c + 1))) ∧ Below wr.heap.size wr w') := Lib.hid (fun X q e h => (HTx.out X (k + c + 1) q e (by omega) (by omega)).mono fun _ _ z => ⟨z.1, h.trans (z.2.mono h.size)⟩)
      have hkk : ((mkT (k + c + 1)).toList == (mkT (k + c + 1)).toList) = true := by simp
      generalize mkT (k + c + 1) = A1 at *
      have hdd2 := hx1.drew
      go_wp2_with fail
      go_region_held3 (fun W => Below wr.heap.size wr W ∧ W.cell? ⟨b, off + j * 2, none⟩ = some (.string A0) ∧ W.cell? ⟨b, off + j * 2 + 1, none⟩ = some (.string A1))
        (exact SK.out _ (by assumption))
        (first | (go_at_call 52; refine (HT1.out _ _ (by omega) (by assumption)).mono ?_; rintro e X2 ⟨rfl, hx2⟩) | (fail "none"))
      clear HT1 hkk
      go_wp2
      go_roundw
      case rel => exact ⟨j + 1, by omega, by go_num, by rw [HCs.out, HX.out, hct]; first | (congr 1; done) | (congr 1; omega), HBl.out.trans (hx2.mono HBl.out.size)⟩
      case measure => simp [intOf]; omega
    · have e : j = d.length := by omega
      subst e
      have hce : cntL rdnE (d.take d.length) = cntL rdnE d := by rw [List.take_length]
      rw [hce]
      go_wp2
      go_ret
      exact ⟨rfl, hbel⟩
end Go.Proofs.YtmanlnlhpgdbpaaGreat
/- The helpers of the laws: marks asked. -/
namespace Go.Proofs.YtmanlnlhpgdbpaaGreat
open Go.RowKit
attribute [local go_sem ↓] Go.wp_at_zero Go.wp_at_succ

set_option maxRecDepth 100000 in
set_option maxHeartbeats 4000000 in
theorem heldStringS_at {S : Bs} (v : Value) (d : List ByteArray) (k : Nat) (w : World) (h : SlAt strE S w (mkAll strE k d) v) (hl : d.length ≤ 1048576) (hz : szL strE d ≤ 1048576) (hk1 : 0 < k) (hk2 : k + cntL strE d ≤ 1000000000) :
    Calls Tryz.prog 101 #[v, .int .i64 k] w fun e w' => e = .returned (.int .i64 ((k + cntL strE d : Nat) : Int)) ∧ Below w.heap.size w w' := by
  obtain ⟨ao, cap, rfl⟩ := h.sl
  have hml := mkAll_length strE k d
  rw [hml]
  rw [hml] at h
  have HS := Lib.hid h; clear h
  have HTx : Hid (∀ (X : World) (m : Nat) (q : Int), q = (m : Int) → 0 < m → m ≤ 1000000000 → Calls Tryz.prog 52 #[.int .i64 q] X fun e w' => e = .returned (.string (mkT m)) ∧ Below X.heap.size X w') := Lib.hid (fun X m q e h1 h2 => by subst e; exact markText_any m X h1 h2)
  go_enter Tryz.func101, Tryz.ntmps101
  go_wp2
  go_loopw [1, 5] (fun t i wr => ∃ j : Nat, j ≤ d.length ∧ i = .int .i64 j ∧ t = .int .i64 ((k + cntL strE (d.take j) : Nat) : Int) ∧ Below w.heap.size w wr) (fun _ i _ => d.length - (intOf i).toNat)
  case atStart => exact ⟨0, Nat.zero_le _, rfl, by simp [cntL], Below.refl _ _⟩
  case round =>
    obtain ⟨j, hj, rfl, rfl, hbel⟩ := hrel
    have hcl := cntL_take_le strE d j
    by_cases hlt : j < d.length
    · obtain ⟨b, off, x0, rfl, _, hb0, hx, hc0⟩ := str_row (HS.out.frame (Same.of_below' hbel)) (k := j) (by rw [hml]; exact hlt)
      have HCs := Lib.hid (cntL_take strE d j hlt)
      have hcs : cntL strE (d.take j) + (strE).cnt d[j] ≤ cntL strE d := by have := cntL_take_le strE d (j + 1); rw [HCs.out] at this; exact this
      rw [mkAll_get strE k d j hlt] at hx
      have hx : mkT (k + cntL strE (d.take j)) = x0 := hx
      subst hx
      have hct : strE.cnt d[j] = 1 := rfl
      rw [hct] at hcs
      generalize d[j] = a0 at *
      generalize hc' : cntL strE (d.take j) = c at *
      clear hc'
      have SK : Hid (∀ W : World, Below wr.heap.size wr W → (Below wr.heap.size wr W ∧ W.cell? ⟨b, off + j, none⟩ = some (.string (mkT (k + c))))) := Lib.hid (fun W h => ⟨h, (h.cell (p := ⟨b, _, none⟩) hb0).trans hc0⟩)
      have hw0 : Below wr.heap.size wr wr := Below.refl _ _
      have hbd : Below wr.heap.size wr wr.drew := hw0.drew
      have HBl := Lib.hid hbel
      clear hbel hc0
      have g1 : (0 : Int) ≤ (j : Int) := by omega
      have g2 : (j : Int) < (d.length : Int) := by omega
      have HT1 : Hid (∀ (X : World) (q : Int), q = ((k + c : Nat) : Int) → Below wr.heap.size wr X → Calls Tryz.prog 52 #[.int .i64 q] X fun e w' => e = .returned (.string (mkT (k + c))) ∧ Below wr.heap.size wr w') := Lib.hid (fun X q e h => (HTx.out X (k + c) q e (by omega) (by omega)).mono fun _ _ z => ⟨z.1, h.trans (z.2.mono h.size)⟩)
      have hkk : ((mkT (k + c)).toList == (mkT (k + c)).toList) = true := by simp
      generalize mkT (k + c) = A0 at *
      go_wp2_with fail
      go_region_held3 (fun W => Below wr.heap.size wr W ∧ W.cell? ⟨b, off + j, none⟩ = some (.string A0))
        (exact SK.out _ (by assumption))
        (first | (go_at_call 52; refine (HT1.out _ _ (by omega) (by assumption)).mono ?_; rintro e X1 ⟨rfl, hx1⟩) | (fail "none"))
      clear HT1 hkk
      go_wp2
      go_roundw
      case rel => exact ⟨j + 1, by omega, by go_num, by rw [HCs.out, hct]; first | (congr 1; done) | (congr 1; omega), HBl.out.trans (hx1.mono HBl.out.size)⟩
      case measure => simp [intOf]; omega
    · have e : j = d.length := by omega
      subst e
      have hce : cntL strE (d.take d.length) = cntL strE d := by rw [List.take_length]
      rw [hce]
      go_wp2
      go_ret
      exact ⟨rfl, hbel⟩
end Go.Proofs.YtmanlnlhpgdbpaaGreat
/- The helpers of the laws: marks asked. -/
namespace Go.Proofs.YtmanlnlhpgdbpaaGreat
open Go.RowKit
attribute [local go_sem ↓] Go.wp_at_zero Go.wp_at_succ

set_option maxRecDepth 100000 in
set_option maxHeartbeats 4000000 in
theorem heldAttrS_at {S : Bs} (v : Value) (d : List AttrT) (k : Nat) (w : World) (h : SlAt attrE S w (mkAll attrE k d) v) (hl : d.length ≤ 1048576) (hz : szL attrE d ≤ 1048576) (hk1 : 0 < k) (hk2 : k + cntL attrE d ≤ 1000000000) :
    Calls Tryz.prog 82 #[v, .int .i64 k] w fun e w' => e = .returned (.int .i64 ((k + cntL attrE d : Nat) : Int)) ∧ Below w.heap.size w w' := by
  obtain ⟨ao, cap, rfl⟩ := h.sl
  have hml := mkAll_length attrE k d
  rw [hml]
  rw [hml] at h
  have HS := Lib.hid h; clear h
  have HTx : Hid (∀ (X : World) (m : Nat) (q : Int), q = (m : Int) → 0 < m → m ≤ 1000000000 → Calls Tryz.prog 52 #[.int .i64 q] X fun e w' => e = .returned (.string (mkT m)) ∧ Below X.heap.size X w') := Lib.hid (fun X m q e h1 h2 => by subst e; exact markText_any m X h1 h2)
  have HM1 : Hid (∀ (X : World) (u : Value) (V : List ByteArray) (m : Nat) (q : Int), q = (m : Int) → SlAt strE S X (mkAll strE m V) u → V.length ≤ 1048576 → szL strE V ≤ 1048576 → 0 < m → m + cntL strE V ≤ 1000000000 → Calls Tryz.prog 101 #[u, .int .i64 q] X fun e w' => e = .returned (.int .i64 ((m + cntL strE V : Nat) : Int)) ∧ Below X.heap.size X w') := Lib.hid (fun X u V m q e h h0 hz h1 h2 => by subst e; exact heldStringS_at u V m X h h0 hz h1 h2)
  go_enter Tryz.func82, Tryz.ntmps82
  go_wp2
  go_loopw [1, 5] (fun t i wr => ∃ j : Nat, j ≤ d.length ∧ i = .int .i64 j ∧ t = .int .i64 ((k + cntL attrE (d.take j) : Nat) : Int) ∧ Below w.heap.size w wr) (fun _ i _ => d.length - (intOf i).toNat)
  case atStart => exact ⟨0, Nat.zero_le _, rfl, by simp [cntL], Below.refl _ _⟩
  case round =>
    obtain ⟨j, hj, rfl, rfl, hbel⟩ := hrel
    have hcl := cntL_take_le attrE d j
    by_cases hlt : j < d.length
    · obtain ⟨b, off, x0, x1, u1, rfl, _, hb0, hx, hc, q1, _⟩ := attr_row (HS.out.frame (Same.of_below' hbel)) (k := j) (by rw [hml]; exact hlt)
      have HCs := Lib.hid (cntL_take attrE d j hlt)
      have hcs : cntL attrE (d.take j) + (attrE).cnt d[j] ≤ cntL attrE d := by have := cntL_take_le attrE d (j + 1); rw [HCs.out] at this; exact this
      rw [mkAll_get attrE k d j hlt] at hx
      rcases hd : d[j] with ⟨a0, a1⟩
      rw [hd] at hx hcs
      have HX := Lib.hid hd
      have hct : (attrE).cnt (a0, a1) = 1 + (cntL strE a1) := rfl
      rw [hct] at hcs
      have hl1 : a1.length ≤ 1048576 := by have := szL_mem attrE (List.getElem_mem hlt); rw [hd] at this; have h2 : (attrE).sz (a0, a1) = a0.size + ((a1.length + szL strE a1)) := rfl; rw [h2] at this; omega
      have hz1 : szL strE a1 ≤ 1048576 := by have := szL_mem attrE (List.getElem_mem hlt); rw [hd] at this; have h2 : (attrE).sz (a0, a1) = a0.size + ((a1.length + szL strE a1)) := rfl; rw [h2] at this; omega
      have hm : ((x0, x1) : AttrT) = (mkT (k + cntL attrE (d.take j)), mkAll strE (k + cntL attrE (d.take j) + 1) a1) := hx.symm.trans rfl
      simp only [Prod.mk.injEq] at hm
      obtain ⟨rfl, rfl⟩ := hm
      clear hx hd
      have HQ1 := Lib.hid q1; clear q1
      generalize hc' : cntL attrE (d.take j) = c at *
      clear hc'
      generalize hm1 : cntL strE a1 = m1 at *
      have Hm1 := Lib.hid hm1; clear hm1
      have SK : Hid (∀ W : World, Below wr.heap.size wr W → (Below wr.heap.size wr W ∧ W.cell? ⟨b, off + j * 2, none⟩ = some (.string (mkT (k + c))) ∧ W.cell? ⟨b, off + j * 2 + 1, none⟩ = some (u1))) := Lib.hid (fun W h => ⟨h, (h.cell (p := ⟨b, _, none⟩) hb0).trans hc.1, (h.cell (p := ⟨b, _, none⟩) hb0).trans hc.2⟩)
      have hw0 : Below wr.heap.size wr wr := Below.refl _ _
      have hbd : Below wr.heap.size wr wr.drew := hw0.drew
      have HBl := Lib.hid hbel
      clear hbel hc
      have g1 : (0 : Int) ≤ (j : Int) := by omega
      have g2 : (j : Int) < (d.length : Int) := by omega
      have HT1 : Hid (∀ (X : World) (q : Int), q = ((k + c : Nat) : Int) → Below wr.heap.size wr X → Calls Tryz.prog 52 #[.int .i64 q] X fun e w' => e = .returned (.string (mkT (k + c))) ∧ Below wr.heap.size wr w') := Lib.hid (fun X q e h => (HTx.out X (k + c) q e (by omega) (by omega)).mono fun _ _ z => ⟨z.1, h.trans (z.2.mono h.size)⟩)
      have hkk : ((mkT (k + c)).toList == (mkT (k + c)).toList) = true := by simp
      generalize mkT (k + c) = A0 at *
      go_wp2_with fail
      go_region_held3 (fun W => Below wr.heap.size wr W ∧ W.cell? ⟨b, off + j * 2, none⟩ = some (.string A0) ∧ W.cell? ⟨b, off + j * 2 + 1, none⟩ = some (u1))
        (exact SK.out _ (by assumption))
        (first | (go_at_call 52; refine (HT1.out _ _ (by omega) (by assumption)).mono ?_; rintro e X1 ⟨rfl, hx1⟩) | (fail "none"))
      clear HT1 hkk
      have HN := Lib.hid (HM1.out X1 u1 a1 (k + c + 1) _ rfl (HQ1.out.frame (Same.of_below' hx1)) hl1 hz1 (by omega) (by rw [Hm1.out]; omega))
      rw [Hm1.out] at HN
      obtain ⟨_, c0, c1⟩ := SK.out X1 hx1
      have hq : ¬ ((k + c + 1 + m1 : Nat) : Int) < 0 := by omega
      obtain ⟨p1, n1, j1, rfl⟩ : ∃ p n j, u1 = .slice p n j := by obtain ⟨p, j, z⟩ := HQ1.out.sl; exact ⟨p, _, j, z⟩
      go_wp2_with fail
      refine (calls_int HN.out (by omega)).mono ?_
      rintro e X2 ⟨rfl, hb⟩
      have hx2 := hx1.trans (hb.mono hx1.size)
      clear HN hb c0 c1
      go_wp2
      go_roundw
      case rel => exact ⟨j + 1, by omega, by go_num, by rw [HCs.out, HX.out, hct]; first | (congr 1; done) | (congr 1; omega), HBl.out.trans (hx2.mono HBl.out.size)⟩
      case measure => simp [intOf]; omega
    · have e : j = d.length := by omega
      subst e
      have hce : cntL attrE (d.take d.length) = cntL attrE d := by rw [List.take_length]
      rw [hce]
      go_wp2
      go_ret
      exact ⟨rfl, hbel⟩
end Go.Proofs.YtmanlnlhpgdbpaaGreat
/- The helpers of the laws: marks asked. -/
namespace Go.Proofs.YtmanlnlhpgdbpaaGreat
open Go.RowKit
attribute [local go_sem ↓] Go.wp_at_zero Go.wp_at_succ

end Go.Proofs.YtmanlnlhpgdbpaaGreat
