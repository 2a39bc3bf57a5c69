/- Merged texts: markTlvsOutV, heldTlv, heldTlvsOutV, eqTlv, eqTlvsOut, BerAllW, Opn. -/
import Derived.Test.YtohcdpoffpnfhaaM3
import Derived.Test.YtohcdpoffpnfhaaM5
import Derived.SliceStrings
import Derived.Test.YtohcdpoffpnfhaaM2
import Derived.Test.YtohcdpoffpnfhaaRows
/- The helpers of the laws: marks. -/
namespace Go.Proofs.Ytohcdpoffpnfhaa
open Go.RowKit
attribute [local go_sem ↓] Go.wp_at_zero Go.wp_at_succ

set_option maxRecDepth 100000 in
set_option maxHeartbeats 4000000 in
theorem markTlvsOut_fl (a0 : (List TlvT)) (a1 : Int) (u0 : Value) (S0 : Bs) (k : Nat) (w : World) (q0 : SlOwn tlvE S0 w a0 u0) (l0 : a0.length ≤ 1048576) (z0 : szL tlvE a0 ≤ 1048576) (y0 : ∀ b, S0 b → b < w.heap.size) (hk1 : 0 < k) (hk2 : k + cntL tlvE a0 ≤ 1000000000) :
    Calls Try.prog 17 #[.agg #[u0, .int .i64 a1], .int .i64 k] w fun e w' => e = .returned (.int .i64 ((k + cntL tlvE a0 : Nat) : Int)) ∧ SlOwn tlvE S0 w' (mkAll tlvE (k) a0) u0 ∧ Turn (fun b => S0 b) w w' := by
  have C0 : Hid (∀ (X : World) (V : List TlvT) (m : Nat) (q : Int), q = (m : Int) → SlOwn tlvE S0 X V u0 → V.length ≤ 1048576 → szL tlvE V ≤ 1048576 → 0 < m → m + cntL tlvE V ≤ 1000000000 → Calls Try.prog 41 #[u0, .int .i64 q] X fun e w' => e = .returned (.int .i64 ((m + cntL tlvE V : Nat) : Int)) ∧ SlOwn tlvE S0 w' (mkAll tlvE m V) u0 ∧ Turn S0 X w') := Lib.hid (fun X V m q e h h0 hz h1 h2 => by subst e; exact markTlvS_at u0 V m X h h0 hz h1 h2)
  have Q0 := Lib.hid q0
  obtain ⟨o0, k0, rfl⟩ := q0.at.sl
  clear q0
  go_enter Try.func17, Try.ntmps17
  go_wp2_with fail
  refine calls_by (fun W => Below w.heap.size w W ∧ Blk W w.heap.size [.slice o0 a0.length k0, .int .i64 a1]) ⟨more' (Below.refl _ _) _, Blk.new _ _ _⟩ ?_
  rintro W0 ⟨b0, t0⟩
  have R0 := Lib.hid (Q0.out.frame (Same.of_below' b0)); clear Q0; have Q0 := R0; clear R0
  have T0 := Lib.hid t0; have M0 : Hid (Turn (fun b => S0 b) w W0) := Lib.hid (Turn.of_below b0); clear b0
  clear t0
  generalize hm0 : cntL tlvE a0 = m0 at *
  have Hm0 := Lib.hid hm0; clear hm0
  refine (C0.out W0 a0 (k) _ (by omega) Q0.out l0 z0 (by omega) (by rw [Hm0.out]; omega)).mono ?_
  rintro e W1 ⟨rfl, q0, ht⟩
  rw [Hm0.out]
  have R0 := Lib.hid q0
  have T1 := Lib.hid (show Blk W1 w.heap.size _ from by obtain ⟨T, h⟩ := T0.out; exact ⟨T, (ht.block _ T0.out.lt (fun r => by first | (have := y0 _ r; omega))).trans h⟩)
  have M1 := Lib.hid (M0.out.trans (ht.wide (fun z r => by simp [r])))
  clear ht T0 M0 Q0 q0
  have Q0 := R0; clear R0
  go_wp2
  go_ret
  have e0 := Hm0.out
  subst e0
  exact ⟨ret_int (by omega), Q0.out, M1.out⟩
end Go.Proofs.Ytohcdpoffpnfhaa
/- The helpers of the laws: marks asked. -/
namespace Go.Proofs.Ytohcdpoffpnfhaa
open Go.RowKit
attribute [local go_sem ↓] Go.wp_at_zero Go.wp_at_succ

set_option maxRecDepth 100000 in
set_option maxHeartbeats 4000000 in
theorem heldTlvS_at {S : Bs} (v : Value) (d : List TlvT) (k : Nat) (w : World) (h : SlAt tlvE S w (mkAll tlvE k d) v) (hl : d.length ≤ 1048576) (hz : szL tlvE d ≤ 1048576) (hk1 : 0 < k) (hk2 : k + cntL tlvE d ≤ 1000000000) :
    Calls Try.prog 42 #[v, .int .i64 k] w fun e w' => e = .returned (.int .i64 ((k + cntL tlvE d : Nat) : Int)) ∧ Below w.heap.size w w' := by
  obtain ⟨ao, cap, rfl⟩ := h.sl
  have hml := mkAll_length tlvE k d
  rw [hml]
  rw [hml] at h
  have HS := Lib.hid h; clear h
  have HTx : Hid (∀ (X : World) (m : Nat) (q : Int), q = (m : Int) → 0 < m → m ≤ 1000000000 → Calls Try.prog 56 #[.int .i64 q] X fun e w' => e = .returned (.string (mkT m)) ∧ Below X.heap.size X w') := Lib.hid (fun X m q e h1 h2 => by subst e; exact markText_any m X h1 h2)
  go_enter Try.func42, Try.ntmps42
  go_wp2
  go_loopw [1, 5] (fun t i wr => ∃ j : Nat, j ≤ d.length ∧ i = .int .i64 j ∧ t = .int .i64 ((k + cntL tlvE (d.take j) : Nat) : Int) ∧ Below w.heap.size w wr) (fun _ i _ => d.length - (intOf i).toNat)
  case atStart => exact ⟨0, Nat.zero_le _, rfl, by simp [cntL], Below.refl _ _⟩
  case round =>
    obtain ⟨j, hj, rfl, rfl, hbel⟩ := hrel
    have hcl := cntL_take_le tlvE d j
    by_cases hlt : j < d.length
    · obtain ⟨b, off, x0, x1, rfl, _, hb0, hx, hc, _⟩ := tlv_row (HS.out.frame (Same.of_below' hbel)) (k := j) (by rw [hml]; exact hlt)
      have HCs := Lib.hid (cntL_take tlvE d j hlt)
      have hcs : cntL tlvE (d.take j) + (tlvE).cnt d[j] ≤ cntL tlvE d := by have := cntL_take_le tlvE d (j + 1); rw [HCs.out] at this; exact this
      rw [mkAll_get tlvE k d j hlt] at hx
      rcases hd : d[j] with ⟨a0, a1⟩
      rw [hd] at hx hcs
      have HX := Lib.hid hd
      have hct : (tlvE).cnt (a0, a1) = 1 + (1) := rfl
      rw [hct] at hcs
      have hm : ((x0, x1) : TlvT) = (((k + cntL tlvE (d.take j) : Nat) : Int), mkT (k + cntL tlvE (d.take j) + 1)) := hx.symm.trans rfl
      simp only [Prod.mk.injEq] at hm
      obtain ⟨rfl, rfl⟩ := hm
      clear hx hd
      generalize hc' : cntL tlvE (d.take j) = c at *
      clear hc'
      have SK : Hid (∀ W : World, Below wr.heap.size wr W → (Below wr.heap.size wr W ∧ W.cell? ⟨b, off + j * 2, none⟩ = some (.int .i64 ((k + c : Nat) : Int)) ∧ W.cell? ⟨b, off + j * 2 + 1, none⟩ = some (.string (mkT (k + c + 1))))) := Lib.hid (fun W h => ⟨h, (h.cell (p := ⟨b, _, none⟩) hb0).trans hc.1, (h.cell (p := ⟨b, _, none⟩) hb0).trans hc.2⟩)
      have hw0 : Below wr.heap.size wr wr := Below.refl _ _
      have hbd : Below wr.heap.size wr wr.drew := hw0.drew
      have HBl := Lib.hid hbel
      clear hbel hc
      have g1 : (0 : Int) ≤ (j : Int) := by omega
      have g2 : (j : Int) < (d.length : Int) := by omega
      obtain ⟨_, c0, c1⟩ := SK.out wr hw0
      have HT1 : Hid (∀ (X : World) (q : Int), q = ((k + c + 1 : Nat) : Int) → Below wr.heap.size wr X → Calls Try.prog 56 #[.int .i64 q] X fun e w' => e = .returned (.string (mkT (k + c + 1))) ∧ Below wr.heap.size wr w') := Lib.hid (fun X q e h => (HTx.out X (k + c + 1) q e (by omega) (by omega)).mono fun _ _ z => ⟨z.1, h.trans (z.2.mono h.size)⟩)
      have hkk : ((mkT (k + c + 1)).toList == (mkT (k + c + 1)).toList) = true := by simp
      generalize mkT (k + c + 1) = A1 at *
      go_wp2_with fail
      go_region_held3 (fun W => Below wr.heap.size wr W ∧ W.cell? ⟨b, off + j * 2, none⟩ = some (.int .i64 ((k + c : Nat) : Int)) ∧ W.cell? ⟨b, off + j * 2 + 1, none⟩ = some (.string A1))
        (exact SK.out _ (by assumption))
        (first | (go_at_call 56; refine (HT1.out _ _ (by omega) (by assumption)).mono ?_; rintro e X1 ⟨rfl, hx1⟩) | (fail "none"))
      clear HT1 hkk
      go_wp2
      go_roundw
      case rel => exact ⟨j + 1, by omega, by go_num, by rw [HCs.out, HX.out, hct]; first | (congr 1; done) | (congr 1; omega), HBl.out.trans (hx1.mono HBl.out.size)⟩
      case measure => simp [intOf]; omega
    · have e : j = d.length := by omega
      subst e
      have hce : cntL tlvE (d.take d.length) = cntL tlvE d := by rw [List.take_length]
      rw [hce]
      go_wp2
      go_ret
      exact ⟨rfl, hbel⟩
end Go.Proofs.Ytohcdpoffpnfhaa
/- The helpers of the laws: marks asked. -/
namespace Go.Proofs.Ytohcdpoffpnfhaa
open Go.RowKit
attribute [local go_sem ↓] Go.wp_at_zero Go.wp_at_succ

set_option maxRecDepth 100000 in
set_option maxHeartbeats 4000000 in
theorem heldTlvsOut_fl {S0 : Bs} (a0 : (List TlvT)) (a1 : Int) (u0 : Value) (k : Nat) (w : World) (q0 : SlAt tlvE S0 w (mkAll tlvE (k) a0) u0) (l0 : a0.length ≤ 1048576) (z0 : szL tlvE a0 ≤ 1048576) (hk1 : 0 < k) (hk2 : k + cntL tlvE a0 ≤ 1000000000) :
    Calls Try.prog 18 #[.agg #[u0, .int .i64 a1], .int .i64 k] w fun e w' => e = .returned (.int .i64 ((k + cntL tlvE a0 : Nat) : Int)) ∧ Below w.heap.size w w' := by
  have C0 : Hid (∀ (X : World) (q : Int), q = ((k : Nat) : Int) → Below w.heap.size w X → Calls Try.prog 42 #[u0, .int .i64 q] X fun e w' => e = .returned (.int .i64 ((k + cntL tlvE a0 : Nat) : Int)) ∧ Below X.heap.size X w') := Lib.hid (fun X q e h => by subst e; exact heldTlvS_at u0 a0 (k) X (q0.frame (Same.of_below' h)) l0 z0 (by omega) (by omega))
  obtain ⟨o0, k0, rfl⟩ := q0.sl
  rw [mkAll_length] at *
  clear q0
  generalize hm0 : cntL tlvE a0 = m0 at *
  have Hm0 := Lib.hid hm0; clear hm0
  go_enter Try.func18, Try.ntmps18
  go_wp2_with fail
  refine calls_by (fun W => Below w.heap.size w W ∧ Blk W w.heap.size [.slice o0 a0.length k0, .int .i64 a1]) ⟨more' (Below.refl _ _) _, Blk.new _ _ _⟩ ?_
  rintro W0 ⟨b0, t0⟩
  have T0 := Lib.hid t0; clear t0
  refine (C0.out W0 _ (by omega) b0).mono ?_
  rintro e W1 ⟨rfl, hb⟩
  have T1 := Lib.hid (T0.out.below hb); have b1 := b0.trans (hb.mono b0.size)
  have hq0 : ¬ ((k + m0 : Nat) : Int) < 0 := by omega
  clear hb b0 T0
  go_wp2
  go_ret
  have e0 := Hm0.out
  subst e0
  exact ⟨ret_int (by omega), b1⟩
end Go.Proofs.Ytohcdpoffpnfhaa
/- The helpers of the laws: comparisons. -/
namespace Go.Proofs.Ytohcdpoffpnfhaa
open Go.RowKit
attribute [local go_sem ↓] Go.wp_at_zero Go.wp_at_succ

set_option maxRecDepth 100000 in
set_option maxHeartbeats 4000000 in
theorem eqTlv_at  (w0 : World) (a0 : Int) (a1 : ByteArray)   (w : World) (hB : Below w0.heap.size w0 w)    :
    Calls Try.prog 38 #[.agg #[.int .i64 a0, .string a1], .agg #[.int .i64 a0, .string a1]] w fun e w' => e = .returned (.bool true) ∧ Below w0.heap.size w0 w' := by
  have hk0 : (a0 == a0) = true := by simp
  have hj0 : (a0 != a0) = false := by simp
  have hk1 : (a1.toList == a1.toList) = true := by simp
  have HB := Lib.hid hB
  clear hB
  go_enter Try.func38, Try.ntmps38
  go_wp2
  go_ret
  exact ⟨rfl, more' (more' HB.out _) _⟩
set_option maxRecDepth 100000 in
set_option maxHeartbeats 4000000 in
theorem eqTlvS_at {S S' : Bs} (v u : Value) (d : List TlvT) (w : World) (hd : SlAt tlvE S w d v) (hu : SlAt tlvE S' w d u) (hz : d.length + szL tlvE d ≤ 1048576) :
    Calls Try.prog 40 #[v, u] w fun e w' => e = .returned (.bool true) ∧ Below w.heap.size w w' := by
  obtain ⟨ao, ca, rfl⟩ := hd.sl
  obtain ⟨bo, cb, rfl⟩ := hu.sl
  have HA := Lib.hid hd; have HB := Lib.hid hu; clear hd hu
  have HL := Lib.hid hz
  have hl : d.length ≤ 1048576 := by omega
  clear hz
  go_enter Try.func40, Try.ntmps40
  go_wp2
  go_loopw [5] (fun i wr => ∃ k : Nat, k ≤ d.length ∧ i = .int .i64 k ∧ Below w.heap.size w wr) (fun i _ => d.length - (intOf i).toNat)
  case atStart => exact ⟨0, Nat.zero_le _, rfl, Below.refl _ _⟩
  case round =>
    obtain ⟨k, hk, rfl, hbel⟩ := hrel
    have hsz := hbel.size
    by_cases hlt : k < d.length
    · obtain ⟨p, off, a0, a1, rfl, _, hp0, hx, hc, _⟩ := tlv_row (HA.out.frame (Same.of_below' hbel)) hlt
      obtain ⟨q, off', x0, x1, rfl, _, hq0, hx', hd, _⟩ := tlv_row (HB.out.frame (Same.of_below' hbel)) hlt
      have hxx := hx.symm.trans hx'
      simp only [Prod.mk.injEq] at hxx
      obtain ⟨rfl, rfl⟩ := hxx
      have HZ : Hid (tlvE.sz (a0, a1) ≤ 1048576) := Lib.hid (by have h1 := szL_mem tlvE (List.getElem_mem hlt); rw [hx] at h1; have := HL.out; omega)
      clear hx hx'
      have C : Hid (∀ W : World, Below wr.heap.size wr W → Calls Try.prog 38 #[.agg #[.int .i64 a0, .string a1], .agg #[.int .i64 a0, .string a1]] W fun e w' => e = .returned (.bool true) ∧ Below wr.heap.size wr w') := Lib.hid (fun W b => eqTlv_at wr a0 a1 W b   )
      have SK : Hid (∀ W : World, Below wr.heap.size wr W → (Below wr.heap.size wr W ∧ (W.cell? ⟨p, off + k * 2, none⟩ = some (.int .i64 a0) ∧ W.cell? ⟨p, off + k * 2 + 1, none⟩ = some (.string a1)) ∧ (W.cell? ⟨q, off' + k * 2, none⟩ = some (.int .i64 a0) ∧ W.cell? ⟨q, off' + k * 2 + 1, none⟩ = some (.string a1)))) :=
        Lib.hid (fun W h => ⟨h, ⟨(h.cell (p := ⟨p, _, none⟩) hp0).trans hc.1, (h.cell (p := ⟨p, _, none⟩) hp0).trans hc.2⟩, ⟨(h.cell (p := ⟨q, _, none⟩) hq0).trans hd.1, (h.cell (p := ⟨q, _, none⟩) hq0).trans hd.2⟩⟩)
      have hbd : Below wr.heap.size wr wr.drew := (Below.refl _ _).drew
      have hb0 : Below wr.heap.size wr wr := Below.refl _ _
      have HBl := Lib.hid hbel
      clear hc hd hbel
      have g1 : (0 : Int) ≤ (k : Int) := by omega
      have g2 : (k : Int) < (d.length : Int) := by omega
      go_wp2_with fail
      go_region_held3 (fun W => Below wr.heap.size wr W ∧ (W.cell? ⟨p, off + k * 2, none⟩ = some (.int .i64 a0) ∧ W.cell? ⟨p, off + k * 2 + 1, none⟩ = some (.string a1)) ∧ (W.cell? ⟨q, off' + k * 2, none⟩ = some (.int .i64 a0) ∧ W.cell? ⟨q, off' + k * 2 + 1, none⟩ = some (.string a1)))
        (exact SK.out _ (by assumption))
        (first | (go_at_call 38; refine (C.out _ (by assumption)).mono ?_; rintro e w2 ⟨rfl, hb2⟩) | (fail "none"))
      all_goals
        go_wp2
        go_roundw
        case rel => exact ⟨k + 1, by omega, by go_num, HBl.out.trans (hb2.mono HBl.out.size)⟩
        case measure => simp [intOf]; omega
    · go_wp2
      go_ret
      exact ⟨rfl, hbel⟩
end Go.Proofs.Ytohcdpoffpnfhaa
/- The helpers of the laws: comparisons. -/
namespace Go.Proofs.Ytohcdpoffpnfhaa
open Go.RowKit
attribute [local go_sem ↓] Go.wp_at_zero Go.wp_at_succ

set_option maxRecDepth 100000 in
set_option maxHeartbeats 4000000 in
theorem eqTlvsOut_at {S S' : Bs} (w0 : World) (a0 : (List TlvT)) (a1 : Int) (v0 : Value) (u0 : Value) (w : World) (hB : Below w0.heap.size w0 w) (h0 : SlAt tlvE S w0 a0 v0) (g0 : SlAt tlvE S' w0 a0 u0) (hz : tlvsOutE.sz (a0, a1) ≤ 1048576) :
    Calls Try.prog 16 #[.agg #[v0, .int .i64 a1], .agg #[u0, .int .i64 a1]] w fun e w' => e = .returned (.bool true) ∧ Below w0.heap.size w0 w' := by
  have HE : tlvsOutE.sz (a0, a1) = (a0.length + szL tlvE a0) + (0) := rfl
  rw [HE] at hz
  have C0 : Hid (∀ W : World, Below w0.heap.size w0 W → Calls Try.prog 40 #[v0, u0] W fun e w' => e = .returned (.bool true) ∧ Below W.heap.size W w') := Lib.hid (fun W b => eqTlvS_at v0 u0 a0 W (h0.frame (Same.of_below' b)) (g0.frame (Same.of_below' b)) (by omega))
  have hk1 : (a1 == a1) = true := by simp
  have hj1 : (a1 != a1) = false := by simp
  obtain ⟨o0, k0, rfl⟩ := h0.sl
  obtain ⟨p0, j0, rfl⟩ := g0.sl
  clear hz HE h0 g0
  have HB := Lib.hid hB
  clear hB
  go_enter Try.func16, Try.ntmps16
  go_wp2_with fail
  refine calls_by (fun W => Below w0.heap.size w0 W ∧ Blk W w.heap.size [.slice o0 a0.length k0, .int .i64 a1] ∧ Blk W (w.heap.size + 1) [.slice p0 a0.length j0, .int .i64 a1]) ⟨more' (more' HB.out _) _, (Blk.new _ _ _).alloc _, blk_at _ _ _ (by simp)⟩ ?_
  rintro W1 ⟨b1, x1, y1⟩
  have X1 := Lib.hid x1; have Y1 := Lib.hid y1; clear x1 y1
  refine (C0.out W1 b1).mono ?_
  rintro e W2 ⟨rfl, hb⟩
  have X2 := Lib.hid (X1.out.below hb); have Y2 := Lib.hid (Y1.out.below hb); have b2 := b1.trans (hb.mono b1.size)
  clear X1 Y1 hb b1 C0
  have m0 := X2.out.cell 0 rfl
  have n0 := Y2.out.cell 0 rfl
  have m1 := X2.out.cell 1 rfl
  have n1 := Y2.out.cell 1 rfl
  go_wp2
  go_ret
  exact ⟨rfl, b2⟩
end Go.Proofs.Ytohcdpoffpnfhaa
/- The law FnExactBerAll: its walk. -/
namespace Go.Proofs.Ytohcdpoffpnfhaa
open Go.RowKit
attribute [local go_sem ↓] Go.wp_at_zero Go.wp_at_succ

set_option maxRecDepth 100000 in
set_option maxHeartbeats 4000000 in
theorem BerAll_walk (s0 : ByteArray) (w : World) (f0 : s0.size ≤ maxLen) :
    Calls Try.prog 5 #[.string s0] w fun e w' => e = .returned (.bool true) ∧ Below w.heap.size w w' := by
  have HSp : Hid (s0.size ≤ 1048576 → ∀ (Y : World), Calls Try.prog 14 #[.string s0] Y fun e w' => (∃ u900 : Value, e = .returned (.agg #[u900, .int .i64 (allV s0).2]) ∧ tlvsOutE.Own (Fresh Y w') w' (allV s0) [u900, .int .i64 (allV s0).2]) ∧ Below Y.heap.size Y w') := Lib.hid (fun z0 Y => SpecBerAll_own s0 Y z0)
  have HIm : Hid (s0.size ≤ 1048576 → ∀ (Y : World), Calls Try.prog 15 #[.string s0] Y fun e w' => (∃ u900 : Value, e = .returned (.agg #[u900, .int .i64 (allV s0).2]) ∧ tlvsOutE.Own (Fresh Y w') w' (allV s0) [u900, .int .i64 (allV s0).2]) ∧ Below Y.heap.size Y w') := Lib.hid (fun z0 Y => BerAll_own s0 Y z0)
  by_cases y0 : s0.size ≤ 1048576
  rotate_left
  · have y0' : (1048576 : Int) < (s0.size : Int) := by omega
    unfold maxLen at *
    go_enter Try.func5, Try.ntmps5
    go_wp2
    go_ret
    first | exact ⟨rfl, Below.refl _ _⟩ | exact ⟨rfl, more' (Below.refl _ _) _⟩ | exact ⟨rfl, more' (more' (Below.refl _ _) _) _⟩
  have y0' : ¬ (1048576 : Int) < (s0.size : Int) := by omega
  clear f0
  go_enter Try.func5, Try.ntmps5
  have B : Hid (Below w.heap.size w w) := Lib.hid (Below.refl _ _)
  have HS := Lib.hid (HSp.out y0); have HI := Lib.hid (HIm.out y0); clear HSp HIm
  have O0 := Lib.hid (B.out.size)
  have HRz : Hid (tlvsOutE.sz (allV s0) ≤ 1048576) := Lib.hid (allV_sz s0)
  generalize allV s0 = R at *
  obtain ⟨a900, a901⟩ := R
  try dsimp only at HS HI
  have HQR : Hid (∀ (Y : World) (S S' : Bs) (x900 u900 : Value), SlAt tlvE S Y a900 x900 → SlAt tlvE S' Y a900 u900 → Calls Try.prog 16 #[.agg #[x900, .int .i64 a901], .agg #[u900, .int .i64 a901]] Y fun e w' => e = .returned (.bool true) ∧ Below Y.heap.size Y w') := Lib.hid (fun Y S S' x900 u900 h900 k900 => eqTlvsOut_at Y a900 a901 x900 u900 Y (Below.refl _ _) h900 k900 HRz.out)
  go_wp2_with fail
  refine (HS.out _    ).mono ?_
  rintro e W1 ⟨⟨u900, rfl, q⟩, hb⟩
  have B1 := Lib.hid (B.out.trans (hb.mono B.out.size)); clear B; have B := B1; clear B1
  have O1 := Lib.hid (hb.size)
  have QRw := Lib.hid (tlvsOutE.ownAt q); clear q hb
  have Z := tlvsOut_atp QRw.out
  obtain ⟨pw900, cw900, rfl⟩ := Z.sl
  clear Z
  go_wp2_with fail
  refine calls_by (fun W => Below W1.heap.size W1 W ∧ Blk W W1.heap.size [.slice pw900 a900.length cw900, .int .i64 a901]) ⟨more' (Below.refl _ _) _, Blk.new _ _ _⟩ ?_
  rintro V1 ⟨hb, t⟩
  have P := Lib.hid (tlvsOutE.frame QRw.out (Same.of_below' hb)); clear QRw; have QRw := P; clear P
  have B1 := Lib.hid (B.out.trans (hb.mono B.out.size)); clear B; have B := B1; clear B1
  have O2 := Lib.hid (hb.size)
  clear hb
  have O3 := Lib.hid (t.lt)
  have HXw := Lib.hid t; clear t
  refine (HI.out _    ).mono ?_
  rintro e W2 ⟨⟨u900, rfl, q⟩, hb⟩
  have P := Lib.hid (tlvsOutE.frame QRw.out (Same.of_below' hb)); clear QRw; have QRw := P; clear P
  have P := Lib.hid (HXw.out.below hb); clear HXw; have HXw := P; clear P
  have B1 := Lib.hid (B.out.trans (hb.mono B.out.size)); clear B; have B := B1; clear B1
  have O4 := Lib.hid (hb.size)
  have OG := Lib.hid q; clear q hb
  have Z := tlvsOut_atp (tlvsOutE.ownAt OG.out)
  obtain ⟨pg900, cg900, rfl⟩ := Z.sl
  clear Z
  have bm0 := (HXw.out.alloc (.cells #[.slice pg900 a900.length cg900, .int .i64 a901] 33)).cell 0 rfl
  have bm1 := (HXw.out.alloc (.cells #[.slice pg900 a900.length cg900, .int .i64 a901] 33)).cell 1 rfl
  go_wp2_with fail
  clear bm0 bm1
  refine calls_by (fun W => Below W2.heap.size W2 W ∧ Blk W W2.heap.size [.slice pg900 a900.length cg900, .int .i64 a901]) ⟨more' (Below.refl _ _) _, Blk.new _ _ _⟩ ?_
  rintro V2 ⟨hb, t⟩
  have P := Lib.hid (tlvsOutE.frame QRw.out (Same.of_below' hb)); clear QRw; have QRw := P; clear P
  have P := Lib.hid (HXw.out.below hb); clear HXw; have HXw := P; clear P
  have P := Lib.hid (tlvsOutE.ownFrame OG.out (Same.of_below' hb)); clear OG; have OG := P; clear P
  have B1 := Lib.hid (B.out.trans (hb.mono B.out.size)); clear B; have B := B1; clear B1
  have O5 := Lib.hid (hb.size)
  clear hb
  have O6 := Lib.hid (t.lt)
  have HXg := Lib.hid t; clear t
  refine (HQR.out _ _ _ _ _ (tlvsOut_atp (tlvsOutE.ownAt OG.out)) (tlvsOut_atp QRw.out)).mono ?_
  rintro e W3 ⟨rfl, hb⟩
  have P := Lib.hid (tlvsOutE.frame QRw.out (Same.of_below' hb)); clear QRw; have QRw := P; clear P
  have P := Lib.hid (HXw.out.below hb); clear HXw; have HXw := P; clear P
  have P := Lib.hid (tlvsOutE.ownFrame OG.out (Same.of_below' hb)); clear OG; have OG := P; clear P
  have P := Lib.hid (HXg.out.below hb); clear HXg; have HXg := P; clear P
  have B1 := Lib.hid (B.out.trans (hb.mono B.out.size)); clear B; have B := B1; clear B1
  have O7 := Lib.hid (hb.size)
  clear hb
  have mz : (a900.length + szL tlvE a900) + (0) ≤ 1048576 := HRz.out
  have mc900 := cnt_fit (e := tlvE) a900 (by decide) (by omega)
  have HH : Hid (∀ (Y : World) (S0 : Bs), SlAt tlvE S0 Y (mkAll tlvE (1) a900) (.slice pg900 a900.length cg900) → Calls Try.prog 18 #[.agg #[.slice pg900 a900.length cg900, .int .i64 a901], .int .i64 1] Y fun e w' => e = .returned (.int .i64 ((1 + cntL tlvE a900 : Nat) : Int)) ∧ Below Y.heap.size Y w') := Lib.hid (fun Y S0 h0 => heldTlvsOut_fl a900 a901 _ 1 Y h0 (by omega) (by omega) (by omega) (by omega))
  have bm0 := HXw.out.cell 0 rfl
  have bm1 := HXw.out.cell 1 rfl
  have bm2 := HXg.out.cell 0 rfl
  have bm3 := HXg.out.cell 1 rfl
  go_wp2_with fail
  clear bm0 bm1 bm2 bm3
  obtain ⟨S0, q0, i0, _⟩ := tlvsOut_op OG.out
  refine (markTlvsOut_fl a900 a901 _ S0 1 _ q0 (by omega) (by omega)  (fun b h => by have := (i0 b h).2; have := O0.out; have := O1.out; have := O2.out; have := O3.out; have := O4.out; have := O5.out; have := O6.out; have := O7.out; omega) (by omega) (by omega)).mono ?_
  rintro e W4 ⟨rfl, r0, ht⟩
  have QM0 := Lib.hid (r0.at.wide i0)
  have ht := ht.wide (fun k z => by rcases z with z; exact i0 k z)
  have P := Lib.hid (tlvsOutE.frame QRw.out (ht.same (by rintro k ⟨z1, z2⟩ ⟨z3, z4⟩; have := O0.out; have := O1.out; have := O2.out; have := O3.out; have := O4.out; have := O5.out; have := O6.out; have := O7.out; omega))); clear QRw; have QRw := P; clear P
  have P := Lib.hid (HXw.out.turn ht (by rintro ⟨z3, z4⟩; have := O0.out; have := O1.out; have := O2.out; have := O3.out; have := O4.out; have := O5.out; have := O6.out; have := O7.out; omega)); clear HXw; have HXw := P; clear P
  have P := Lib.hid (HXg.out.turn ht (by rintro ⟨z3, z4⟩; have := O0.out; have := O1.out; have := O2.out; have := O3.out; have := O4.out; have := O5.out; have := O6.out; have := O7.out; omega)); clear HXg; have HXg := P; clear P
  have B1 := Lib.hid (ht.below B.out (by rintro k ⟨z3, z4⟩; have := O0.out; have := O1.out; have := O2.out; have := O3.out; have := O4.out; have := O5.out; have := O6.out; have := O7.out; omega)); clear B; have B := B1; clear B1
  have O8 := Lib.hid (ht.size)
  clear OG ht q0 i0 r0 
  have hq1 : ¬ ((1 + cntL tlvE a900 : Nat) : Int) < 0 := by omega
  generalize ((1 + cntL tlvE a900 : Nat) : Int) = Q at *
  have hq2 : (Q != Q) = false := by simp
  clear mz mc900
  have bm0 := HXw.out.cell 0 rfl
  have bm1 := HXw.out.cell 1 rfl
  have bm2 := HXg.out.cell 0 rfl
  have bm3 := HXg.out.cell 1 rfl
  go_wp2_with fail
  clear bm0 bm1 bm2 bm3
  refine (HH.out _ _ QM0.out).mono ?_
  rintro e W5 ⟨rfl, hb⟩
  have P := Lib.hid (tlvsOutE.frame QRw.out (Same.of_below' hb)); clear QRw; have QRw := P; clear P
  have P := Lib.hid (HXw.out.below hb); clear HXw; have HXw := P; clear P
  have P := Lib.hid (HXg.out.below hb); clear HXg; have HXg := P; clear P
  have P := Lib.hid (QM0.out.frame (Same.of_below' hb)); clear QM0; have QM0 := P; clear P
  have B1 := Lib.hid (B.out.trans (hb.mono B.out.size)); clear B; have B := B1; clear B1
  have O9 := Lib.hid (hb.size)
  clear hb
  have bm0 := HXw.out.cell 0 rfl
  have bm1 := HXw.out.cell 1 rfl
  have bm2 := HXg.out.cell 0 rfl
  have bm3 := HXg.out.cell 1 rfl
  go_wp2_with fail
  clear bm0 bm1 bm2 bm3
  refine (HI.out _    ).mono ?_
  rintro e W6 ⟨⟨u900, rfl, q⟩, hb⟩
  have P := Lib.hid (tlvsOutE.frame QRw.out (Same.of_below' hb)); clear QRw; have QRw := P; clear P
  have P := Lib.hid (HXw.out.below hb); clear HXw; have HXw := P; clear P
  have P := Lib.hid (HXg.out.below hb); clear HXg; have HXg := P; clear P
  have P := Lib.hid (QM0.out.frame (Same.of_below' hb)); clear QM0; have QM0 := P; clear P
  have B1 := Lib.hid (B.out.trans (hb.mono B.out.size)); clear B; have B := B1; clear B1
  have O10 := Lib.hid (hb.size)
  have QRh := Lib.hid (tlvsOutE.ownAt q); clear q hb
  have Z := tlvsOut_atp QRh.out
  obtain ⟨ph900, ch900, rfl⟩ := Z.sl
  clear Z
  have bm0 := (HXw.out.alloc (.cells #[.slice ph900 a900.length ch900, .int .i64 a901] 33)).cell 0 rfl
  have bm1 := (HXw.out.alloc (.cells #[.slice ph900 a900.length ch900, .int .i64 a901] 33)).cell 1 rfl
  have bm2 := (HXg.out.alloc (.cells #[.slice ph900 a900.length ch900, .int .i64 a901] 33)).cell 0 rfl
  have bm3 := (HXg.out.alloc (.cells #[.slice ph900 a900.length ch900, .int .i64 a901] 33)).cell 1 rfl
  go_wp2_with fail
  clear bm0 bm1 bm2 bm3
  refine calls_by (fun W => Below W6.heap.size W6 W ∧ Blk W W6.heap.size [.slice ph900 a900.length ch900, .int .i64 a901]) ⟨more' (Below.refl _ _) _, Blk.new _ _ _⟩ ?_
  rintro V6 ⟨hb, t⟩
  have P := Lib.hid (tlvsOutE.frame QRw.out (Same.of_below' hb)); clear QRw; have QRw := P; clear P
  have P := Lib.hid (HXw.out.below hb); clear HXw; have HXw := P; clear P
  have P := Lib.hid (HXg.out.below hb); clear HXg; have HXg := P; clear P
  have P := Lib.hid (QM0.out.frame (Same.of_below' hb)); clear QM0; have QM0 := P; clear P
  have P := Lib.hid (tlvsOutE.frame QRh.out (Same.of_below' hb)); clear QRh; have QRh := P; clear P
  have B1 := Lib.hid (B.out.trans (hb.mono B.out.size)); clear B; have B := B1; clear B1
  have O11 := Lib.hid (hb.size)
  clear hb
  have O12 := Lib.hid (t.lt)
  have HXh := Lib.hid t; clear t
  refine (HQR.out _ _ _ _ _ (tlvsOut_atp QRh.out) (tlvsOut_atp QRw.out)).mono ?_
  rintro e W7 ⟨rfl, hb⟩
  have P := Lib.hid (tlvsOutE.frame QRw.out (Same.of_below' hb)); clear QRw; have QRw := P; clear P
  have P := Lib.hid (HXw.out.below hb); clear HXw; have HXw := P; clear P
  have P := Lib.hid (HXg.out.below hb); clear HXg; have HXg := P; clear P
  have P := Lib.hid (QM0.out.frame (Same.of_below' hb)); clear QM0; have QM0 := P; clear P
  have P := Lib.hid (tlvsOutE.frame QRh.out (Same.of_below' hb)); clear QRh; have QRh := P; clear P
  have P := Lib.hid (HXh.out.below hb); clear HXh; have HXh := P; clear P
  have B1 := Lib.hid (B.out.trans (hb.mono B.out.size)); clear B; have B := B1; clear B1
  have O13 := Lib.hid (hb.size)
  clear hb
  have bm0 := HXw.out.cell 0 rfl
  have bm1 := HXw.out.cell 1 rfl
  have bm2 := HXg.out.cell 0 rfl
  have bm3 := HXg.out.cell 1 rfl
  have bm4 := HXh.out.cell 0 rfl
  have bm5 := HXh.out.cell 1 rfl
  go_wp2_with fail
  clear bm0 bm1 bm2 bm3 bm4 bm5
  refine (HH.out _ _ QM0.out).mono ?_
  rintro e W8 ⟨rfl, hb⟩
  have P := Lib.hid (tlvsOutE.frame QRw.out (Same.of_below' hb)); clear QRw; have QRw := P; clear P
  have P := Lib.hid (HXw.out.below hb); clear HXw; have HXw := P; clear P
  have P := Lib.hid (HXg.out.below hb); clear HXg; have HXg := P; clear P
  have P := Lib.hid (QM0.out.frame (Same.of_below' hb)); clear QM0; have QM0 := P; clear P
  have P := Lib.hid (tlvsOutE.frame QRh.out (Same.of_below' hb)); clear QRh; have QRh := P; clear P
  have P := Lib.hid (HXh.out.below hb); clear HXh; have HXh := P; clear P
  have B1 := Lib.hid (B.out.trans (hb.mono B.out.size)); clear B; have B := B1; clear B1
  have O14 := Lib.hid (hb.size)
  clear hb
  go_wp2
  go_ret
  exact ⟨rfl, B.out⟩
end Go.Proofs.Ytohcdpoffpnfhaa
/- Arguments of the laws: where they lie. -/
namespace Go.Proofs.Ytohcdpoffpnfhaa
open Go.RowKit

open Go.ChangeShapes Go.WideShapes Go.Joins Go.Deep
theorem opn_str : Opens Try.prog 9 strE := opens_str Try.underlying9
theorem Try.cellStr : Try.prog.cellsOf 9 = strE.n := by kernel_rfl
theorem opn_int : Opens Try.prog 2 intE := opens_int Try.underlying2
theorem opn_strS : Opens Try.prog 72 (slE strE) := opens_sl Try.underlying72 Try.cellStr (by decide) opn_str
end Go.Proofs.Ytohcdpoffpnfhaa
