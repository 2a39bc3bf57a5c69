/- Merged texts: heldEntry, PageOfW, Opn. -/
import Derived.Test.YtlgafmgohinkbaaM2
import Derived.Test.YtlgafmgohinkbaaM4
import Derived.SliceStrings
import Derived.Test.YtlgafmgohinkbaaM8
import Derived.Test.YtlgafmgohinkbaaM1
import Derived.Test.YtlgafmgohinkbaaM5
import Derived.Test.YtlgafmgohinkbaaM7
import Derived.Test.YtlgafmgohinkbaaRows
/- The helpers of the laws: marks asked. -/
namespace Go.Proofs.Ytlgafmgohinkbaa
open Go.RowKit
attribute [local go_sem ↓] Go.wp_at_zero Go.wp_at_succ

set_option maxRecDepth 100000 in
set_option maxHeartbeats 4000000 in
theorem heldEntryS_at {S : Bs} (v : Value) (d : List EntryT) (k : Nat) (w : World) (h : SlAt entryE S w (mkAll entryE k d) v) (hl : d.length ≤ 1048576) (hz : szL entryE d ≤ 1048576) (hk1 : 0 < k) (hk2 : k + cntL entryE d ≤ 1000000000) :
    Calls Try.prog 33 #[v, .int .i64 k] w fun e w' => e = .returned (.int .i64 ((k + cntL entryE d : Nat) : Int)) ∧ Below w.heap.size w w' := by
  obtain ⟨ao, cap, rfl⟩ := h.sl
  have hml := mkAll_length entryE k d
  rw [hml]
  rw [hml] at h
  have HS := Lib.hid h; clear h
  have HTx : Hid (∀ (X : World) (m : Nat) (q : Int), q = (m : Int) → 0 < m → m ≤ 1000000000 → Calls Try.prog 80 #[.int .i64 q] X fun e w' => e = .returned (.string (mkT m)) ∧ Below X.heap.size X w') := Lib.hid (fun X m q e h1 h2 => by subst e; exact markText_any m X h1 h2)
  have HM0 : Hid (∀ (X : World) (u : Value) (V : List RdnT) (m : Nat) (q : Int), q = (m : Int) → SlAt rdnE S X (mkAll rdnE m V) u → V.length ≤ 1048576 → szL rdnE V ≤ 1048576 → 0 < m → m + cntL rdnE V ≤ 1000000000 → Calls Try.prog 96 #[u, .int .i64 q] X fun e w' => e = .returned (.int .i64 ((m + cntL rdnE V : Nat) : Int)) ∧ Below X.heap.size X w') := Lib.hid (fun X u V m q e h h0 hz h1 h2 => by subst e; exact heldRdnS_at u V m X h h0 hz h1 h2)
  have HM1 : Hid (∀ (X : World) (u : Value) (V : List AttrT) (m : Nat) (q : Int), q = (m : Int) → SlAt attrE S X (mkAll attrE m V) u → V.length ≤ 1048576 → szL attrE V ≤ 1048576 → 0 < m → m + cntL attrE V ≤ 1000000000 → Calls Try.prog 97 #[u, .int .i64 q] X fun e w' => e = .returned (.int .i64 ((m + cntL attrE V : Nat) : Int)) ∧ Below X.heap.size X w') := Lib.hid (fun X u V m q e h h0 hz h1 h2 => by subst e; exact heldAttrS_at u V m X h h0 hz h1 h2)
  go_enter Try.func33, Try.ntmps33
  go_wp2
  go_loopw [1, 5] (fun t i wr => ∃ j : Nat, j ≤ d.length ∧ i = .int .i64 j ∧ t = .int .i64 ((k + cntL entryE (d.take j) : Nat) : Int) ∧ Below w.heap.size w wr) (fun _ i _ => d.length - (intOf i).toNat)
  case atStart => exact ⟨0, Nat.zero_le _, rfl, by simp [cntL], Below.refl _ _⟩
  case round =>
    obtain ⟨j, hj, rfl, rfl, hbel⟩ := hrel
    have hcl := cntL_take_le entryE d j
    by_cases hlt : j < d.length
    · obtain ⟨b, off, x0, x1, u0, u1, rfl, _, hb0, hx, hc, q0, q1, _⟩ := entry_row (HS.out.frame (Same.of_below' hbel)) (k := j) (by rw [hml]; exact hlt)
      have HCs := Lib.hid (cntL_take entryE d j hlt)
      have hcs : cntL entryE (d.take j) + (entryE).cnt d[j] ≤ cntL entryE d := by have := cntL_take_le entryE d (j + 1); rw [HCs.out] at this; exact this
      rw [mkAll_get entryE k d j hlt] at hx
      rcases hd : d[j] with ⟨a0, a1⟩
      rw [hd] at hx hcs
      have HX := Lib.hid hd
      have hct : (entryE).cnt (a0, a1) = cntL rdnE a0 + (cntL attrE a1) := rfl
      rw [hct] at hcs
      have hl0 : a0.length ≤ 1048576 := by have := szL_mem entryE (List.getElem_mem hlt); rw [hd] at this; have h2 : (entryE).sz (a0, a1) = (a0.length + szL rdnE a0) + ((a1.length + szL attrE a1)) := rfl; rw [h2] at this; omega
      have hz0 : szL rdnE a0 ≤ 1048576 := by have := szL_mem entryE (List.getElem_mem hlt); rw [hd] at this; have h2 : (entryE).sz (a0, a1) = (a0.length + szL rdnE a0) + ((a1.length + szL attrE a1)) := rfl; rw [h2] at this; omega
      have hl1 : a1.length ≤ 1048576 := by have := szL_mem entryE (List.getElem_mem hlt); rw [hd] at this; have h2 : (entryE).sz (a0, a1) = (a0.length + szL rdnE a0) + ((a1.length + szL attrE a1)) := rfl; rw [h2] at this; omega
      have hz1 : szL attrE a1 ≤ 1048576 := by have := szL_mem entryE (List.getElem_mem hlt); rw [hd] at this; have h2 : (entryE).sz (a0, a1) = (a0.length + szL rdnE a0) + ((a1.length + szL attrE a1)) := rfl; rw [h2] at this; omega
      have hm : ((x0, x1) : EntryT) = (mkAll rdnE (k + cntL entryE (d.take j)) a0, mkAll attrE (k + cntL entryE (d.take j) + cntL rdnE a0) a1) := hx.symm.trans rfl
      simp only [Prod.mk.injEq] at hm
      obtain ⟨rfl, rfl⟩ := hm
      clear hx hd
      have HQ0 := Lib.hid q0; clear q0
      have HQ1 := Lib.hid q1; clear q1
      generalize hc' : cntL entryE (d.take j) = c at *
      clear hc'
      generalize hm0 : cntL rdnE a0 = m0 at *
      have Hm0 := Lib.hid hm0; clear hm0
      generalize hm1 : cntL attrE a1 = m1 at *
      have Hm1 := Lib.hid hm1; clear hm1
      have SK : Hid (∀ W : World, Below wr.heap.size wr W → (Below wr.heap.size wr W ∧ W.cell? ⟨b, off + j * 2, none⟩ = some (u0) ∧ W.cell? ⟨b, off + j * 2 + 1, none⟩ = some (u1))) := Lib.hid (fun W h => ⟨h, (h.cell (p := ⟨b, _, none⟩) hb0).trans hc.1, (h.cell (p := ⟨b, _, none⟩) hb0).trans hc.2⟩)
      have hw0 : Below wr.heap.size wr wr := Below.refl _ _
      have hbd : Below wr.heap.size wr wr.drew := hw0.drew
      have HBl := Lib.hid hbel
      clear hbel hc
      have g1 : (0 : Int) ≤ (j : Int) := by omega
      have g2 : (j : Int) < (d.length : Int) := by omega
      have HN := Lib.hid (HM0.out wr u0 a0 (k + c) _ rfl (HQ0.out.frame (Same.of_below' hw0)) hl0 hz0 (by omega) (by rw [Hm0.out]; omega))
      rw [Hm0.out] at HN
      obtain ⟨_, c0, c1⟩ := SK.out wr hw0
      have hq : ¬ ((k + c + m0 : Nat) : Int) < 0 := by omega
      obtain ⟨p0, n0, j0, rfl⟩ : ∃ p n j, u0 = .slice p n j := by obtain ⟨p, j, z⟩ := HQ0.out.sl; exact ⟨p, _, j, z⟩
      go_wp2_with fail
      refine (calls_int HN.out (by omega)).mono ?_
      rintro e X1 ⟨rfl, hb⟩
      have hx1 := hw0.trans (hb.mono hw0.size)
      clear HN hb c0 c1
      have HN := Lib.hid (HM1.out X1 u1 a1 (k + c + m0) _ rfl (HQ1.out.frame (Same.of_below' hx1)) hl1 hz1 (by omega) (by rw [Hm1.out]; omega))
      rw [Hm1.out] at HN
      obtain ⟨_, c0, c1⟩ := SK.out X1 hx1
      have hq : ¬ ((k + c + m0 + m1 : Nat) : Int) < 0 := by omega
      obtain ⟨p1, n1, j1, rfl⟩ : ∃ p n j, u1 = .slice p n j := by obtain ⟨p, j, z⟩ := HQ1.out.sl; exact ⟨p, _, j, z⟩
      go_wp2_with fail
      refine (calls_int HN.out (by omega)).mono ?_
      rintro e X2 ⟨rfl, hb⟩
      have hx2 := hx1.trans (hb.mono hx1.size)
      clear HN hb c0 c1
      go_wp2
      go_roundw
      case rel => exact ⟨j + 1, by omega, by go_num, by rw [HCs.out, HX.out, hct]; first | (congr 1; done) | (congr 1; omega), HBl.out.trans (hx2.mono HBl.out.size)⟩
      case measure => simp [intOf]; omega
    · have e : j = d.length := by omega
      subst e
      have hce : cntL entryE (d.take d.length) = cntL entryE d := by rw [List.take_length]
      rw [hce]
      go_wp2
      go_ret
      exact ⟨rfl, hbel⟩
end Go.Proofs.Ytlgafmgohinkbaa
/- The law FnExactPageOf: its walk. -/
namespace Go.Proofs.Ytlgafmgohinkbaa
open Go.RowKit
attribute [local go_sem ↓] Go.wp_at_zero Go.wp_at_succ

set_option maxRecDepth 100000 in
set_option maxHeartbeats 4000000 in
theorem PageOf_walk (v0 : Value) (d0 : List EntryT) (n1 : Int) (n2 : Int) (w : World) (h0 : SlAt entryE (All w) w d0 v0) (f0 : (slE entryE).long d0) (f1 : -9223372036854775808 ≤ n1 ∧ n1 ≤ 9223372036854775807) (f2 : -9223372036854775808 ≤ n2 ∧ n2 ≤ 9223372036854775807) :
    Calls Try.prog 6 #[v0, .int .i64 n1, .int .i64 n2] w fun e w' => e = .returned (.bool true) ∧ Below w.heap.size w w' := by
  have HQ0 : Hid (d0.length + szL entryE d0 ≤ 1048576 → ∀ (Y : World) (S S' : Bs) (x u : Value), SlAt entryE S Y d0 x → SlAt entryE S' Y d0 u → Calls Try.prog 31 #[x, u] Y fun e w' => e = .returned (.bool true) ∧ Below Y.heap.size Y w') := Lib.hid (fun z Y S S' x u h1 h2 => eqEntryS_at x u d0 Y h1 h2 z)
  have HS0 : Hid (∀ (l : Int) (W : World), Below w.heap.size w W → 0 ≤ l → l ≤ 1048576 → Calls Try.prog 27 #[v0, .int .i64 l] W fun e w' => e = .returned (.int .i64 (leftR (d0.length + szL entryE d0) l)) ∧ Below W.heap.size W w') := Lib.hid (fun l W b p q => szEntryS_at v0 d0 l W (h0.frame (Same.of_below' b)) f0 p q)
  have HT0 : Hid (d0.length + szL entryE d0 ≤ 1048576 → ∀ Y : World, Below w.heap.size w Y → Calls Try.prog 29 #[v0] Y fun e w' => ∃ u, e = .returned u ∧ SlOwn entryE (Fresh Y w') w' d0 u ∧ Below Y.heap.size Y w') := Lib.hid (fun z Y b => toEntryS_at v0 d0 Y (h0.frame (Same.of_below' b)) z)
  have HSp : Hid (d0.length + szL entryE d0 ≤ 1048576 → ∀ (Y : World) (S0 : Bs) (u0 : Value), SlAt entryE S0 Y d0 u0 → Calls Try.prog 28 #[u0, .int .i64 n1, .int .i64 n2] Y fun e w' => (∃ u9 : Value, e = .returned u9 ∧ SlOwn entryE (Fresh Y w') w' (pageR d0 n1 n2) u9) ∧ Below Y.heap.size Y w') := Lib.hid (fun z0 Y S0 u0 h0 => SpecPageOf_any u0 d0 n1 n2 Y h0 z0 f1)
  have HIm : Hid (d0.length + szL entryE d0 ≤ 1048576 → ∀ (Y : World) (S0 : Bs) (u0 : Value), SlAt entryE S0 Y d0 u0 → Calls Try.prog 30 #[u0, .int .i64 n1, .int .i64 n2] Y fun e w' => (∃ u9 : Value, e = .returned u9 ∧ SlOwn entryE (Fresh Y w') w' (pageR d0 n1 n2) u9) ∧ Below Y.heap.size Y w') := Lib.hid (fun z0 Y S0 u0 h0 => PageOf_any u0 d0 n1 n2 Y h0 z0)
  obtain ⟨o0, k0, rfl⟩ := h0.sl
  clear h0 f0
  go_enter Try.func6, Try.ntmps6
  have B : Hid (Below w.heap.size w w) := Lib.hid (Below.refl _ _)
  go_wp2_with fail
  refine (HS0.out (1048576) w B.out (by omega) (by omega)).mono ?_
  rintro e W1 ⟨rfl, hb⟩
  have B1 := Lib.hid (B.out.trans (hb.mono B.out.size)); clear B; have B := B1; clear B1
  have O0 := Lib.hid (hb.size)
  clear hb HS0
  by_cases g0 : ((d0.length + szL entryE d0 : Nat) : Int) ≤ 1048576
  rotate_left
  · rw [leftR_neg g0]
    clear g0
    go_wp2
    go_ret
    exact ⟨rfl, B.out⟩
  rw [leftR_pos g0]
  have HZ0 : Hid (d0.length + szL entryE d0 ≤ 1048576) := Lib.hid (by omega)
  have p0 : (0 : Int) ≤ ((d0.length + szL entryE d0 : Nat) : Int) := by omega
  have c0 : ¬ 1048576 - ((d0.length + szL entryE d0 : Nat) : Int) < 0 := by omega
  generalize ((d0.length + szL entryE d0 : Nat) : Int) = t0 at *
  have HT := Lib.hid (HT0.out HZ0.out); clear HT0; have HT0 := HT; clear HT
  have HQ := Lib.hid (HQ0.out HZ0.out); clear HQ0; have HQ0 := HQ; clear HQ
  have HS := Lib.hid (HSp.out HZ0.out); have HI := Lib.hid (HIm.out HZ0.out); clear HSp HIm
  have O1 := Lib.hid (B.out.size)
  have HRz : Hid ((pageR d0 n1 n2).length + szL entryE (pageR d0 n1 n2) ≤ 1048576) := Lib.hid (Nat.le_trans (pageR_sz d0 n1 n2) HZ0.out)
  generalize pageR d0 n1 n2 = R at *
  have HQR : Hid (∀ (Y : World) (S S' : Bs) (x u : Value), SlAt entryE S Y R x → SlAt entryE S' Y R u → Calls Try.prog 31 #[x, u] Y fun e w' => e = .returned (.bool true) ∧ Below Y.heap.size Y w') := Lib.hid (fun Y S S' x u h1 h2 => eqEntryS_at x u R Y h1 h2 HRz.out)
  go_wp2_with fail
  refine (HT0.out _ B.out).mono ?_
  rintro e W2 ⟨x0, rfl, q, hb⟩
  have B1 := Lib.hid (B.out.trans (hb.mono B.out.size)); clear B; have B := B1; clear B1
  have O2 := Lib.hid (hb.size)
  have Qx0 := Lib.hid q.at; clear q hb
  obtain ⟨px0, cx0, rfl⟩ := Qx0.out.sl
  go_wp2_with fail
  refine (HS.out _ _ _ Qx0.out).mono ?_
  rintro e W3 ⟨⟨u9, rfl, q⟩, hb⟩
  clear Qx0
  have B1 := Lib.hid (B.out.trans (hb.mono B.out.size)); clear B; have B := B1; clear B1
  have O3 := Lib.hid (hb.size)
  have Qw := Lib.hid q; clear q hb
  obtain ⟨pw, cw, rfl⟩ := Qw.out.at.sl
  go_wp2_with fail
  refine (HT0.out _ B.out).mono ?_
  rintro e W4 ⟨y0, rfl, q, hb⟩
  have P := Lib.hid (Qw.out.frame (Same.of_below' hb)); clear Qw; have Qw := P; clear P
  have B1 := Lib.hid (B.out.trans (hb.mono B.out.size)); clear B; have B := B1; clear B1
  have O4 := Lib.hid (hb.size)
  have Qy0 := Lib.hid q.at; have OY0 := Lib.hid q; clear q hb
  obtain ⟨py0, cy0, rfl⟩ := Qy0.out.sl
  go_wp2_with fail
  refine (HI.out _ _ _ Qy0.out).mono ?_
  rintro e W5 ⟨⟨u9, rfl, q⟩, hb⟩
  have P := Lib.hid (Qw.out.frame (Same.of_below' hb)); clear Qw; have Qw := P; clear P
  have P := Lib.hid (Qy0.out.frame (Same.of_below' hb)); clear Qy0; have Qy0 := P; clear P
  have P := Lib.hid (OY0.out.frame (Same.of_below' hb)); clear OY0; have OY0 := P; clear P
  have B1 := Lib.hid (B.out.trans (hb.mono B.out.size)); clear B; have B := B1; clear B1
  have O5 := Lib.hid (hb.size)
  have Qg := Lib.hid q; clear q hb
  obtain ⟨pg, cg, rfl⟩ := Qg.out.at.sl
  go_wp2_with fail
  refine (HQR.out _ _ _ _ _ Qg.out.at Qw.out.at).mono ?_
  rintro e W6 ⟨rfl, hb⟩
  have P := Lib.hid (Qw.out.frame (Same.of_below' hb)); clear Qw; have Qw := P; clear P
  have P := Lib.hid (Qy0.out.frame (Same.of_below' hb)); clear Qy0; have Qy0 := P; clear P
  have P := Lib.hid (OY0.out.frame (Same.of_below' hb)); clear OY0; have OY0 := P; clear P
  have P := Lib.hid (Qg.out.frame (Same.of_below' hb)); clear Qg; have Qg := P; clear P
  have B1 := Lib.hid (B.out.trans (hb.mono B.out.size)); clear B; have B := B1; clear B1
  have O6 := Lib.hid (hb.size)
  clear hb
  go_wp2_with fail
  refine (HT0.out _ B.out).mono ?_
  rintro e W7 ⟨z0, rfl, q, hb⟩
  have P := Lib.hid (Qw.out.frame (Same.of_below' hb)); clear Qw; have Qw := P; clear P
  have P := Lib.hid (Qy0.out.frame (Same.of_below' hb)); clear Qy0; have Qy0 := P; clear P
  have P := Lib.hid (OY0.out.frame (Same.of_below' hb)); clear OY0; have OY0 := P; clear P
  have P := Lib.hid (Qg.out.frame (Same.of_below' hb)); clear Qg; have Qg := P; clear P
  have B1 := Lib.hid (B.out.trans (hb.mono B.out.size)); clear B; have B := B1; clear B1
  have O7 := Lib.hid (hb.size)
  have Qz0 := Lib.hid q.at; clear q hb
  obtain ⟨pz0, cz0, rfl⟩ := Qz0.out.sl
  go_wp2_with fail
  refine (HQ0.out _ _ _ _ _ Qy0.out Qz0.out).mono ?_
  rintro e W8 ⟨rfl, hb⟩
  have P := Lib.hid (Qw.out.frame (Same.of_below' hb)); clear Qw; have Qw := P; clear P
  have P := Lib.hid (Qy0.out.frame (Same.of_below' hb)); clear Qy0; have Qy0 := P; clear P
  have P := Lib.hid (OY0.out.frame (Same.of_below' hb)); clear OY0; have OY0 := P; clear P
  have P := Lib.hid (Qg.out.frame (Same.of_below' hb)); clear Qg; have Qg := P; clear P
  have P := Lib.hid (Qz0.out.frame (Same.of_below' hb)); clear Qz0; have Qz0 := P; clear P
  have B1 := Lib.hid (B.out.trans (hb.mono B.out.size)); clear B; have B := B1; clear B1
  have O8 := Lib.hid (hb.size)
  clear hb
  clear Qz0
  clear Qy0
  go_wp2_with fail
  have mz := HZ0.out; have mc0 := cnt_fit (e := entryE) d0 (by decide) mz
  refine (markEntryS_at _ d0 (1) _ OY0.out (by omega) (by omega) (by omega) (by omega)).mono ?_
  rintro e W9 ⟨rfl, _, ht⟩
  clear mz
  have P := Lib.hid (Qw.out.frame (ht.same (by rintro k ⟨z1, z2⟩ ⟨z3, z4⟩; have := O0.out; have := O1.out; have := O2.out; have := O3.out; have := O4.out; have := O5.out; have := O6.out; have := O7.out; have := O8.out; omega))); clear Qw; have Qw := P; clear P
  have P := Lib.hid (Qg.out.frame (ht.same (by rintro k ⟨z1, z2⟩ ⟨z3, z4⟩; have := O0.out; have := O1.out; have := O2.out; have := O3.out; have := O4.out; have := O5.out; have := O6.out; have := O7.out; have := O8.out; omega))); clear Qg; have Qg := P; clear P
  have B1 := Lib.hid (ht.below B.out (by rintro k ⟨z3, z4⟩; have := O0.out; have := O1.out; have := O2.out; have := O3.out; have := O4.out; have := O5.out; have := O6.out; have := O7.out; have := O8.out; omega)); clear B; have B := B1; clear B1
  have O9 := Lib.hid (ht.size)
  clear OY0 ht
  have hk : ¬ ((1 + cntL entryE d0 : Nat) : Int) < 0 := by omega
  go_wp2_with fail
  refine (HQR.out _ _ _ _ _ Qg.out.at Qw.out.at).mono ?_
  rintro e W10 ⟨rfl, hb⟩
  have P := Lib.hid (Qw.out.frame (Same.of_below' hb)); clear Qw; have Qw := P; clear P
  have P := Lib.hid (Qg.out.frame (Same.of_below' hb)); clear Qg; have Qg := P; clear P
  have B1 := Lib.hid (B.out.trans (hb.mono B.out.size)); clear B; have B := B1; clear B1
  have O10 := Lib.hid (hb.size)
  clear hb
  clear hk mc0
  have mz := HRz.out; have mc := cnt_fit (e := entryE) R (by decide) mz
  have HH : Hid (∀ (Y : World) (S : Bs), SlAt entryE S Y (mkAll entryE 1 R) (.slice pg R.length cg) → Calls Try.prog 33 #[.slice pg R.length cg, .int .i64 1] Y fun e w' => e = .returned (.int .i64 ((1 + cntL entryE R : Nat) : Int)) ∧ Below Y.heap.size Y w') := Lib.hid (fun Y S h => heldEntryS_at _ R 1 Y h (by omega) (by omega) (by omega) (by omega))
  go_wp2_with fail
  refine (markEntryS_at _ R 1 _ Qg.out (by omega) (by omega) (by omega) (by omega)).mono ?_
  rintro e W11 ⟨rfl, r, ht⟩
  have QM := Lib.hid r.at; clear r
  have P := Lib.hid (Qw.out.frame (ht.same (by rintro k ⟨z1, z2⟩ ⟨z3, z4⟩; have := O0.out; have := O1.out; have := O2.out; have := O3.out; have := O4.out; have := O5.out; have := O6.out; have := O7.out; have := O8.out; have := O9.out; have := O10.out; omega))); clear Qw; have Qw := P; clear P
  have B1 := Lib.hid (ht.below B.out (by rintro k ⟨z3, z4⟩; have := O0.out; have := O1.out; have := O2.out; have := O3.out; have := O4.out; have := O5.out; have := O6.out; have := O7.out; have := O8.out; have := O9.out; have := O10.out; omega)); clear B; have B := B1; clear B1
  have O11 := Lib.hid (ht.size)
  clear Qg ht
  have hq1 : ¬ ((1 + cntL entryE R : Nat) : Int) < 0 := by omega
  generalize ((1 + cntL entryE R : Nat) : Int) = Q at *
  have hq2 : (Q != Q) = false := by simp
  clear mz mc
  go_wp2_with fail
  refine (HH.out _ _ QM.out).mono ?_
  rintro e W12 ⟨rfl, hb⟩
  have P := Lib.hid (Qw.out.frame (Same.of_below' hb)); clear Qw; have Qw := P; clear P
  have P := Lib.hid (QM.out.frame (Same.of_below' hb)); clear QM; have QM := P; clear P
  have B1 := Lib.hid (B.out.trans (hb.mono B.out.size)); clear B; have B := B1; clear B1
  have O12 := Lib.hid (hb.size)
  clear hb
  go_wp2_with fail
  refine (HT0.out _ B.out).mono ?_
  rintro e W13 ⟨x0, rfl, q, hb⟩
  have P := Lib.hid (Qw.out.frame (Same.of_below' hb)); clear Qw; have Qw := P; clear P
  have P := Lib.hid (QM.out.frame (Same.of_below' hb)); clear QM; have QM := P; clear P
  have B1 := Lib.hid (B.out.trans (hb.mono B.out.size)); clear B; have B := B1; clear B1
  have O13 := Lib.hid (hb.size)
  have Qx0 := Lib.hid q.at; clear q hb
  obtain ⟨px0, cx0, rfl⟩ := Qx0.out.sl
  go_wp2_with fail
  refine (HI.out _ _ _ Qx0.out).mono ?_
  rintro e W14 ⟨⟨u9, rfl, q⟩, hb⟩
  clear Qx0
  have P := Lib.hid (Qw.out.frame (Same.of_below' hb)); clear Qw; have Qw := P; clear P
  have P := Lib.hid (QM.out.frame (Same.of_below' hb)); clear QM; have QM := P; clear P
  have B1 := Lib.hid (B.out.trans (hb.mono B.out.size)); clear B; have B := B1; clear B1
  have O14 := Lib.hid (hb.size)
  have Qh := Lib.hid q; clear q hb
  obtain ⟨ph, ch, rfl⟩ := Qh.out.at.sl
  go_wp2_with fail
  refine (HQR.out _ _ _ _ _ Qh.out.at Qw.out.at).mono ?_
  rintro e W15 ⟨rfl, hb⟩
  have P := Lib.hid (Qw.out.frame (Same.of_below' hb)); clear Qw; have Qw := P; clear P
  have P := Lib.hid (QM.out.frame (Same.of_below' hb)); clear QM; have QM := P; clear P
  have P := Lib.hid (Qh.out.frame (Same.of_below' hb)); clear Qh; have Qh := P; clear P
  have B1 := Lib.hid (B.out.trans (hb.mono B.out.size)); clear B; have B := B1; clear B1
  have O15 := Lib.hid (hb.size)
  clear hb
  go_wp2_with fail
  refine (HH.out _ _ QM.out).mono ?_
  rintro e W16 ⟨rfl, hb⟩
  have P := Lib.hid (Qw.out.frame (Same.of_below' hb)); clear Qw; have Qw := P; clear P
  have P := Lib.hid (QM.out.frame (Same.of_below' hb)); clear QM; have QM := P; clear P
  have P := Lib.hid (Qh.out.frame (Same.of_below' hb)); clear Qh; have Qh := P; clear P
  have B1 := Lib.hid (B.out.trans (hb.mono B.out.size)); clear B; have B := B1; clear B1
  have O16 := Lib.hid (hb.size)
  clear hb
  go_wp2
  go_ret
  exact ⟨rfl, B.out⟩
end Go.Proofs.Ytlgafmgohinkbaa
/- Arguments of the laws: where they lie. -/
namespace Go.Proofs.Ytlgafmgohinkbaa
open Go.RowKit

open Go.ChangeShapes Go.WideShapes Go.Joins Go.Deep
theorem opn_str : Opens Try.prog 9 strE := opens_str Try.underlying9
theorem Try.cellStr : Try.prog.cellsOf 9 = strE.n := by kernel_rfl
theorem opn_int : Opens Try.prog 2 intE := opens_int Try.underlying2
theorem opn_bool : Opens Try.prog 4 boolE := opens_bool Try.underlying4
theorem Try.cellRdn : Try.prog.cellsOf 208 = rdnE.n := by kernel_rfl
set_option maxRecDepth 100000 in
theorem opn_rdn : Opens Try.prog 208 rdnE := opens_struct Try.underlying208 Try.cellRdn (ff_cons _ (by rfl) (by rfl) (by kernel_rfl) opn_str (ff_last _ (by rfl) (by rfl) (by kernel_rfl) (by rfl) opn_str))
theorem opn_strS : Opens Try.prog 29 (slE strE) := opens_sl Try.underlying29 Try.cellStr (by decide) opn_str
theorem Try.cellAttr : Try.prog.cellsOf 210 = attrE.n := by kernel_rfl
set_option maxRecDepth 100000 in
theorem opn_attr : Opens Try.prog 210 attrE := opens_struct Try.underlying210 Try.cellAttr (ff_cons _ (by rfl) (by rfl) (by kernel_rfl) opn_str (ff_last _ (by rfl) (by rfl) (by kernel_rfl) (by rfl) opn_strS))
theorem opn_rdnS : Opens Try.prog 123 (slE rdnE) := opens_sl Try.underlying123 Try.cellRdn (by decide) opn_rdn
theorem opn_attrS : Opens Try.prog 124 (slE attrE) := opens_sl Try.underlying124 Try.cellAttr (by decide) opn_attr
theorem Try.cellEntry : Try.prog.cellsOf 126 = entryE.n := by kernel_rfl
set_option maxRecDepth 100000 in
theorem opn_entry : Opens Try.prog 126 entryE := opens_struct Try.underlying126 Try.cellEntry (ff_cons _ (by rfl) (by rfl) (by kernel_rfl) opn_rdnS (ff_last _ (by rfl) (by rfl) (by kernel_rfl) (by rfl) opn_attrS))
theorem Try.cellNode : Try.prog.cellsOf 102 = nodeE.n := by kernel_rfl
set_option maxRecDepth 100000 in
theorem opn_node : Opens Try.prog 102 nodeE := opens_struct Try.underlying102 Try.cellNode (ff_cons _ (by rfl) (by rfl) (by kernel_rfl) opn_int (ff_cons _ (by rfl) (by rfl) (by kernel_rfl) opn_str (ff_cons _ (by rfl) (by rfl) (by kernel_rfl) opn_str (ff_last _ (by rfl) (by rfl) (by kernel_rfl) (by rfl) opn_int))))
theorem Try.cellClass : Try.prog.cellsOf 134 = classE.n := by kernel_rfl
set_option maxRecDepth 100000 in
theorem opn_class : Opens Try.prog 134 classE := opens_struct Try.underlying134 Try.cellClass (ff_cons _ (by rfl) (by rfl) (by kernel_rfl) opn_str (ff_cons _ (by rfl) (by rfl) (by kernel_rfl) opn_strS (ff_cons _ (by rfl) (by rfl) (by kernel_rfl) opn_strS (ff_last _ (by rfl) (by rfl) (by kernel_rfl) (by rfl) opn_strS))))
theorem Try.cellMod : Try.prog.cellsOf 35 = modE.n := by kernel_rfl
set_option maxRecDepth 100000 in
theorem opn_mod : Opens Try.prog 35 modE := opens_struct Try.underlying35 Try.cellMod (ff_cons _ (by rfl) (by rfl) (by kernel_rfl) opn_int (ff_cons _ (by rfl) (by rfl) (by kernel_rfl) opn_str (ff_last _ (by rfl) (by rfl) (by kernel_rfl) (by rfl) opn_strS)))
theorem opn_entryS : Opens Try.prog 42 (slE entryE) := opens_sl Try.underlying42 Try.cellEntry (by decide) opn_entry
theorem opn_nodeS : Opens Try.prog 22 (slE nodeE) := opens_sl Try.underlying22 Try.cellNode (by decide) opn_node
theorem opn_classS : Opens Try.prog 50 (slE classE) := opens_sl Try.underlying50 Try.cellClass (by decide) opn_class
set_option maxRecDepth 100000 in
theorem opv_rdn {H : Type} {enc : TypeId × Value → H} {w : World} {base : Nat} {spare : Nat → Bool} {held : Bool} {r : Reach} {b0 : Nat} {v : Value} {d : DataW H} {p : List MemPlace} (hv : Value.okWide Try.prog w r b0 208 v) (h : DataW.Trod enc Try.prog w base spare held 208 v d p) :
    ∃ (a0 : ByteArray) (a1 : ByteArray) , v = .agg #[.string a0, .string a1] ∧ (True) ∧ rdnE.long (a0, a1) := by
  obtain ⟨cs, a, rfl, h1, h2⟩ := opv_struct Try.underlying208 opn_rdn hv h
  obtain ⟨a0, a1, rfl, e1, hq⟩ := rdn_atq h1
  refine ⟨a0, a1, agg_eq e1, ?_, h2⟩
  exact hq
set_option maxRecDepth 100000 in
theorem opv_attr {H : Type} {enc : TypeId × Value → H} {w : World} {base : Nat} {spare : Nat → Bool} {held : Bool} {r : Reach} {b0 : Nat} {v : Value} {d : DataW H} {p : List MemPlace} (hv : Value.okWide Try.prog w r b0 210 v) (h : DataW.Trod enc Try.prog w base spare held 210 v d p) :
    ∃ (a0 : ByteArray) (a1 : (List ByteArray)) (v1 : Value), v = .agg #[.string a0, v1] ∧ (SlAt strE (All w) w a1 v1) ∧ attrE.long (a0, a1) := by
  obtain ⟨cs, a, rfl, h1, h2⟩ := opv_struct Try.underlying210 opn_attr hv h
  obtain ⟨a0, a1, v1, rfl, e1, hq⟩ := attr_atq h1
  refine ⟨a0, a1, v1, agg_eq e1, ?_, h2⟩
  exact hq.1
set_option maxRecDepth 100000 in
theorem opv_entry {H : Type} {enc : TypeId × Value → H} {w : World} {base : Nat} {spare : Nat → Bool} {held : Bool} {r : Reach} {b0 : Nat} {v : Value} {d : DataW H} {p : List MemPlace} (hv : Value.okWide Try.prog w r b0 126 v) (h : DataW.Trod enc Try.prog w base spare held 126 v d p) :
    ∃ (a0 : (List RdnT)) (a1 : (List AttrT)) (v0 v1 : Value), v = .agg #[v0, v1] ∧ (SlAt rdnE (All w) w a0 v0 ∧ SlAt attrE (All w) w a1 v1) ∧ entryE.long (a0, a1) := by
  obtain ⟨cs, a, rfl, h1, h2⟩ := opv_struct Try.underlying126 opn_entry hv h
  obtain ⟨a0, a1, v0, v1, rfl, e1, hq⟩ := entry_atq h1
  refine ⟨a0, a1, v0, v1, agg_eq e1, ?_, h2⟩
  exact ⟨hq.1, hq.2.1⟩
set_option maxRecDepth 100000 in
theorem opv_node {H : Type} {enc : TypeId × Value → H} {w : World} {base : Nat} {spare : Nat → Bool} {held : Bool} {r : Reach} {b0 : Nat} {v : Value} {d : DataW H} {p : List MemPlace} (hv : Value.okWide Try.prog w r b0 102 v) (h : DataW.Trod enc Try.prog w base spare held 102 v d p) :
    ∃ (a0 : Int) (a1 : ByteArray) (a2 : ByteArray) (a3 : Int) , v = .agg #[.int .i64 a0, .string a1, .string a2, .int .i64 a3] ∧ (True) ∧ nodeE.long (a0, a1, a2, a3) := by
  obtain ⟨cs, a, rfl, h1, h2⟩ := opv_struct Try.underlying102 opn_node hv h
  obtain ⟨a0, a1, a2, a3, rfl, e1, hq⟩ := node_atq h1
  refine ⟨a0, a1, a2, a3, agg_eq e1, ?_, h2⟩
  exact hq
set_option maxRecDepth 100000 in
theorem opv_class {H : Type} {enc : TypeId × Value → H} {w : World} {base : Nat} {spare : Nat → Bool} {held : Bool} {r : Reach} {b0 : Nat} {v : Value} {d : DataW H} {p : List MemPlace} (hv : Value.okWide Try.prog w r b0 134 v) (h : DataW.Trod enc Try.prog w base spare held 134 v d p) :
    ∃ (a0 : ByteArray) (a1 : (List ByteArray)) (a2 : (List ByteArray)) (a3 : (List ByteArray)) (v1 v2 v3 : Value), v = .agg #[.string a0, v1, v2, v3] ∧ (SlAt strE (All w) w a1 v1 ∧ SlAt strE (All w) w a2 v2 ∧ SlAt strE (All w) w a3 v3) ∧ classE.long (a0, a1, a2, a3) := by
  obtain ⟨cs, a, rfl, h1, h2⟩ := opv_struct Try.underlying134 opn_class hv h
  obtain ⟨a0, a1, a2, a3, v1, v2, v3, rfl, e1, hq⟩ := class_atq h1
  refine ⟨a0, a1, a2, a3, v1, v2, v3, agg_eq e1, ?_, h2⟩
  exact ⟨hq.1, hq.2.1, hq.2.2.1⟩
set_option maxRecDepth 100000 in
theorem opv_mod {H : Type} {enc : TypeId × Value → H} {w : World} {base : Nat} {spare : Nat → Bool} {held : Bool} {r : Reach} {b0 : Nat} {v : Value} {d : DataW H} {p : List MemPlace} (hv : Value.okWide Try.prog w r b0 35 v) (h : DataW.Trod enc Try.prog w base spare held 35 v d p) :
    ∃ (a0 : Int) (a1 : ByteArray) (a2 : (List ByteArray)) (v2 : Value), v = .agg #[.int .i64 a0, .string a1, v2] ∧ (SlAt strE (All w) w a2 v2) ∧ modE.long (a0, a1, a2) := by
  obtain ⟨cs, a, rfl, h1, h2⟩ := opv_struct Try.underlying35 opn_mod hv h
  obtain ⟨a0, a1, a2, v2, rfl, e1, hq⟩ := mod_atq h1
  refine ⟨a0, a1, a2, v2, agg_eq e1, ?_, h2⟩
  exact hq.1
end Go.Proofs.Ytlgafmgohinkbaa
