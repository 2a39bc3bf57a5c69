/- Merged texts: heldRdn, heldAttr, heldEntry, heldTreeV, eqRdn, eqAttr, eqEntry, eqTree, TreeNewW, Opn. -/
import Derived.Test.YtlgafmgohinkbaaM2
import Derived.Test.YtlgafmgohinkbaaM4
import Derived.SliceStrings
import Derived.Test.YtlgafmgohinkbaaM11
import Derived.Test.YtlgafmgohinkbaaM3
import Derived.Test.YtlgafmgohinkbaaM1
import Derived.Test.YtlgafmgohinkbaaM7
import Derived.Test.YtlgafmgohinkbaaM10
import Derived.Test.YtlgafmgohinkbaaRows
/- The helpers of the laws: marks asked. -/
namespace Go.Proofs.Ytlgafmgohinkbaa
open Go.RowKit
attribute [local go_sem ↓] Go.wp_at_zero Go.wp_at_succ

set_option maxRecDepth 100000 in
set_option maxHeartbeats 4000000 in
theorem heldRdnS_at {S : Bs} (v : Value) (d : List RdnT) (k : Nat) (w : World) (h : SlAt rdnE S w (mkAll rdnE k d) v) (hl : d.length ≤ 1048576) (hz : szL rdnE d ≤ 1048576) (hk1 : 0 < k) (hk2 : k + cntL rdnE d ≤ 1000000000) :
    Calls Try.prog 96 #[v, .int .i64 k] w fun e w' => e = .returned (.int .i64 ((k + cntL rdnE d : Nat) : Int)) ∧ Below w.heap.size w w' := by
  obtain ⟨ao, cap, rfl⟩ := h.sl
  have hml := mkAll_length rdnE k d
  rw [hml]
  rw [hml] at h
  have HS := Lib.hid h; clear h
  have HTx : Hid (∀ (X : World) (m : Nat) (q : Int), q = (m : Int) → 0 < m → m ≤ 1000000000 → Calls Try.prog 80 #[.int .i64 q] X fun e w' => e = .returned (.string (mkT m)) ∧ Below X.heap.size X w') := Lib.hid (fun X m q e h1 h2 => by subst e; exact markText_any m X h1 h2)
  go_enter Try.func96, Try.ntmps96
  go_wp2
  go_loopw [1, 5] (fun t i wr => ∃ j : Nat, j ≤ d.length ∧ i = .int .i64 j ∧ t = .int .i64 ((k + cntL rdnE (d.take j) : Nat) : Int) ∧ Below w.heap.size w wr) (fun _ i _ => d.length - (intOf i).toNat)
  case atStart => exact ⟨0, Nat.zero_le _, rfl, by simp [cntL], Below.refl _ _⟩
  case round =>
    obtain ⟨j, hj, rfl, rfl, hbel⟩ := hrel
    have hcl := cntL_take_le rdnE d j
    by_cases hlt : j < d.length
    · obtain ⟨b, off, x0, x1, rfl, _, hb0, hx, hc, _⟩ := rdn_row (HS.out.frame (Same.of_below' hbel)) (k := j) (by rw [hml]; exact hlt)
      have HCs := Lib.hid (cntL_take rdnE d j hlt)
      have hcs : cntL rdnE (d.take j) + (rdnE).cnt d[j] ≤ cntL rdnE d := by have := cntL_take_le rdnE d (j + 1); rw [HCs.out] at this; exact this
      rw [mkAll_get rdnE k d j hlt] at hx
      rcases hd : d[j] with ⟨a0, a1⟩
      rw [hd] at hx hcs
      have HX := Lib.hid hd
      have hct : (rdnE).cnt (a0, a1) = 1 + (1) := rfl
      rw [hct] at hcs
      have hm : ((x0, x1) : RdnT) = (mkT (k + cntL rdnE (d.take j)), mkT (k + cntL rdnE (d.take j) + 1)) := hx.symm.trans rfl
      simp only [Prod.mk.injEq] at hm
      obtain ⟨rfl, rfl⟩ := hm
      clear hx hd
      generalize hc' : cntL rdnE (d.take j) = c at *
      clear hc'
      have SK : Hid (∀ W : World, Below wr.heap.size wr W → (Below wr.heap.size wr W ∧ W.cell? ⟨b, off + j * 2, none⟩ = some (.string (mkT (k + c))) ∧ W.cell? ⟨b, off + j * 2 + 1, none⟩ = some (.string (mkT (k + c + 1))))) := Lib.hid (fun W h => ⟨h, (h.cell (p := ⟨b, _, none⟩) hb0).trans hc.1, (h.cell (p := ⟨b, _, none⟩) hb0).trans hc.2⟩)
      have hw0 : Below wr.heap.size wr wr := Below.refl _ _
      have hbd : Below wr.heap.size wr wr.drew := hw0.drew
      have HBl := Lib.hid hbel
      clear hbel hc
      have g1 : (0 : Int) ≤ (j : Int) := by omega
      have g2 : (j : Int) < (d.length : Int) := by omega
      have HT1 : Hid (∀ (X : World) (q : Int), q = ((k + c : Nat) : Int) → Below wr.heap.size wr X → Calls Try.prog 80 #[.int .i64 q] X fun e w' => e = .returned (.string (mkT (k + c))) ∧ Below wr.heap.size wr w') := Lib.hid (fun X q e h => (HTx.out X (k + c) q e (by omega) (by omega)).mono fun _ _ z => ⟨z.1, h.trans (z.2.mono h.size)⟩)
      have hkk : ((mkT (k + c)).toList == (mkT (k + c)).toList) = true := by simp
      generalize mkT (k + c) = A0 at *
      go_wp2_with fail
      go_region_held3 (fun W => Below wr.heap.size wr W ∧ W.cell? ⟨b, off + j * 2, none⟩ = some (.string A0) ∧ W.cell? ⟨b, off + j * 2 + 1, none⟩ = some (.string (mkT (k + c + 1))))
        (exact SK.out _ (by assumption))
        (first | (go_at_call 80; refine (HT1.out _ _ (by omega) (by assumption)).mono ?_; rintro e X1 ⟨rfl, hx1⟩) | (fail "none"))
      clear HT1 hkk
      have HT1 : Hid (∀ (X : World) (q : Int), q = ((k + c + 1 : Nat) : Int) → Below wr.heap.size wr X → Calls Try.prog 80 #[.int .i64 q] X fun e w' => e = .returned (.string (mkT (k + c + 1))) ∧ Below wr.heap.size wr w') := Lib.hid (fun X q e h => (HTx.out X (k + c + 1) q e (by omega) (by omega)).mono fun _ _ z => ⟨z.1, h.trans (z.2.mono h.size)⟩)
      have hkk : ((mkT (k + c + 1)).toList == (mkT (k + c + 1)).toList) = true := by simp
      generalize mkT (k + c + 1) = A1 at *
      have hdd2 := hx1.drew
      go_wp2_with fail
      go_region_held3 (fun W => Below wr.heap.size wr W ∧ W.cell? ⟨b, off + j * 2, none⟩ = some (.string A0) ∧ W.cell? ⟨b, off + j * 2 + 1, none⟩ = some (.string A1))
        (exact SK.out _ (by assumption))
        (first | (go_at_call 80; refine (HT1.out _ _ (by omega) (by assumption)).mono ?_; rintro e X2 ⟨rfl, hx2⟩) | (fail "none"))
      clear HT1 hkk
      go_wp2
      go_roundw
      case rel => exact ⟨j + 1, by omega, by go_num, by rw [HCs.out, HX.out, hct]; first | (congr 1; done) | (congr 1; omega), HBl.out.trans (hx2.mono HBl.out.size)⟩
      case measure => simp [intOf]; omega
    · have e : j = d.length := by omega
      subst e
      have hce : cntL rdnE (d.take d.length) = cntL rdnE d := by rw [List.take_length]
      rw [hce]
      go_wp2
      go_ret
      exact ⟨rfl, hbel⟩
end Go.Proofs.Ytlgafmgohinkbaa
/- The helpers of the laws: marks asked. -/
namespace Go.Proofs.Ytlgafmgohinkbaa
open Go.RowKit
attribute [local go_sem ↓] Go.wp_at_zero Go.wp_at_succ

set_option maxRecDepth 100000 in
set_option maxHeartbeats 4000000 in
theorem heldAttrS_at {S : Bs} (v : Value) (d : List AttrT) (k : Nat) (w : World) (h : SlAt attrE S w (mkAll attrE k d) v) (hl : d.length ≤ 1048576) (hz : szL attrE d ≤ 1048576) (hk1 : 0 < k) (hk2 : k + cntL attrE d ≤ 1000000000) :
    Calls Try.prog 97 #[v, .int .i64 k] w fun e w' => e = .returned (.int .i64 ((k + cntL attrE d : Nat) : Int)) ∧ Below w.heap.size w w' := by
  obtain ⟨ao, cap, rfl⟩ := h.sl
  have hml := mkAll_length attrE k d
  rw [hml]
  rw [hml] at h
  have HS := Lib.hid h; clear h
  have HTx : Hid (∀ (X : World) (m : Nat) (q : Int), q = (m : Int) → 0 < m → m ≤ 1000000000 → Calls Try.prog 80 #[.int .i64 q] X fun e w' => e = .returned (.string (mkT m)) ∧ Below X.heap.size X w') := Lib.hid (fun X m q e h1 h2 => by subst e; exact markText_any m X h1 h2)
  have HM1 : Hid (∀ (X : World) (u : Value) (V : List ByteArray) (m : Nat) (q : Int), q = (m : Int) → SlAt strE S X (mkAll strE m V) u → V.length ≤ 1048576 → szL strE V ≤ 1048576 → 0 < m → m + cntL strE V ≤ 1000000000 → Calls Try.prog 21 #[u, .int .i64 q] X fun e w' => e = .returned (.int .i64 ((m + cntL strE V : Nat) : Int)) ∧ Below X.heap.size X w') := Lib.hid (fun X u V m q e h h0 hz h1 h2 => by subst e; exact heldStringS_at u V m X h h0 hz h1 h2)
  go_enter Try.func97, Try.ntmps97
  go_wp2
  go_loopw [1, 5] (fun t i wr => ∃ j : Nat, j ≤ d.length ∧ i = .int .i64 j ∧ t = .int .i64 ((k + cntL attrE (d.take j) : Nat) : Int) ∧ Below w.heap.size w wr) (fun _ i _ => d.length - (intOf i).toNat)
  case atStart => exact ⟨0, Nat.zero_le _, rfl, by simp [cntL], Below.refl _ _⟩
  case round =>
    obtain ⟨j, hj, rfl, rfl, hbel⟩ := hrel
    have hcl := cntL_take_le attrE d j
    by_cases hlt : j < d.length
    · obtain ⟨b, off, x0, x1, u1, rfl, _, hb0, hx, hc, q1, _⟩ := attr_row (HS.out.frame (Same.of_below' hbel)) (k := j) (by rw [hml]; exact hlt)
      have HCs := Lib.hid (cntL_take attrE d j hlt)
      have hcs : cntL attrE (d.take j) + (attrE).cnt d[j] ≤ cntL attrE d := by have := cntL_take_le attrE d (j + 1); rw [HCs.out] at this; exact this
      rw [mkAll_get attrE k d j hlt] at hx
      rcases hd : d[j] with ⟨a0, a1⟩
      rw [hd] at hx hcs
      have HX := Lib.hid hd
      have hct : (attrE).cnt (a0, a1) = 1 + (cntL strE a1) := rfl
      rw [hct] at hcs
      have hl1 : a1.length ≤ 1048576 := by have := szL_mem attrE (List.getElem_mem hlt); rw [hd] at this; have h2 : (attrE).sz (a0, a1) = a0.size + ((a1.length + szL strE a1)) := rfl; rw [h2] at this; omega
      have hz1 : szL strE a1 ≤ 1048576 := by have := szL_mem attrE (List.getElem_mem hlt); rw [hd] at this; have h2 : (attrE).sz (a0, a1) = a0.size + ((a1.length + szL strE a1)) := rfl; rw [h2] at this; omega
      have hm : ((x0, x1) : AttrT) = (mkT (k + cntL attrE (d.take j)), mkAll strE (k + cntL attrE (d.take j) + 1) a1) := hx.symm.trans rfl
      simp only [Prod.mk.injEq] at hm
      obtain ⟨rfl, rfl⟩ := hm
      clear hx hd
      have HQ1 := Lib.hid q1; clear q1
      generalize hc' : cntL attrE (d.take j) = c at *
      clear hc'
      generalize hm1 : cntL strE a1 = m1 at *
      have Hm1 := Lib.hid hm1; clear hm1
      have SK : Hid (∀ W : World, Below wr.heap.size wr W → (Below wr.heap.size wr W ∧ W.cell? ⟨b, off + j * 2, none⟩ = some (.string (mkT (k + c))) ∧ W.cell? ⟨b, off + j * 2 + 1, none⟩ = some (u1))) := Lib.hid (fun W h => ⟨h, (h.cell (p := ⟨b, _, none⟩) hb0).trans hc.1, (h.cell (p := ⟨b, _, none⟩) hb0).trans hc.2⟩)
      have hw0 : Below wr.heap.size wr wr := Below.refl _ _
      have hbd : Below wr.heap.size wr wr.drew := hw0.drew
      have HBl := Lib.hid hbel
      clear hbel hc
      have g1 : (0 : Int) ≤ (j : Int) := by omega
      have g2 : (j : Int) < (d.length : Int) := by omega
      have HT1 : Hid (∀ (X : World) (q : Int), q = ((k + c : Nat) : Int) → Below wr.heap.size wr X → Calls Try.prog 80 #[.int .i64 q] X fun e w' => e = .returned (.string (mkT (k + c))) ∧ Below wr.heap.size wr w') := Lib.hid (fun X q e h => (HTx.out X (k + c) q e (by omega) (by omega)).mono fun _ _ z => ⟨z.1, h.trans (z.2.mono h.size)⟩)
      have hkk : ((mkT (k + c)).toList == (mkT (k + c)).toList) = true := by simp
      generalize mkT (k + c) = A0 at *
      go_wp2_with fail
      go_region_held3 (fun W => Below wr.heap.size wr W ∧ W.cell? ⟨b, off + j * 2, none⟩ = some (.string A0) ∧ W.cell? ⟨b, off + j * 2 + 1, none⟩ = some (u1))
        (exact SK.out _ (by assumption))
        (first | (go_at_call 80; refine (HT1.out _ _ (by omega) (by assumption)).mono ?_; rintro e X1 ⟨rfl, hx1⟩) | (fail "none"))
      clear HT1 hkk
      have HN := Lib.hid (HM1.out X1 u1 a1 (k + c + 1) _ rfl (HQ1.out.frame (Same.of_below' hx1)) hl1 hz1 (by omega) (by rw [Hm1.out]; omega))
      rw [Hm1.out] at HN
      obtain ⟨_, c0, c1⟩ := SK.out X1 hx1
      have hq : ¬ ((k + c + 1 + m1 : Nat) : Int) < 0 := by omega
      obtain ⟨p1, n1, j1, rfl⟩ : ∃ p n j, u1 = .slice p n j := by obtain ⟨p, j, z⟩ := HQ1.out.sl; exact ⟨p, _, j, z⟩
      go_wp2_with fail
      refine (calls_int HN.out (by omega)).mono ?_
      rintro e X2 ⟨rfl, hb⟩
      have hx2 := hx1.trans (hb.mono hx1.size)
      clear HN hb c0 c1
      go_wp2
      go_roundw
      case rel => exact ⟨j + 1, by omega, by go_num, by rw [HCs.out, HX.out, hct]; first | (congr 1; done) | (congr 1; omega), HBl.out.trans (hx2.mono HBl.out.size)⟩
      case measure => simp [intOf]; omega
    · have e : j = d.length := by omega
      subst e
      have hce : cntL attrE (d.take d.length) = cntL attrE d := by rw [List.take_length]
      rw [hce]
      go_wp2
      go_ret
      exact ⟨rfl, hbel⟩
end Go.Proofs.Ytlgafmgohinkbaa
/- The helpers of the laws: marks asked. -/
namespace Go.Proofs.Ytlgafmgohinkbaa
open Go.RowKit
attribute [local go_sem ↓] Go.wp_at_zero Go.wp_at_succ

set_option maxRecDepth 100000 in
set_option maxHeartbeats 4000000 in
theorem heldEntryS_at {S : Bs} (v : Value) (d : List EntryT) (k : Nat) (w : World) (h : SlAt entryE S w (mkAll entryE k d) v) (hl : d.length ≤ 1048576) (hz : szL entryE d ≤ 1048576) (hk1 : 0 < k) (hk2 : k + cntL entryE d ≤ 1000000000) :
    Calls Try.prog 33 #[v, .int .i64 k] w fun e w' => e = .returned (.int .i64 ((k + cntL entryE d : Nat) : Int)) ∧ Below w.heap.size w w' := by
  obtain ⟨ao, cap, rfl⟩ := h.sl
  have hml := mkAll_length entryE k d
  rw [hml]
  rw [hml] at h
  have HS := Lib.hid h; clear h
  have HTx : Hid (∀ (X : World) (m : Nat) (q : Int), q = (m : Int) → 0 < m → m ≤ 1000000000 → Calls Try.prog 80 #[.int .i64 q] X fun e w' => e = .returned (.string (mkT m)) ∧ Below X.heap.size X w') := Lib.hid (fun X m q e h1 h2 => by subst e; exact markText_any m X h1 h2)
  have HM0 : Hid (∀ (X : World) (u : Value) (V : List RdnT) (m : Nat) (q : Int), q = (m : Int) → SlAt rdnE S X (mkAll rdnE m V) u → V.length ≤ 1048576 → szL rdnE V ≤ 1048576 → 0 < m → m + cntL rdnE V ≤ 1000000000 → Calls Try.prog 96 #[u, .int .i64 q] X fun e w' => e = .returned (.int .i64 ((m + cntL rdnE V : Nat) : Int)) ∧ Below X.heap.size X w') := Lib.hid (fun X u V m q e h h0 hz h1 h2 => by subst e; exact heldRdnS_at u V m X h h0 hz h1 h2)
  have HM1 : Hid (∀ (X : World) (u : Value) (V : List AttrT) (m : Nat) (q : Int), q = (m : Int) → SlAt attrE S X (mkAll attrE m V) u → V.length ≤ 1048576 → szL attrE V ≤ 1048576 → 0 < m → m + cntL attrE V ≤ 1000000000 → Calls Try.prog 97 #[u, .int .i64 q] X fun e w' => e = .returned (.int .i64 ((m + cntL attrE V : Nat) : Int)) ∧ Below X.heap.size X w') := Lib.hid (fun X u V m q e h h0 hz h1 h2 => by subst e; exact heldAttrS_at u V m X h h0 hz h1 h2)
  go_enter Try.func33, Try.ntmps33
  go_wp2
  go_loopw [1, 5] (fun t i wr => ∃ j : Nat, j ≤ d.length ∧ i = .int .i64 j ∧ t = .int .i64 ((k + cntL entryE (d.take j) : Nat) : Int) ∧ Below w.heap.size w wr) (fun _ i _ => d.length - (intOf i).toNat)
  case atStart => exact ⟨0, Nat.zero_le _, rfl, by simp [cntL], Below.refl _ _⟩
  case round =>
    obtain ⟨j, hj, rfl, rfl, hbel⟩ := hrel
    have hcl := cntL_take_le entryE d j
    by_cases hlt : j < d.length
    · obtain ⟨b, off, x0, x1, u0, u1, rfl, _, hb0, hx, hc, q0, q1, _⟩ := entry_row (HS.out.frame (Same.of_below' hbel)) (k := j) (by rw [hml]; exact hlt)
      have HCs := Lib.hid (cntL_take entryE d j hlt)
      have hcs : cntL entryE (d.take j) + (entryE).cnt d[j] ≤ cntL entryE d := by have := cntL_take_le entryE d (j + 1); rw [HCs.out] at this; exact this
      rw [mkAll_get entryE k d j hlt] at hx
      rcases hd : d[j] with ⟨a0, a1⟩
      rw [hd] at hx hcs
      have HX := Lib.hid hd
      have hct : (entryE).cnt (a0, a1) = cntL rdnE a0 + (cntL attrE a1) := rfl
      rw [hct] at hcs
      have hl0 : a0.length ≤ 1048576 := by have := szL_mem entryE (List.getElem_mem hlt); rw [hd] at this; have h2 : (entryE).sz (a0, a1) = (a0.length + szL rdnE a0) + ((a1.length + szL attrE a1)) := rfl; rw [h2] at this; omega
      have hz0 : szL rdnE a0 ≤ 1048576 := by have := szL_mem entryE (List.getElem_mem hlt); rw [hd] at this; have h2 : (entryE).sz (a0, a1) = (a0.length + szL rdnE a0) + ((a1.length + szL attrE a1)) := rfl; rw [h2] at this; omega
      have hl1 : a1.length ≤ 1048576 := by have := szL_mem entryE (List.getElem_mem hlt); rw [hd] at this; have h2 : (entryE).sz (a0, a1) = (a0.length + szL rdnE a0) + ((a1.length + szL attrE a1)) := rfl; rw [h2] at this; omega
      have hz1 : szL attrE a1 ≤ 1048576 := by have := szL_mem entryE (List.getElem_mem hlt); rw [hd] at this; have h2 : (entryE).sz (a0, a1) = (a0.length + szL rdnE a0) + ((a1.length + szL attrE a1)) := rfl; rw [h2] at this; omega
      have hm : ((x0, x1) : EntryT) = (mkAll rdnE (k + cntL entryE (d.take j)) a0, mkAll attrE (k + cntL entryE (d.take j) + cntL rdnE a0) a1) := hx.symm.trans rfl
      simp only [Prod.mk.injEq] at hm
      obtain ⟨rfl, rfl⟩ := hm
      clear hx hd
      have HQ0 := Lib.hid q0; clear q0
      have HQ1 := Lib.hid q1; clear q1
      generalize hc' : cntL entryE (d.take j) = c at *
      clear hc'
      generalize hm0 : cntL rdnE a0 = m0 at *
      have Hm0 := Lib.hid hm0; clear hm0
      generalize hm1 : cntL attrE a1 = m1 at *
      have Hm1 := Lib.hid hm1; clear hm1
      have SK : Hid (∀ W : World, Below wr.heap.size wr W → (Below wr.heap.size wr W ∧ W.cell? ⟨b, off + j * 2, none⟩ = some (u0) ∧ W.cell? ⟨b, off + j * 2 + 1, none⟩ = some (u1))) := Lib.hid (fun W h => ⟨h, (h.cell (p := ⟨b, _, none⟩) hb0).trans hc.1, (h.cell (p := ⟨b, _, none⟩) hb0).trans hc.2⟩)
      have hw0 : Below wr.heap.size wr wr := Below.refl _ _
      have hbd : Below wr.heap.size wr wr.drew := hw0.drew
      have HBl := Lib.hid hbel
      clear hbel hc
      have g1 : (0 : Int) ≤ (j : Int) := by omega
      have g2 : (j : Int) < (d.length : Int) := by omega
      have HN := Lib.hid (HM0.out wr u0 a0 (k + c) _ rfl (HQ0.out.frame (Same.of_below' hw0)) hl0 hz0 (by omega) (by rw [Hm0.out]; omega))
      rw [Hm0.out] at HN
      obtain ⟨_, c0, c1⟩ := SK.out wr hw0
      have hq : ¬ ((k + c + m0 : Nat) : Int) < 0 := by omega
      obtain ⟨p0, n0, j0, rfl⟩ : ∃ p n j, u0 = .slice p n j := by obtain ⟨p, j, z⟩ := HQ0.out.sl; exact ⟨p, _, j, z⟩
      go_wp2_with fail
      refine (calls_int HN.out (by omega)).mono ?_
      rintro e X1 ⟨rfl, hb⟩
      have hx1 := hw0.trans (hb.mono hw0.size)
      clear HN hb c0 c1
      have HN := Lib.hid (HM1.out X1 u1 a1 (k + c + m0) _ rfl (HQ1.out.frame (Same.of_below' hx1)) hl1 hz1 (by omega) (by rw [Hm1.out]; omega))
      rw [Hm1.out] at HN
      obtain ⟨_, c0, c1⟩ := SK.out X1 hx1
      have hq : ¬ ((k + c + m0 + m1 : Nat) : Int) < 0 := by omega
      obtain ⟨p1, n1, j1, rfl⟩ : ∃ p n j, u1 = .slice p n j := by obtain ⟨p, j, z⟩ := HQ1.out.sl; exact ⟨p, _, j, z⟩
      go_wp2_with fail
      refine (calls_int HN.out (by omega)).mono ?_
      rintro e X2 ⟨rfl, hb⟩
      have hx2 := hx1.trans (hb.mono hx1.size)
      clear HN hb c0 c1
      go_wp2
      go_roundw
      case rel => exact ⟨j + 1, by omega, by go_num, by rw [HCs.out, HX.out, hct]; first | (congr 1; done) | (congr 1; omega), HBl.out.trans (hx2.mono HBl.out.size)⟩
      case measure => simp [intOf]; omega
    · have e : j = d.length := by omega
      subst e
      have hce : cntL entryE (d.take d.length) = cntL entryE d := by rw [List.take_length]
      rw [hce]
      go_wp2
      go_ret
      exact ⟨rfl, hbel⟩
end Go.Proofs.Ytlgafmgohinkbaa
/- The helpers of the laws: marks asked. -/
namespace Go.Proofs.Ytlgafmgohinkbaa
open Go.RowKit
attribute [local go_sem ↓] Go.wp_at_zero Go.wp_at_succ

set_option maxRecDepth 100000 in
set_option maxHeartbeats 4000000 in
theorem heldTree_fl {S0 S1 : Bs} (a0 : (List ClassT)) (a1 : (List EntryT)) (u0 u1 : Value) (k : Nat) (w : World) (q0 : SlAt classE S0 w (mkAll classE (k) a0) u0) (l0 : a0.length ≤ 1048576) (z0 : szL classE a0 ≤ 1048576) (q1 : SlAt entryE S1 w (mkAll entryE (k + cntL classE a0) a1) u1) (l1 : a1.length ≤ 1048576) (z1 : szL entryE a1 ≤ 1048576) (hk1 : 0 < k) (hk2 : k + cntL classE a0 + cntL entryE a1 ≤ 1000000000) :
    Calls Try.prog 42 #[.agg #[u0, u1], .int .i64 k] w fun e w' => e = .returned (.int .i64 ((k + cntL classE a0 + cntL entryE a1 : Nat) : Int)) ∧ Below w.heap.size w w' := by
  have C0 : Hid (∀ (X : World) (q : Int), q = ((k : Nat) : Int) → Below w.heap.size w X → Calls Try.prog 104 #[u0, .int .i64 q] X fun e w' => e = .returned (.int .i64 ((k + cntL classE a0 : Nat) : Int)) ∧ Below X.heap.size X w') := Lib.hid (fun X q e h => by subst e; exact heldClassS_at u0 a0 (k) X (q0.frame (Same.of_below' h)) l0 z0 (by omega) (by omega))
  have C1 : Hid (∀ (X : World) (q : Int), q = ((k + cntL classE a0 : Nat) : Int) → Below w.heap.size w X → Calls Try.prog 33 #[u1, .int .i64 q] X fun e w' => e = .returned (.int .i64 ((k + cntL classE a0 + cntL entryE a1 : Nat) : Int)) ∧ Below X.heap.size X w') := Lib.hid (fun X q e h => by subst e; exact heldEntryS_at u1 a1 (k + cntL classE a0) X (q1.frame (Same.of_below' h)) l1 z1 (by omega) (by omega))
  obtain ⟨o0, k0, rfl⟩ := q0.sl
  rw [mkAll_length] at *
  clear q0
  obtain ⟨o1, k1, rfl⟩ := q1.sl
  rw [mkAll_length] at *
  clear q1
  generalize hm0 : cntL classE a0 = m0 at *
  have Hm0 := Lib.hid hm0; clear hm0
  generalize hm1 : cntL entryE a1 = m1 at *
  have Hm1 := Lib.hid hm1; clear hm1
  go_enter Try.func42, Try.ntmps42
  go_wp2_with fail
  refine calls_by (fun W => Below w.heap.size w W ∧ Blk W w.heap.size [.slice o0 a0.length k0, .slice o1 a1.length k1]) ⟨more' (Below.refl _ _) _, Blk.new _ _ _⟩ ?_
  rintro W0 ⟨b0, t0⟩
  have T0 := Lib.hid t0; clear t0
  refine (C0.out W0 _ (by omega) b0).mono ?_
  rintro e W1 ⟨rfl, hb⟩
  have T1 := Lib.hid (T0.out.below hb); have b1 := b0.trans (hb.mono b0.size)
  have hq0 : ¬ ((k + m0 : Nat) : Int) < 0 := by omega
  clear hb b0 T0
  have c0 := T1.out.cell 0 rfl
  have c1 := T1.out.cell 1 rfl
  go_wp2_with fail
  refine (C1.out W1 _ (by omega) b1).mono ?_
  rintro e W2 ⟨rfl, hb⟩
  have T2 := Lib.hid (T1.out.below hb); have b2 := b1.trans (hb.mono b1.size)
  have hq1 : ¬ ((k + m0 + m1 : Nat) : Int) < 0 := by omega
  clear hb b1 T1 c0 c1
  go_wp2
  go_ret
  have e0 := Hm0.out
  subst e0
  have e1 := Hm1.out
  subst e1
  exact ⟨ret_int (by omega), b2⟩
end Go.Proofs.Ytlgafmgohinkbaa
/- The helpers of the laws: comparisons. -/
namespace Go.Proofs.Ytlgafmgohinkbaa
open Go.RowKit
attribute [local go_sem ↓] Go.wp_at_zero Go.wp_at_succ

set_option maxRecDepth 100000 in
set_option maxHeartbeats 4000000 in
theorem eqRdn_at  (w0 : World) (a0 : ByteArray) (a1 : ByteArray)   (w : World) (hB : Below w0.heap.size w0 w)    :
    Calls Try.prog 193 #[.agg #[.string a0, .string a1], .agg #[.string a0, .string a1]] w fun e w' => e = .returned (.bool true) ∧ Below w0.heap.size w0 w' := by
  have hk0 : (a0.toList == a0.toList) = true := by simp
  have hk1 : (a1.toList == a1.toList) = true := by simp
  have HB := Lib.hid hB
  clear hB
  go_enter Try.func193, Try.ntmps193
  go_wp2
  go_ret
  exact ⟨rfl, more' (more' HB.out _) _⟩
set_option maxRecDepth 100000 in
set_option maxHeartbeats 4000000 in
theorem eqRdnS_at {S S' : Bs} (v u : Value) (d : List RdnT) (w : World) (hd : SlAt rdnE S w d v) (hu : SlAt rdnE S' w d u) (hz : d.length + szL rdnE d ≤ 1048576) :
    Calls Try.prog 154 #[v, u] w fun e w' => e = .returned (.bool true) ∧ Below w.heap.size w w' := by
  obtain ⟨ao, ca, rfl⟩ := hd.sl
  obtain ⟨bo, cb, rfl⟩ := hu.sl
  have HA := Lib.hid hd; have HB := Lib.hid hu; clear hd hu
  have HL := Lib.hid hz
  have hl : d.length ≤ 1048576 := by omega
  clear hz
  go_enter Try.func154, Try.ntmps154
  go_wp2
  go_loopw [5] (fun i wr => ∃ k : Nat, k ≤ d.length ∧ i = .int .i64 k ∧ Below w.heap.size w wr) (fun i _ => d.length - (intOf i).toNat)
  case atStart => exact ⟨0, Nat.zero_le _, rfl, Below.refl _ _⟩
  case round =>
    obtain ⟨k, hk, rfl, hbel⟩ := hrel
    have hsz := hbel.size
    by_cases hlt : k < d.length
    · obtain ⟨p, off, a0, a1, rfl, _, hp0, hx, hc, _⟩ := rdn_row (HA.out.frame (Same.of_below' hbel)) hlt
      obtain ⟨q, off', x0, x1, rfl, _, hq0, hx', hd, _⟩ := rdn_row (HB.out.frame (Same.of_below' hbel)) hlt
      have hxx := hx.symm.trans hx'
      simp only [Prod.mk.injEq] at hxx
      obtain ⟨rfl, rfl⟩ := hxx
      have HZ : Hid (rdnE.sz (a0, a1) ≤ 1048576) := Lib.hid (by have h1 := szL_mem rdnE (List.getElem_mem hlt); rw [hx] at h1; have := HL.out; omega)
      clear hx hx'
      have C : Hid (∀ W : World, Below wr.heap.size wr W → Calls Try.prog 193 #[.agg #[.string a0, .string a1], .agg #[.string a0, .string a1]] W fun e w' => e = .returned (.bool true) ∧ Below wr.heap.size wr w') := Lib.hid (fun W b => eqRdn_at wr a0 a1 W b   )
      have SK : Hid (∀ W : World, Below wr.heap.size wr W → (Below wr.heap.size wr W ∧ (W.cell? ⟨p, off + k * 2, none⟩ = some (.string a0) ∧ W.cell? ⟨p, off + k * 2 + 1, none⟩ = some (.string a1)) ∧ (W.cell? ⟨q, off' + k * 2, none⟩ = some (.string a0) ∧ W.cell? ⟨q, off' + k * 2 + 1, none⟩ = some (.string a1)))) :=
        Lib.hid (fun W h => ⟨h, ⟨(h.cell (p := ⟨p, _, none⟩) hp0).trans hc.1, (h.cell (p := ⟨p, _, none⟩) hp0).trans hc.2⟩, ⟨(h.cell (p := ⟨q, _, none⟩) hq0).trans hd.1, (h.cell (p := ⟨q, _, none⟩) hq0).trans hd.2⟩⟩)
      have hbd : Below wr.heap.size wr wr.drew := (Below.refl _ _).drew
      have hb0 : Below wr.heap.size wr wr := Below.refl _ _
      have HBl := Lib.hid hbel
      clear hc hd hbel
      have g1 : (0 : Int) ≤ (k : Int) := by omega
      have g2 : (k : Int) < (d.length : Int) := by omega
      go_wp2_with fail
      go_region_held3 (fun W => Below wr.heap.size wr W ∧ (W.cell? ⟨p, off + k * 2, none⟩ = some (.string a0) ∧ W.cell? ⟨p, off + k * 2 + 1, none⟩ = some (.string a1)) ∧ (W.cell? ⟨q, off' + k * 2, none⟩ = some (.string a0) ∧ W.cell? ⟨q, off' + k * 2 + 1, none⟩ = some (.string a1)))
        (exact SK.out _ (by assumption))
        (first | (go_at_call 193; refine (C.out _ (by assumption)).mono ?_; rintro e w2 ⟨rfl, hb2⟩) | (fail "none"))
      all_goals
        go_wp2
        go_roundw
        case rel => exact ⟨k + 1, by omega, by go_num, HBl.out.trans (hb2.mono HBl.out.size)⟩
        case measure => simp [intOf]; omega
    · go_wp2
      go_ret
      exact ⟨rfl, hbel⟩
end Go.Proofs.Ytlgafmgohinkbaa
/- The helpers of the laws: comparisons. -/
namespace Go.Proofs.Ytlgafmgohinkbaa
open Go.RowKit
attribute [local go_sem ↓] Go.wp_at_zero Go.wp_at_succ

set_option maxRecDepth 100000 in
set_option maxHeartbeats 4000000 in
theorem eqAttr_at {S S' : Bs} (w0 : World) (a0 : ByteArray) (a1 : (List ByteArray)) (v1 : Value) (u1 : Value) (w : World) (hB : Below w0.heap.size w0 w) (h1 : SlAt strE S w0 a1 v1) (g1 : SlAt strE S' w0 a1 u1) (hz : attrE.sz (a0, a1) ≤ 1048576) :
    Calls Try.prog 194 #[.agg #[.string a0, v1], .agg #[.string a0, u1]] w fun e w' => e = .returned (.bool true) ∧ Below w0.heap.size w0 w' := by
  have HE : attrE.sz (a0, a1) = a0.size + ((a1.length + szL strE a1)) := rfl
  rw [HE] at hz
  have hk0 : (a0.toList == a0.toList) = true := by simp
  have C1 : Hid (∀ W : World, Below w0.heap.size w0 W → Calls Try.prog 18 #[v1, u1] W fun e w' => e = .returned (.bool true) ∧ Below W.heap.size W w') := Lib.hid (fun W b => eqStringS_at v1 u1 a1 W (h1.frame (Same.of_below' b)) (g1.frame (Same.of_below' b)) (by omega))
  obtain ⟨o1, k1, rfl⟩ := h1.sl
  obtain ⟨p1, j1, rfl⟩ := g1.sl
  clear hz HE h1 g1
  have HB := Lib.hid hB
  clear hB
  go_enter Try.func194, Try.ntmps194
  go_wp2_with fail
  refine calls_by (fun W => Below w0.heap.size w0 W ∧ Blk W w.heap.size [.string a0, .slice o1 a1.length k1] ∧ Blk W (w.heap.size + 1) [.string a0, .slice p1 a1.length j1]) ⟨more' (more' HB.out _) _, (Blk.new _ _ _).alloc _, blk_at _ _ _ (by simp)⟩ ?_
  rintro W1 ⟨b1, x1, y1⟩
  have X1 := Lib.hid x1; have Y1 := Lib.hid y1; clear x1 y1
  refine (C1.out W1 b1).mono ?_
  rintro e W2 ⟨rfl, hb⟩
  have X2 := Lib.hid (X1.out.below hb); have Y2 := Lib.hid (Y1.out.below hb); have b2 := b1.trans (hb.mono b1.size)
  clear X1 Y1 hb b1 C1
  have m0 := X2.out.cell 0 rfl
  have n0 := Y2.out.cell 0 rfl
  have m1 := X2.out.cell 1 rfl
  have n1 := Y2.out.cell 1 rfl
  go_wp2
  go_ret
  exact ⟨rfl, b2⟩
set_option maxRecDepth 100000 in
set_option maxHeartbeats 4000000 in
theorem eqAttrS_at {S S' : Bs} (v u : Value) (d : List AttrT) (w : World) (hd : SlAt attrE S w d v) (hu : SlAt attrE S' w d u) (hz : d.length + szL attrE d ≤ 1048576) :
    Calls Try.prog 155 #[v, u] w fun e w' => e = .returned (.bool true) ∧ Below w.heap.size w w' := by
  obtain ⟨ao, ca, rfl⟩ := hd.sl
  obtain ⟨bo, cb, rfl⟩ := hu.sl
  have HA := Lib.hid hd; have HB := Lib.hid hu; clear hd hu
  have HL := Lib.hid hz
  have hl : d.length ≤ 1048576 := by omega
  clear hz
  go_enter Try.func155, Try.ntmps155
  go_wp2
  go_loopw [5] (fun i wr => ∃ k : Nat, k ≤ d.length ∧ i = .int .i64 k ∧ Below w.heap.size w wr) (fun i _ => d.length - (intOf i).toNat)
  case atStart => exact ⟨0, Nat.zero_le _, rfl, Below.refl _ _⟩
  case round =>
    obtain ⟨k, hk, rfl, hbel⟩ := hrel
    have hsz := hbel.size
    by_cases hlt : k < d.length
    · obtain ⟨p, off, a0, a1, v1, rfl, _, hp0, hx, hc, s1, _⟩ := attr_row (HA.out.frame (Same.of_below' hbel)) hlt
      obtain ⟨q, off', x0, x1, u1, rfl, _, hq0, hx', hd, t1, _⟩ := attr_row (HB.out.frame (Same.of_below' hbel)) hlt
      have hxx := hx.symm.trans hx'
      simp only [Prod.mk.injEq] at hxx
      obtain ⟨rfl, rfl⟩ := hxx
      have HZ : Hid (attrE.sz (a0, a1) ≤ 1048576) := Lib.hid (by have h1 := szL_mem attrE (List.getElem_mem hlt); rw [hx] at h1; have := HL.out; omega)
      clear hx hx'
      have C : Hid (∀ W : World, Below wr.heap.size wr W → Calls Try.prog 194 #[.agg #[.string a0, v1], .agg #[.string a0, u1]] W fun e w' => e = .returned (.bool true) ∧ Below wr.heap.size wr w') := Lib.hid (fun W b => eqAttr_at wr a0 a1 v1 u1 W b s1 t1 HZ.out)
      clear s1 t1 HZ
      have SK : Hid (∀ W : World, Below wr.heap.size wr W → (Below wr.heap.size wr W ∧ (W.cell? ⟨p, off + k * 2, none⟩ = some (.string a0) ∧ W.cell? ⟨p, off + k * 2 + 1, none⟩ = some (v1)) ∧ (W.cell? ⟨q, off' + k * 2, none⟩ = some (.string a0) ∧ W.cell? ⟨q, off' + k * 2 + 1, none⟩ = some (u1)))) :=
        Lib.hid (fun W h => ⟨h, ⟨(h.cell (p := ⟨p, _, none⟩) hp0).trans hc.1, (h.cell (p := ⟨p, _, none⟩) hp0).trans hc.2⟩, ⟨(h.cell (p := ⟨q, _, none⟩) hq0).trans hd.1, (h.cell (p := ⟨q, _, none⟩) hq0).trans hd.2⟩⟩)
      have hbd : Below wr.heap.size wr wr.drew := (Below.refl _ _).drew
      have hb0 : Below wr.heap.size wr wr := Below.refl _ _
      have HBl := Lib.hid hbel
      clear hc hd hbel
      have g1 : (0 : Int) ≤ (k : Int) := by omega
      have g2 : (k : Int) < (d.length : Int) := by omega
      go_wp2_with fail
      go_region_held3 (fun W => Below wr.heap.size wr W ∧ (W.cell? ⟨p, off + k * 2, none⟩ = some (.string a0) ∧ W.cell? ⟨p, off + k * 2 + 1, none⟩ = some (v1)) ∧ (W.cell? ⟨q, off' + k * 2, none⟩ = some (.string a0) ∧ W.cell? ⟨q, off' + k * 2 + 1, none⟩ = some (u1)))
        (exact SK.out _ (by assumption))
        (first | (go_at_call 194; refine (C.out _ (by assumption)).mono ?_; rintro e w2 ⟨rfl, hb2⟩) | (fail "none"))
      all_goals
        go_wp2
        go_roundw
        case rel => exact ⟨k + 1, by omega, by go_num, HBl.out.trans (hb2.mono HBl.out.size)⟩
        case measure => simp [intOf]; omega
    · go_wp2
      go_ret
      exact ⟨rfl, hbel⟩
end Go.Proofs.Ytlgafmgohinkbaa
/- The helpers of the laws: comparisons. -/
namespace Go.Proofs.Ytlgafmgohinkbaa
open Go.RowKit
attribute [local go_sem ↓] Go.wp_at_zero Go.wp_at_succ

set_option maxRecDepth 100000 in
set_option maxHeartbeats 4000000 in
theorem eqEntry_at {S S' : Bs} (w0 : World) (a0 : (List RdnT)) (a1 : (List AttrT)) (v0 v1 : Value) (u0 u1 : Value) (w : World) (hB : Below w0.heap.size w0 w) (h0 : SlAt rdnE S w0 a0 v0) (h1 : SlAt attrE S w0 a1 v1) (g0 : SlAt rdnE S' w0 a0 u0) (g1 : SlAt attrE S' w0 a1 u1) (hz : entryE.sz (a0, a1) ≤ 1048576) :
    Calls Try.prog 93 #[.agg #[v0, v1], .agg #[u0, u1]] w fun e w' => e = .returned (.bool true) ∧ Below w0.heap.size w0 w' := by
  have HE : entryE.sz (a0, a1) = (a0.length + szL rdnE a0) + ((a1.length + szL attrE a1)) := rfl
  rw [HE] at hz
  have C0 : Hid (∀ W : World, Below w0.heap.size w0 W → Calls Try.prog 154 #[v0, u0] W fun e w' => e = .returned (.bool true) ∧ Below W.heap.size W w') := Lib.hid (fun W b => eqRdnS_at v0 u0 a0 W (h0.frame (Same.of_below' b)) (g0.frame (Same.of_below' b)) (by omega))
  have C1 : Hid (∀ W : World, Below w0.heap.size w0 W → Calls Try.prog 155 #[v1, u1] W fun e w' => e = .returned (.bool true) ∧ Below W.heap.size W w') := Lib.hid (fun W b => eqAttrS_at v1 u1 a1 W (h1.frame (Same.of_below' b)) (g1.frame (Same.of_below' b)) (by omega))
  obtain ⟨o0, k0, rfl⟩ := h0.sl
  obtain ⟨p0, j0, rfl⟩ := g0.sl
  obtain ⟨o1, k1, rfl⟩ := h1.sl
  obtain ⟨p1, j1, rfl⟩ := g1.sl
  clear hz HE h0 g0 h1 g1
  have HB := Lib.hid hB
  clear hB
  go_enter Try.func93, Try.ntmps93
  go_wp2_with fail
  refine calls_by (fun W => Below w0.heap.size w0 W ∧ Blk W w.heap.size [.slice o0 a0.length k0, .slice o1 a1.length k1] ∧ Blk W (w.heap.size + 1) [.slice p0 a0.length j0, .slice p1 a1.length j1]) ⟨more' (more' HB.out _) _, (Blk.new _ _ _).alloc _, blk_at _ _ _ (by simp)⟩ ?_
  rintro W1 ⟨b1, x1, y1⟩
  have X1 := Lib.hid x1; have Y1 := Lib.hid y1; clear x1 y1
  refine (C0.out W1 b1).mono ?_
  rintro e W2 ⟨rfl, hb⟩
  have X2 := Lib.hid (X1.out.below hb); have Y2 := Lib.hid (Y1.out.below hb); have b2 := b1.trans (hb.mono b1.size)
  clear X1 Y1 hb b1 C0
  have m0 := X2.out.cell 0 rfl
  have n0 := Y2.out.cell 0 rfl
  have m1 := X2.out.cell 1 rfl
  have n1 := Y2.out.cell 1 rfl
  go_wp2_with fail
  refine (C1.out W2 b2).mono ?_
  rintro e W3 ⟨rfl, hb⟩
  have X3 := Lib.hid (X2.out.below hb); have Y3 := Lib.hid (Y2.out.below hb); have b3 := b2.trans (hb.mono b2.size)
  clear X2 Y2 hb b2 C1 m0 n0 m1 n1
  have m0 := X3.out.cell 0 rfl
  have n0 := Y3.out.cell 0 rfl
  have m1 := X3.out.cell 1 rfl
  have n1 := Y3.out.cell 1 rfl
  go_wp2
  go_ret
  exact ⟨rfl, b3⟩
set_option maxRecDepth 100000 in
set_option maxHeartbeats 4000000 in
theorem eqEntryS_at {S S' : Bs} (v u : Value) (d : List EntryT) (w : World) (hd : SlAt entryE S w d v) (hu : SlAt entryE S' w d u) (hz : d.length + szL entryE d ≤ 1048576) :
    Calls Try.prog 31 #[v, u] w fun e w' => e = .returned (.bool true) ∧ Below w.heap.size w w' := by
  obtain ⟨ao, ca, rfl⟩ := hd.sl
  obtain ⟨bo, cb, rfl⟩ := hu.sl
  have HA := Lib.hid hd; have HB := Lib.hid hu; clear hd hu
  have HL := Lib.hid hz
  have hl : d.length ≤ 1048576 := by omega
  clear hz
  go_enter Try.func31, Try.ntmps31
  go_wp2
  go_loopw [5] (fun i wr => ∃ k : Nat, k ≤ d.length ∧ i = .int .i64 k ∧ Below w.heap.size w wr) (fun i _ => d.length - (intOf i).toNat)
  case atStart => exact ⟨0, Nat.zero_le _, rfl, Below.refl _ _⟩
  case round =>
    obtain ⟨k, hk, rfl, hbel⟩ := hrel
    have hsz := hbel.size
    by_cases hlt : k < d.length
    · obtain ⟨p, off, a0, a1, v0, v1, rfl, _, hp0, hx, hc, s0, s1, _⟩ := entry_row (HA.out.frame (Same.of_below' hbel)) hlt
      obtain ⟨q, off', x0, x1, u0, u1, rfl, _, hq0, hx', hd, t0, t1, _⟩ := entry_row (HB.out.frame (Same.of_below' hbel)) hlt
      have hxx := hx.symm.trans hx'
      simp only [Prod.mk.injEq] at hxx
      obtain ⟨rfl, rfl⟩ := hxx
      have HZ : Hid (entryE.sz (a0, a1) ≤ 1048576) := Lib.hid (by have h1 := szL_mem entryE (List.getElem_mem hlt); rw [hx] at h1; have := HL.out; omega)
      clear hx hx'
      have C : Hid (∀ W : World, Below wr.heap.size wr W → Calls Try.prog 93 #[.agg #[v0, v1], .agg #[u0, u1]] W fun e w' => e = .returned (.bool true) ∧ Below wr.heap.size wr w') := Lib.hid (fun W b => eqEntry_at wr a0 a1 v0 v1 u0 u1 W b s0 s1 t0 t1 HZ.out)
      clear s0 t0 s1 t1 HZ
      have SK : Hid (∀ W : World, Below wr.heap.size wr W → (Below wr.heap.size wr W ∧ (W.cell? ⟨p, off + k * 2, none⟩ = some (v0) ∧ W.cell? ⟨p, off + k * 2 + 1, none⟩ = some (v1)) ∧ (W.cell? ⟨q, off' + k * 2, none⟩ = some (u0) ∧ W.cell? ⟨q, off' + k * 2 + 1, none⟩ = some (u1)))) :=
        Lib.hid (fun W h => ⟨h, ⟨(h.cell (p := ⟨p, _, none⟩) hp0).trans hc.1, (h.cell (p := ⟨p, _, none⟩) hp0).trans hc.2⟩, ⟨(h.cell (p := ⟨q, _, none⟩) hq0).trans hd.1, (h.cell (p := ⟨q, _, none⟩) hq0).trans hd.2⟩⟩)
      have hbd : Below wr.heap.size wr wr.drew := (Below.refl _ _).drew
      have hb0 : Below wr.heap.size wr wr := Below.refl _ _
      have HBl := Lib.hid hbel
      clear hc hd hbel
      have g1 : (0 : Int) ≤ (k : Int) := by omega
      have g2 : (k : Int) < (d.length : Int) := by omega
      go_wp2_with fail
      go_region_held3 (fun W => Below wr.heap.size wr W ∧ (W.cell? ⟨p, off + k * 2, none⟩ = some (v0) ∧ W.cell? ⟨p, off + k * 2 + 1, none⟩ = some (v1)) ∧ (W.cell? ⟨q, off' + k * 2, none⟩ = some (u0) ∧ W.cell? ⟨q, off' + k * 2 + 1, none⟩ = some (u1)))
        (exact SK.out _ (by assumption))
        (first | (go_at_call 93; refine (C.out _ (by assumption)).mono ?_; rintro e w2 ⟨rfl, hb2⟩) | (fail "none"))
      all_goals
        go_wp2
        go_roundw
        case rel => exact ⟨k + 1, by omega, by go_num, HBl.out.trans (hb2.mono HBl.out.size)⟩
        case measure => simp [intOf]; omega
    · go_wp2
      go_ret
      exact ⟨rfl, hbel⟩
end Go.Proofs.Ytlgafmgohinkbaa
/- The helpers of the laws: comparisons. -/
namespace Go.Proofs.Ytlgafmgohinkbaa
open Go.RowKit
attribute [local go_sem ↓] Go.wp_at_zero Go.wp_at_succ

set_option maxRecDepth 100000 in
set_option maxHeartbeats 4000000 in
theorem eqTree_at {S S' : Bs} (w0 : World) (a0 : (List ClassT)) (a1 : (List EntryT)) (v0 v1 : Value) (u0 u1 : Value) (w : World) (hB : Below w0.heap.size w0 w) (h0 : SlAt classE S w0 a0 v0) (h1 : SlAt entryE S w0 a1 v1) (g0 : SlAt classE S' w0 a0 u0) (g1 : SlAt entryE S' w0 a1 u1) (hz : treeE.sz (a0, a1) ≤ 1048576) :
    Calls Try.prog 38 #[.agg #[v0, v1], .agg #[u0, u1]] w fun e w' => e = .returned (.bool true) ∧ Below w0.heap.size w0 w' := by
  have HE : treeE.sz (a0, a1) = (a0.length + szL classE a0) + ((a1.length + szL entryE a1)) := rfl
  rw [HE] at hz
  have C0 : Hid (∀ W : World, Below w0.heap.size w0 W → Calls Try.prog 39 #[v0, u0] W fun e w' => e = .returned (.bool true) ∧ Below W.heap.size W w') := Lib.hid (fun W b => eqClassS_at v0 u0 a0 W (h0.frame (Same.of_below' b)) (g0.frame (Same.of_below' b)) (by omega))
  have C1 : Hid (∀ W : World, Below w0.heap.size w0 W → Calls Try.prog 31 #[v1, u1] W fun e w' => e = .returned (.bool true) ∧ Below W.heap.size W w') := Lib.hid (fun W b => eqEntryS_at v1 u1 a1 W (h1.frame (Same.of_below' b)) (g1.frame (Same.of_below' b)) (by omega))
  obtain ⟨o0, k0, rfl⟩ := h0.sl
  obtain ⟨p0, j0, rfl⟩ := g0.sl
  obtain ⟨o1, k1, rfl⟩ := h1.sl
  obtain ⟨p1, j1, rfl⟩ := g1.sl
  clear hz HE h0 g0 h1 g1
  have HB := Lib.hid hB
  clear hB
  go_enter Try.func38, Try.ntmps38
  go_wp2_with fail
  refine calls_by (fun W => Below w0.heap.size w0 W ∧ Blk W w.heap.size [.slice o0 a0.length k0, .slice o1 a1.length k1] ∧ Blk W (w.heap.size + 1) [.slice p0 a0.length j0, .slice p1 a1.length j1]) ⟨more' (more' HB.out _) _, (Blk.new _ _ _).alloc _, blk_at _ _ _ (by simp)⟩ ?_
  rintro W1 ⟨b1, x1, y1⟩
  have X1 := Lib.hid x1; have Y1 := Lib.hid y1; clear x1 y1
  refine (C0.out W1 b1).mono ?_
  rintro e W2 ⟨rfl, hb⟩
  have X2 := Lib.hid (X1.out.below hb); have Y2 := Lib.hid (Y1.out.below hb); have b2 := b1.trans (hb.mono b1.size)
  clear X1 Y1 hb b1 C0
  have m0 := X2.out.cell 0 rfl
  have n0 := Y2.out.cell 0 rfl
  have m1 := X2.out.cell 1 rfl
  have n1 := Y2.out.cell 1 rfl
  go_wp2_with fail
  refine (C1.out W2 b2).mono ?_
  rintro e W3 ⟨rfl, hb⟩
  have X3 := Lib.hid (X2.out.below hb); have Y3 := Lib.hid (Y2.out.below hb); have b3 := b2.trans (hb.mono b2.size)
  clear X2 Y2 hb b2 C1 m0 n0 m1 n1
  have m0 := X3.out.cell 0 rfl
  have n0 := Y3.out.cell 0 rfl
  have m1 := X3.out.cell 1 rfl
  have n1 := Y3.out.cell 1 rfl
  go_wp2
  go_ret
  exact ⟨rfl, b3⟩
end Go.Proofs.Ytlgafmgohinkbaa
/- The law FnExactTreeNew: its walk. -/
namespace Go.Proofs.Ytlgafmgohinkbaa
open Go.RowKit
attribute [local go_sem ↓] Go.wp_at_zero Go.wp_at_succ

set_option maxRecDepth 100000 in
set_option maxHeartbeats 4000000 in
theorem TreeNew_walk (v0 : Value) (d0 : List ClassT) (w : World) (h0 : SlAt classE (All w) w d0 v0) (f0 : (slE classE).long d0) :
    Calls Try.prog 7 #[v0] w fun e w' => e = .returned (.bool true) ∧ Below w.heap.size w w' := by
  have HQ0 : Hid (d0.length + szL classE d0 ≤ 1048576 → ∀ (Y : World) (S S' : Bs) (x u : Value), SlAt classE S Y d0 x → SlAt classE S' Y d0 u → Calls Try.prog 39 #[x, u] Y fun e w' => e = .returned (.bool true) ∧ Below Y.heap.size Y w') := Lib.hid (fun z Y S S' x u h1 h2 => eqClassS_at x u d0 Y h1 h2 z)
  have HS0 : Hid (∀ (l : Int) (W : World), Below w.heap.size w W → 0 ≤ l → l ≤ 1048576 → Calls Try.prog 34 #[v0, .int .i64 l] W fun e w' => e = .returned (.int .i64 (leftR (d0.length + szL classE d0) l)) ∧ Below W.heap.size W w') := Lib.hid (fun l W b p q => szClassS_at v0 d0 l W (h0.frame (Same.of_below' b)) f0 p q)
  have HT0 : Hid (d0.length + szL classE d0 ≤ 1048576 → ∀ Y : World, Below w.heap.size w Y → Calls Try.prog 36 #[v0] Y fun e w' => ∃ u, e = .returned u ∧ SlOwn classE (Fresh Y w') w' d0 u ∧ Below Y.heap.size Y w') := Lib.hid (fun z Y b => toClassS_at v0 d0 Y (h0.frame (Same.of_below' b)) z)
  have HSp : Hid (d0.length + szL classE d0 ≤ 1048576 → ∀ (Y : World) (S0 : Bs) (u0 : Value), SlAt classE S0 Y d0 u0 → Calls Try.prog 35 #[u0] Y fun e w' => (∃ u900 u901 : Value, e = .returned (.agg #[u900, u901]) ∧ treeE.Own (Fresh Y w') w' (treeNewR d0) [u900, u901]) ∧ Below Y.heap.size Y w') := Lib.hid (fun z0 Y S0 u0 h0 => SpecTreeNew_any u0 d0 Y h0 z0)
  have HIm : Hid (d0.length + szL classE d0 ≤ 1048576 → ∀ (Y : World) (S0 : Bs) (u0 : Value), SlAt classE S0 Y d0 u0 → Calls Try.prog 37 #[u0] Y fun e w' => (∃ u900 u901 : Value, e = .returned (.agg #[u900, u901]) ∧ treeE.Own (Fresh Y w') w' (treeNewR d0) [u900, u901]) ∧ Below Y.heap.size Y w') := Lib.hid (fun z0 Y S0 u0 h0 => TreeNew_any u0 d0 Y h0 z0)
  obtain ⟨o0, k0, rfl⟩ := h0.sl
  clear h0 f0
  go_enter Try.func7, Try.ntmps7
  have B : Hid (Below w.heap.size w w) := Lib.hid (Below.refl _ _)
  go_wp2_with fail
  refine (HS0.out (1048576) w B.out (by omega) (by omega)).mono ?_
  rintro e W1 ⟨rfl, hb⟩
  have B1 := Lib.hid (B.out.trans (hb.mono B.out.size)); clear B; have B := B1; clear B1
  have O0 := Lib.hid (hb.size)
  clear hb HS0
  by_cases g0 : ((d0.length + szL classE d0 : Nat) : Int) ≤ 1048576
  rotate_left
  · rw [leftR_neg g0]
    clear g0
    go_wp2
    go_ret
    exact ⟨rfl, B.out⟩
  rw [leftR_pos g0]
  have HZ0 : Hid (d0.length + szL classE d0 ≤ 1048576) := Lib.hid (by omega)
  have p0 : (0 : Int) ≤ ((d0.length + szL classE d0 : Nat) : Int) := by omega
  have c0 : ¬ 1048576 - ((d0.length + szL classE d0 : Nat) : Int) < 0 := by omega
  generalize ((d0.length + szL classE d0 : Nat) : Int) = t0 at *
  have HT := Lib.hid (HT0.out HZ0.out); clear HT0; have HT0 := HT; clear HT
  have HQ := Lib.hid (HQ0.out HZ0.out); clear HQ0; have HQ0 := HQ; clear HQ
  have HS := Lib.hid (HSp.out HZ0.out); have HI := Lib.hid (HIm.out HZ0.out); clear HSp HIm
  have O1 := Lib.hid (B.out.size)
  have HRz : Hid (treeE.sz (treeNewR d0) ≤ 1048576) := Lib.hid (Nat.le_trans (treeNewR_sz d0) HZ0.out)
  generalize treeNewR d0 = R at *
  obtain ⟨a900, a901⟩ := R
  try dsimp only at HS HI
  have HQR : Hid (∀ (Y : World) (S S' : Bs) (x900 x901 u900 u901 : Value), SlAt classE S Y a900 x900 → SlAt entryE S Y a901 x901 → SlAt classE S' Y a900 u900 → SlAt entryE S' Y a901 u901 → Calls Try.prog 38 #[.agg #[x900, x901], .agg #[u900, u901]] Y fun e w' => e = .returned (.bool true) ∧ Below Y.heap.size Y w') := Lib.hid (fun Y S S' x900 x901 u900 u901 h900 h901 k900 k901 => eqTree_at Y a900 a901 x900 x901 u900 u901 Y (Below.refl _ _) h900 h901 k900 k901 HRz.out)
  go_wp2_with fail
  refine (HT0.out _ B.out).mono ?_
  rintro e W2 ⟨x0, rfl, q, hb⟩
  have B1 := Lib.hid (B.out.trans (hb.mono B.out.size)); clear B; have B := B1; clear B1
  have O2 := Lib.hid (hb.size)
  have Qx0 := Lib.hid q.at; clear q hb
  obtain ⟨px0, cx0, rfl⟩ := Qx0.out.sl
  go_wp2_with fail
  refine (HS.out _ _ _ Qx0.out).mono ?_
  rintro e W3 ⟨⟨u900, u901, rfl, q⟩, hb⟩
  clear Qx0
  have B1 := Lib.hid (B.out.trans (hb.mono B.out.size)); clear B; have B := B1; clear B1
  have O3 := Lib.hid (hb.size)
  have QRw := Lib.hid (treeE.ownAt q); clear q hb
  have Z := tree_atp QRw.out
  obtain ⟨pw900, cw900, rfl⟩ := Z.1.sl
  obtain ⟨pw901, cw901, rfl⟩ := Z.2.sl
  clear Z
  go_wp2_with fail
  refine calls_by (fun W => Below W3.heap.size W3 W ∧ Blk W W3.heap.size [.slice pw900 a900.length cw900, .slice pw901 a901.length cw901]) ⟨more' (Below.refl _ _) _, Blk.new _ _ _⟩ ?_
  rintro V4 ⟨hb, t⟩
  have P := Lib.hid (treeE.frame QRw.out (Same.of_below' hb)); clear QRw; have QRw := P; clear P
  have B1 := Lib.hid (B.out.trans (hb.mono B.out.size)); clear B; have B := B1; clear B1
  have O4 := Lib.hid (hb.size)
  clear hb
  have O5 := Lib.hid (t.lt)
  have HXw := Lib.hid t; clear t
  refine (HT0.out _ B.out).mono ?_
  rintro e W5 ⟨y0, rfl, q, hb⟩
  have P := Lib.hid (treeE.frame QRw.out (Same.of_below' hb)); clear QRw; have QRw := P; clear P
  have P := Lib.hid (HXw.out.below hb); clear HXw; have HXw := P; clear P
  have B1 := Lib.hid (B.out.trans (hb.mono B.out.size)); clear B; have B := B1; clear B1
  have O6 := Lib.hid (hb.size)
  have Qy0 := Lib.hid q.at; have OY0 := Lib.hid q; clear q hb
  obtain ⟨py0, cy0, rfl⟩ := Qy0.out.sl
  have bm0 := HXw.out.cell 0 rfl
  have bm1 := HXw.out.cell 1 rfl
  go_wp2_with fail
  clear bm0 bm1
  refine (HI.out _ _ _ Qy0.out).mono ?_
  rintro e W6 ⟨⟨u900, u901, rfl, q⟩, hb⟩
  have P := Lib.hid (treeE.frame QRw.out (Same.of_below' hb)); clear QRw; have QRw := P; clear P
  have P := Lib.hid (HXw.out.below hb); clear HXw; have HXw := P; clear P
  have P := Lib.hid (Qy0.out.frame (Same.of_below' hb)); clear Qy0; have Qy0 := P; clear P
  have P := Lib.hid (OY0.out.frame (Same.of_below' hb)); clear OY0; have OY0 := P; clear P
  have B1 := Lib.hid (B.out.trans (hb.mono B.out.size)); clear B; have B := B1; clear B1
  have O7 := Lib.hid (hb.size)
  have OG := Lib.hid q; clear q hb
  have Z := tree_atp (treeE.ownAt OG.out)
  obtain ⟨pg900, cg900, rfl⟩ := Z.1.sl
  obtain ⟨pg901, cg901, rfl⟩ := Z.2.sl
  clear Z
  have bm0 := (HXw.out.alloc (.cells #[.slice pg900 a900.length cg900, .slice pg901 a901.length cg901] 54)).cell 0 rfl
  have bm1 := (HXw.out.alloc (.cells #[.slice pg900 a900.length cg900, .slice pg901 a901.length cg901] 54)).cell 1 rfl
  go_wp2_with fail
  clear bm0 bm1
  refine calls_by (fun W => Below W6.heap.size W6 W ∧ Blk W W6.heap.size [.slice pg900 a900.length cg900, .slice pg901 a901.length cg901]) ⟨more' (Below.refl _ _) _, Blk.new _ _ _⟩ ?_
  rintro V6 ⟨hb, t⟩
  have P := Lib.hid (treeE.frame QRw.out (Same.of_below' hb)); clear QRw; have QRw := P; clear P
  have P := Lib.hid (HXw.out.below hb); clear HXw; have HXw := P; clear P
  have P := Lib.hid (Qy0.out.frame (Same.of_below' hb)); clear Qy0; have Qy0 := P; clear P
  have P := Lib.hid (OY0.out.frame (Same.of_below' hb)); clear OY0; have OY0 := P; clear P
  have P := Lib.hid (treeE.ownFrame OG.out (Same.of_below' hb)); clear OG; have OG := P; clear P
  have B1 := Lib.hid (B.out.trans (hb.mono B.out.size)); clear B; have B := B1; clear B1
  have O8 := Lib.hid (hb.size)
  clear hb
  have O9 := Lib.hid (t.lt)
  have HXg := Lib.hid t; clear t
  refine (HQR.out _ _ _ _ _ _ _ (tree_atp (treeE.ownAt OG.out)).1 (tree_atp (treeE.ownAt OG.out)).2 (tree_atp QRw.out).1 (tree_atp QRw.out).2).mono ?_
  rintro e W7 ⟨rfl, hb⟩
  have P := Lib.hid (treeE.frame QRw.out (Same.of_below' hb)); clear QRw; have QRw := P; clear P
  have P := Lib.hid (HXw.out.below hb); clear HXw; have HXw := P; clear P
  have P := Lib.hid (Qy0.out.frame (Same.of_below' hb)); clear Qy0; have Qy0 := P; clear P
  have P := Lib.hid (OY0.out.frame (Same.of_below' hb)); clear OY0; have OY0 := P; clear P
  have P := Lib.hid (treeE.ownFrame OG.out (Same.of_below' hb)); clear OG; have OG := P; clear P
  have P := Lib.hid (HXg.out.below hb); clear HXg; have HXg := P; clear P
  have B1 := Lib.hid (B.out.trans (hb.mono B.out.size)); clear B; have B := B1; clear B1
  have O10 := Lib.hid (hb.size)
  clear hb
  go_wp2_with fail
  refine (HT0.out _ B.out).mono ?_
  rintro e W8 ⟨z0, rfl, q, hb⟩
  have P := Lib.hid (treeE.frame QRw.out (Same.of_below' hb)); clear QRw; have QRw := P; clear P
  have P := Lib.hid (HXw.out.below hb); clear HXw; have HXw := P; clear P
  have P := Lib.hid (Qy0.out.frame (Same.of_below' hb)); clear Qy0; have Qy0 := P; clear P
  have P := Lib.hid (OY0.out.frame (Same.of_below' hb)); clear OY0; have OY0 := P; clear P
  have P := Lib.hid (treeE.ownFrame OG.out (Same.of_below' hb)); clear OG; have OG := P; clear P
  have P := Lib.hid (HXg.out.below hb); clear HXg; have HXg := P; clear P
  have B1 := Lib.hid (B.out.trans (hb.mono B.out.size)); clear B; have B := B1; clear B1
  have O11 := Lib.hid (hb.size)
  have Qz0 := Lib.hid q.at; clear q hb
  obtain ⟨pz0, cz0, rfl⟩ := Qz0.out.sl
  go_wp2_with fail
  refine (HQ0.out _ _ _ _ _ Qy0.out Qz0.out).mono ?_
  rintro e W9 ⟨rfl, hb⟩
  have P := Lib.hid (treeE.frame QRw.out (Same.of_below' hb)); clear QRw; have QRw := P; clear P
  have P := Lib.hid (HXw.out.below hb); clear HXw; have HXw := P; clear P
  have P := Lib.hid (Qy0.out.frame (Same.of_below' hb)); clear Qy0; have Qy0 := P; clear P
  have P := Lib.hid (OY0.out.frame (Same.of_below' hb)); clear OY0; have OY0 := P; clear P
  have P := Lib.hid (treeE.ownFrame OG.out (Same.of_below' hb)); clear OG; have OG := P; clear P
  have P := Lib.hid (HXg.out.below hb); clear HXg; have HXg := P; clear P
  have P := Lib.hid (Qz0.out.frame (Same.of_below' hb)); clear Qz0; have Qz0 := P; clear P
  have B1 := Lib.hid (B.out.trans (hb.mono B.out.size)); clear B; have B := B1; clear B1
  have O12 := Lib.hid (hb.size)
  clear hb
  clear Qz0
  clear Qy0
  have bm0 := HXw.out.cell 0 rfl
  have bm1 := HXw.out.cell 1 rfl
  have bm2 := HXg.out.cell 0 rfl
  have bm3 := HXg.out.cell 1 rfl
  go_wp2_with fail
  clear bm0 bm1 bm2 bm3
  have mz := HZ0.out; have mc0 := cnt_fit (e := classE) d0 (by decide) mz
  refine (markClassS_at _ d0 (1) _ OY0.out (by omega) (by omega) (by omega) (by omega)).mono ?_
  rintro e W10 ⟨rfl, _, ht⟩
  clear mz
  have P := Lib.hid (treeE.frame QRw.out (ht.same (by rintro k ⟨z1, z2⟩ ⟨z3, z4⟩; have := O0.out; have := O1.out; have := O2.out; have := O3.out; have := O4.out; have := O5.out; have := O6.out; have := O7.out; have := O8.out; have := O9.out; have := O10.out; have := O11.out; have := O12.out; omega))); clear QRw; have QRw := P; clear P
  have P := Lib.hid (HXw.out.turn ht (by rintro ⟨z3, z4⟩; have := O0.out; have := O1.out; have := O2.out; have := O3.out; have := O4.out; have := O5.out; have := O6.out; have := O7.out; have := O8.out; have := O9.out; have := O10.out; have := O11.out; have := O12.out; omega)); clear HXw; have HXw := P; clear P
  have P := Lib.hid (treeE.ownFrame OG.out (ht.same (by rintro k ⟨z1, z2⟩ ⟨z3, z4⟩; have := O0.out; have := O1.out; have := O2.out; have := O3.out; have := O4.out; have := O5.out; have := O6.out; have := O7.out; have := O8.out; have := O9.out; have := O10.out; have := O11.out; have := O12.out; omega))); clear OG; have OG := P; clear P
  have P := Lib.hid (HXg.out.turn ht (by rintro ⟨z3, z4⟩; have := O0.out; have := O1.out; have := O2.out; have := O3.out; have := O4.out; have := O5.out; have := O6.out; have := O7.out; have := O8.out; have := O9.out; have := O10.out; have := O11.out; have := O12.out; omega)); clear HXg; have HXg := P; clear P
  have B1 := Lib.hid (ht.below B.out (by rintro k ⟨z3, z4⟩; have := O0.out; have := O1.out; have := O2.out; have := O3.out; have := O4.out; have := O5.out; have := O6.out; have := O7.out; have := O8.out; have := O9.out; have := O10.out; have := O11.out; have := O12.out; omega)); clear B; have B := B1; clear B1
  have O13 := Lib.hid (ht.size)
  clear OY0 ht
  have hk : ¬ ((1 + cntL classE d0 : Nat) : Int) < 0 := by omega
  have bm0 := HXw.out.cell 0 rfl
  have bm1 := HXw.out.cell 1 rfl
  have bm2 := HXg.out.cell 0 rfl
  have bm3 := HXg.out.cell 1 rfl
  go_wp2_with fail
  clear bm0 bm1 bm2 bm3
  refine (HQR.out _ _ _ _ _ _ _ (tree_atp (treeE.ownAt OG.out)).1 (tree_atp (treeE.ownAt OG.out)).2 (tree_atp QRw.out).1 (tree_atp QRw.out).2).mono ?_
  rintro e W11 ⟨rfl, hb⟩
  have P := Lib.hid (treeE.frame QRw.out (Same.of_below' hb)); clear QRw; have QRw := P; clear P
  have P := Lib.hid (HXw.out.below hb); clear HXw; have HXw := P; clear P
  have P := Lib.hid (treeE.ownFrame OG.out (Same.of_below' hb)); clear OG; have OG := P; clear P
  have P := Lib.hid (HXg.out.below hb); clear HXg; have HXg := P; clear P
  have B1 := Lib.hid (B.out.trans (hb.mono B.out.size)); clear B; have B := B1; clear B1
  have O14 := Lib.hid (hb.size)
  clear hb
  clear hk mc0
  have mz : (a900.length + szL classE a900) + ((a901.length + szL entryE a901)) ≤ 1048576 := HRz.out
  have mc900 := cnt_fit (e := classE) a900 (by decide) (by omega)
  have mc901 := cnt_fit (e := entryE) a901 (by decide) (by omega)
  have HH : Hid (∀ (Y : World) (S0 S1 : Bs), SlAt classE S0 Y (mkAll classE (1) a900) (.slice pg900 a900.length cg900) → SlAt entryE S1 Y (mkAll entryE (1 + cntL classE a900) a901) (.slice pg901 a901.length cg901) → Calls Try.prog 42 #[.agg #[.slice pg900 a900.length cg900, .slice pg901 a901.length cg901], .int .i64 1] Y fun e w' => e = .returned (.int .i64 ((1 + cntL classE a900 + cntL entryE a901 : Nat) : Int)) ∧ Below Y.heap.size Y w') := Lib.hid (fun Y S0 S1 h0 h1 => heldTree_fl a900 a901 _ _ 1 Y h0 (by omega) (by omega) h1 (by omega) (by omega) (by omega) (by omega))
  have bm0 := HXw.out.cell 0 rfl
  have bm1 := HXw.out.cell 1 rfl
  have bm2 := HXg.out.cell 0 rfl
  have bm3 := HXg.out.cell 1 rfl
  go_wp2_with fail
  clear bm0 bm1 bm2 bm3
  obtain ⟨S0, S1, q0, i0, q1, i1, d01⟩ := tree_ownp OG.out
  refine (markTree_fl a900 a901 _ _ S0 S1 1 _ q0 (by omega) (by omega) q1 (by omega) (by omega) d01 (fun b h => by have := (i0 b h).2; have := O0.out; have := O1.out; have := O2.out; have := O3.out; have := O4.out; have := O5.out; have := O6.out; have := O7.out; have := O8.out; have := O9.out; have := O10.out; have := O11.out; have := O12.out; have := O13.out; have := O14.out; omega) (fun b h => by have := (i1 b h).2; have := O0.out; have := O1.out; have := O2.out; have := O3.out; have := O4.out; have := O5.out; have := O6.out; have := O7.out; have := O8.out; have := O9.out; have := O10.out; have := O11.out; have := O12.out; have := O13.out; have := O14.out; omega) (by omega) (by omega)).mono ?_
  rintro e W12 ⟨rfl, r0, r1, ht⟩
  have QM0 := Lib.hid (r0.at.wide i0)
  have QM1 := Lib.hid (r1.at.wide i1)
  have ht := ht.wide (fun k z => by rcases z with z | z; exact i0 k z; exact i1 k z)
  have P := Lib.hid (treeE.frame QRw.out (ht.same (by rintro k ⟨z1, z2⟩ ⟨z3, z4⟩; have := O0.out; have := O1.out; have := O2.out; have := O3.out; have := O4.out; have := O5.out; have := O6.out; have := O7.out; have := O8.out; have := O9.out; have := O10.out; have := O11.out; have := O12.out; have := O13.out; have := O14.out; omega))); clear QRw; have QRw := P; clear P
  have P := Lib.hid (HXw.out.turn ht (by rintro ⟨z3, z4⟩; have := O0.out; have := O1.out; have := O2.out; have := O3.out; have := O4.out; have := O5.out; have := O6.out; have := O7.out; have := O8.out; have := O9.out; have := O10.out; have := O11.out; have := O12.out; have := O13.out; have := O14.out; omega)); clear HXw; have HXw := P; clear P
  have P := Lib.hid (HXg.out.turn ht (by rintro ⟨z3, z4⟩; have := O0.out; have := O1.out; have := O2.out; have := O3.out; have := O4.out; have := O5.out; have := O6.out; have := O7.out; have := O8.out; have := O9.out; have := O10.out; have := O11.out; have := O12.out; have := O13.out; have := O14.out; omega)); clear HXg; have HXg := P; clear P
  have B1 := Lib.hid (ht.below B.out (by rintro k ⟨z3, z4⟩; have := O0.out; have := O1.out; have := O2.out; have := O3.out; have := O4.out; have := O5.out; have := O6.out; have := O7.out; have := O8.out; have := O9.out; have := O10.out; have := O11.out; have := O12.out; have := O13.out; have := O14.out; omega)); clear B; have B := B1; clear B1
  have O15 := Lib.hid (ht.size)
  clear OG ht q0 i0 r0 q1 i1 r1 d01
  have hq1 : ¬ ((1 + cntL classE a900 + cntL entryE a901 : Nat) : Int) < 0 := by omega
  generalize ((1 + cntL classE a900 + cntL entryE a901 : Nat) : Int) = Q at *
  have hq2 : (Q != Q) = false := by simp
  clear mz mc900 mc901
  have bm0 := HXw.out.cell 0 rfl
  have bm1 := HXw.out.cell 1 rfl
  have bm2 := HXg.out.cell 0 rfl
  have bm3 := HXg.out.cell 1 rfl
  go_wp2_with fail
  clear bm0 bm1 bm2 bm3
  refine (HH.out _ _ _ QM0.out QM1.out).mono ?_
  rintro e W13 ⟨rfl, hb⟩
  have P := Lib.hid (treeE.frame QRw.out (Same.of_below' hb)); clear QRw; have QRw := P; clear P
  have P := Lib.hid (HXw.out.below hb); clear HXw; have HXw := P; clear P
  have P := Lib.hid (HXg.out.below hb); clear HXg; have HXg := P; clear P
  have P := Lib.hid (QM0.out.frame (Same.of_below' hb)); clear QM0; have QM0 := P; clear P
  have P := Lib.hid (QM1.out.frame (Same.of_below' hb)); clear QM1; have QM1 := P; clear P
  have B1 := Lib.hid (B.out.trans (hb.mono B.out.size)); clear B; have B := B1; clear B1
  have O16 := Lib.hid (hb.size)
  clear hb
  go_wp2_with fail
  refine (HT0.out _ B.out).mono ?_
  rintro e W14 ⟨x0, rfl, q, hb⟩
  have P := Lib.hid (treeE.frame QRw.out (Same.of_below' hb)); clear QRw; have QRw := P; clear P
  have P := Lib.hid (HXw.out.below hb); clear HXw; have HXw := P; clear P
  have P := Lib.hid (HXg.out.below hb); clear HXg; have HXg := P; clear P
  have P := Lib.hid (QM0.out.frame (Same.of_below' hb)); clear QM0; have QM0 := P; clear P
  have P := Lib.hid (QM1.out.frame (Same.of_below' hb)); clear QM1; have QM1 := P; clear P
  have B1 := Lib.hid (B.out.trans (hb.mono B.out.size)); clear B; have B := B1; clear B1
  have O17 := Lib.hid (hb.size)
  have Qx0 := Lib.hid q.at; clear q hb
  obtain ⟨px0, cx0, rfl⟩ := Qx0.out.sl
  have bm0 := HXw.out.cell 0 rfl
  have bm1 := HXw.out.cell 1 rfl
  have bm2 := HXg.out.cell 0 rfl
  have bm3 := HXg.out.cell 1 rfl
  go_wp2_with fail
  clear bm0 bm1 bm2 bm3
  refine (HI.out _ _ _ Qx0.out).mono ?_
  rintro e W15 ⟨⟨u900, u901, rfl, q⟩, hb⟩
  clear Qx0
  have P := Lib.hid (treeE.frame QRw.out (Same.of_below' hb)); clear QRw; have QRw := P; clear P
  have P := Lib.hid (HXw.out.below hb); clear HXw; have HXw := P; clear P
  have P := Lib.hid (HXg.out.below hb); clear HXg; have HXg := P; clear P
  have P := Lib.hid (QM0.out.frame (Same.of_below' hb)); clear QM0; have QM0 := P; clear P
  have P := Lib.hid (QM1.out.frame (Same.of_below' hb)); clear QM1; have QM1 := P; clear P
  have B1 := Lib.hid (B.out.trans (hb.mono B.out.size)); clear B; have B := B1; clear B1
  have O18 := Lib.hid (hb.size)
  have QRh := Lib.hid (treeE.ownAt q); clear q hb
  have Z := tree_atp QRh.out
  obtain ⟨ph900, ch900, rfl⟩ := Z.1.sl
  obtain ⟨ph901, ch901, rfl⟩ := Z.2.sl
  clear Z
  have bm0 := (HXw.out.alloc (.cells #[.slice ph900 a900.length ch900, .slice ph901 a901.length ch901] 54)).cell 0 rfl
  have bm1 := (HXw.out.alloc (.cells #[.slice ph900 a900.length ch900, .slice ph901 a901.length ch901] 54)).cell 1 rfl
  have bm2 := (HXg.out.alloc (.cells #[.slice ph900 a900.length ch900, .slice ph901 a901.length ch901] 54)).cell 0 rfl
  have bm3 := (HXg.out.alloc (.cells #[.slice ph900 a900.length ch900, .slice ph901 a901.length ch901] 54)).cell 1 rfl
  go_wp2_with fail
  clear bm0 bm1 bm2 bm3
  refine calls_by (fun W => Below W15.heap.size W15 W ∧ Blk W W15.heap.size [.slice ph900 a900.length ch900, .slice ph901 a901.length ch901]) ⟨more' (Below.refl _ _) _, Blk.new _ _ _⟩ ?_
  rintro V15 ⟨hb, t⟩
  have P := Lib.hid (treeE.frame QRw.out (Same.of_below' hb)); clear QRw; have QRw := P; clear P
  have P := Lib.hid (HXw.out.below hb); clear HXw; have HXw := P; clear P
  have P := Lib.hid (HXg.out.below hb); clear HXg; have HXg := P; clear P
  have P := Lib.hid (QM0.out.frame (Same.of_below' hb)); clear QM0; have QM0 := P; clear P
  have P := Lib.hid (QM1.out.frame (Same.of_below' hb)); clear QM1; have QM1 := P; clear P
  have P := Lib.hid (treeE.frame QRh.out (Same.of_below' hb)); clear QRh; have QRh := P; clear P
  have B1 := Lib.hid (B.out.trans (hb.mono B.out.size)); clear B; have B := B1; clear B1
  have O19 := Lib.hid (hb.size)
  clear hb
  have O20 := Lib.hid (t.lt)
  have HXh := Lib.hid t; clear t
  refine (HQR.out _ _ _ _ _ _ _ (tree_atp QRh.out).1 (tree_atp QRh.out).2 (tree_atp QRw.out).1 (tree_atp QRw.out).2).mono ?_
  rintro e W16 ⟨rfl, hb⟩
  have P := Lib.hid (treeE.frame QRw.out (Same.of_below' hb)); clear QRw; have QRw := P; clear P
  have P := Lib.hid (HXw.out.below hb); clear HXw; have HXw := P; clear P
  have P := Lib.hid (HXg.out.below hb); clear HXg; have HXg := P; clear P
  have P := Lib.hid (QM0.out.frame (Same.of_below' hb)); clear QM0; have QM0 := P; clear P
  have P := Lib.hid (QM1.out.frame (Same.of_below' hb)); clear QM1; have QM1 := P; clear P
  have P := Lib.hid (treeE.frame QRh.out (Same.of_below' hb)); clear QRh; have QRh := P; clear P
  have P := Lib.hid (HXh.out.below hb); clear HXh; have HXh := P; clear P
  have B1 := Lib.hid (B.out.trans (hb.mono B.out.size)); clear B; have B := B1; clear B1
  have O21 := Lib.hid (hb.size)
  clear hb
  have bm0 := HXw.out.cell 0 rfl
  have bm1 := HXw.out.cell 1 rfl
  have bm2 := HXg.out.cell 0 rfl
  have bm3 := HXg.out.cell 1 rfl
  have bm4 := HXh.out.cell 0 rfl
  have bm5 := HXh.out.cell 1 rfl
  go_wp2_with fail
  clear bm0 bm1 bm2 bm3 bm4 bm5
  refine (HH.out _ _ _ QM0.out QM1.out).mono ?_
  rintro e W17 ⟨rfl, hb⟩
  have P := Lib.hid (treeE.frame QRw.out (Same.of_below' hb)); clear QRw; have QRw := P; clear P
  have P := Lib.hid (HXw.out.below hb); clear HXw; have HXw := P; clear P
  have P := Lib.hid (HXg.out.below hb); clear HXg; have HXg := P; clear P
  have P := Lib.hid (QM0.out.frame (Same.of_below' hb)); clear QM0; have QM0 := P; clear P
  have P := Lib.hid (QM1.out.frame (Same.of_below' hb)); clear QM1; have QM1 := P; clear P
  have P := Lib.hid (treeE.frame QRh.out (Same.of_below' hb)); clear QRh; have QRh := P; clear P
  have P := Lib.hid (HXh.out.below hb); clear HXh; have HXh := P; clear P
  have B1 := Lib.hid (B.out.trans (hb.mono B.out.size)); clear B; have B := B1; clear B1
  have O22 := Lib.hid (hb.size)
  clear hb
  go_wp2
  go_ret
  exact ⟨rfl, B.out⟩
end Go.Proofs.Ytlgafmgohinkbaa
/- Arguments of the laws: where they lie. -/
namespace Go.Proofs.Ytlgafmgohinkbaa
open Go.RowKit

open Go.ChangeShapes Go.WideShapes Go.Joins Go.Deep
theorem opn_str : Opens Try.prog 9 strE := opens_str Try.underlying9
theorem Try.cellStr : Try.prog.cellsOf 9 = strE.n := by kernel_rfl
theorem opn_int : Opens Try.prog 2 intE := opens_int Try.underlying2
theorem opn_bool : Opens Try.prog 4 boolE := opens_bool Try.underlying4
theorem Try.cellRdn : Try.prog.cellsOf 208 = rdnE.n := by kernel_rfl
set_option maxRecDepth 100000 in
theorem opn_rdn : Opens Try.prog 208 rdnE := opens_struct Try.underlying208 Try.cellRdn (ff_cons _ (by rfl) (by rfl) (by kernel_rfl) opn_str (ff_last _ (by rfl) (by rfl) (by kernel_rfl) (by rfl) opn_str))
theorem opn_strS : Opens Try.prog 29 (slE strE) := opens_sl Try.underlying29 Try.cellStr (by decide) opn_str
theorem Try.cellAttr : Try.prog.cellsOf 210 = attrE.n := by kernel_rfl
set_option maxRecDepth 100000 in
theorem opn_attr : Opens Try.prog 210 attrE := opens_struct Try.underlying210 Try.cellAttr (ff_cons _ (by rfl) (by rfl) (by kernel_rfl) opn_str (ff_last _ (by rfl) (by rfl) (by kernel_rfl) (by rfl) opn_strS))
theorem opn_rdnS : Opens Try.prog 123 (slE rdnE) := opens_sl Try.underlying123 Try.cellRdn (by decide) opn_rdn
theorem opn_attrS : Opens Try.prog 124 (slE attrE) := opens_sl Try.underlying124 Try.cellAttr (by decide) opn_attr
theorem Try.cellEntry : Try.prog.cellsOf 126 = entryE.n := by kernel_rfl
set_option maxRecDepth 100000 in
theorem opn_entry : Opens Try.prog 126 entryE := opens_struct Try.underlying126 Try.cellEntry (ff_cons _ (by rfl) (by rfl) (by kernel_rfl) opn_rdnS (ff_last _ (by rfl) (by rfl) (by kernel_rfl) (by rfl) opn_attrS))
theorem Try.cellNode : Try.prog.cellsOf 102 = nodeE.n := by kernel_rfl
set_option maxRecDepth 100000 in
theorem opn_node : Opens Try.prog 102 nodeE := opens_struct Try.underlying102 Try.cellNode (ff_cons _ (by rfl) (by rfl) (by kernel_rfl) opn_int (ff_cons _ (by rfl) (by rfl) (by kernel_rfl) opn_str (ff_cons _ (by rfl) (by rfl) (by kernel_rfl) opn_str (ff_last _ (by rfl) (by rfl) (by kernel_rfl) (by rfl) opn_int))))
theorem Try.cellClass : Try.prog.cellsOf 134 = classE.n := by kernel_rfl
set_option maxRecDepth 100000 in
theorem opn_class : Opens Try.prog 134 classE := opens_struct Try.underlying134 Try.cellClass (ff_cons _ (by rfl) (by rfl) (by kernel_rfl) opn_str (ff_cons _ (by rfl) (by rfl) (by kernel_rfl) opn_strS (ff_cons _ (by rfl) (by rfl) (by kernel_rfl) opn_strS (ff_last _ (by rfl) (by rfl) (by kernel_rfl) (by rfl) opn_strS))))
theorem Try.cellMod : Try.prog.cellsOf 35 = modE.n := by kernel_rfl
set_option maxRecDepth 100000 in
theorem opn_mod : Opens Try.prog 35 modE := opens_struct Try.underlying35 Try.cellMod (ff_cons _ (by rfl) (by rfl) (by kernel_rfl) opn_int (ff_cons _ (by rfl) (by rfl) (by kernel_rfl) opn_str (ff_last _ (by rfl) (by rfl) (by kernel_rfl) (by rfl) opn_strS)))
theorem opn_entryS : Opens Try.prog 42 (slE entryE) := opens_sl Try.underlying42 Try.cellEntry (by decide) opn_entry
theorem opn_nodeS : Opens Try.prog 22 (slE nodeE) := opens_sl Try.underlying22 Try.cellNode (by decide) opn_node
theorem opn_classS : Opens Try.prog 50 (slE classE) := opens_sl Try.underlying50 Try.cellClass (by decide) opn_class
set_option maxRecDepth 100000 in
theorem opv_rdn {H : Type} {enc : TypeId × Value → H} {w : World} {base : Nat} {spare : Nat → Bool} {held : Bool} {r : Reach} {b0 : Nat} {v : Value} {d : DataW H} {p : List MemPlace} (hv : Value.okWide Try.prog w r b0 208 v) (h : DataW.Trod enc Try.prog w base spare held 208 v d p) :
    ∃ (a0 : ByteArray) (a1 : ByteArray) , v = .agg #[.string a0, .string a1] ∧ (True) ∧ rdnE.long (a0, a1) := by
  obtain ⟨cs, a, rfl, h1, h2⟩ := opv_struct Try.underlying208 opn_rdn hv h
  obtain ⟨a0, a1, rfl, e1, hq⟩ := rdn_atq h1
  refine ⟨a0, a1, agg_eq e1, ?_, h2⟩
  exact hq
set_option maxRecDepth 100000 in
theorem opv_attr {H : Type} {enc : TypeId × Value → H} {w : World} {base : Nat} {spare : Nat → Bool} {held : Bool} {r : Reach} {b0 : Nat} {v : Value} {d : DataW H} {p : List MemPlace} (hv : Value.okWide Try.prog w r b0 210 v) (h : DataW.Trod enc Try.prog w base spare held 210 v d p) :
    ∃ (a0 : ByteArray) (a1 : (List ByteArray)) (v1 : Value), v = .agg #[.string a0, v1] ∧ (SlAt strE (All w) w a1 v1) ∧ attrE.long (a0, a1) := by
  obtain ⟨cs, a, rfl, h1, h2⟩ := opv_struct Try.underlying210 opn_attr hv h
  obtain ⟨a0, a1, v1, rfl, e1, hq⟩ := attr_atq h1
  refine ⟨a0, a1, v1, agg_eq e1, ?_, h2⟩
  exact hq.1
set_option maxRecDepth 100000 in
theorem opv_entry {H : Type} {enc : TypeId × Value → H} {w : World} {base : Nat} {spare : Nat → Bool} {held : Bool} {r : Reach} {b0 : Nat} {v : Value} {d : DataW H} {p : List MemPlace} (hv : Value.okWide Try.prog w r b0 126 v) (h : DataW.Trod enc Try.prog w base spare held 126 v d p) :
    ∃ (a0 : (List RdnT)) (a1 : (List AttrT)) (v0 v1 : Value), v = .agg #[v0, v1] ∧ (SlAt rdnE (All w) w a0 v0 ∧ SlAt attrE (All w) w a1 v1) ∧ entryE.long (a0, a1) := by
  obtain ⟨cs, a, rfl, h1, h2⟩ := opv_struct Try.underlying126 opn_entry hv h
  obtain ⟨a0, a1, v0, v1, rfl, e1, hq⟩ := entry_atq h1
  refine ⟨a0, a1, v0, v1, agg_eq e1, ?_, h2⟩
  exact ⟨hq.1, hq.2.1⟩
set_option maxRecDepth 100000 in
theorem opv_node {H : Type} {enc : TypeId × Value → H} {w : World} {base : Nat} {spare : Nat → Bool} {held : Bool} {r : Reach} {b0 : Nat} {v : Value} {d : DataW H} {p : List MemPlace} (hv : Value.okWide Try.prog w r b0 102 v) (h : DataW.Trod enc Try.prog w base spare held 102 v d p) :
    ∃ (a0 : Int) (a1 : ByteArray) (a2 : ByteArray) (a3 : Int) , v = .agg #[.int .i64 a0, .string a1, .string a2, .int .i64 a3] ∧ (True) ∧ nodeE.long (a0, a1, a2, a3) := by
  obtain ⟨cs, a, rfl, h1, h2⟩ := opv_struct Try.underlying102 opn_node hv h
  obtain ⟨a0, a1, a2, a3, rfl, e1, hq⟩ := node_atq h1
  refine ⟨a0, a1, a2, a3, agg_eq e1, ?_, h2⟩
  exact hq
set_option maxRecDepth 100000 in
theorem opv_class {H : Type} {enc : TypeId × Value → H} {w : World} {base : Nat} {spare : Nat → Bool} {held : Bool} {r : Reach} {b0 : Nat} {v : Value} {d : DataW H} {p : List MemPlace} (hv : Value.okWide Try.prog w r b0 134 v) (h : DataW.Trod enc Try.prog w base spare held 134 v d p) :
    ∃ (a0 : ByteArray) (a1 : (List ByteArray)) (a2 : (List ByteArray)) (a3 : (List ByteArray)) (v1 v2 v3 : Value), v = .agg #[.string a0, v1, v2, v3] ∧ (SlAt strE (All w) w a1 v1 ∧ SlAt strE (All w) w a2 v2 ∧ SlAt strE (All w) w a3 v3) ∧ classE.long (a0, a1, a2, a3) := by
  obtain ⟨cs, a, rfl, h1, h2⟩ := opv_struct Try.underlying134 opn_class hv h
  obtain ⟨a0, a1, a2, a3, v1, v2, v3, rfl, e1, hq⟩ := class_atq h1
  refine ⟨a0, a1, a2, a3, v1, v2, v3, agg_eq e1, ?_, h2⟩
  exact ⟨hq.1, hq.2.1, hq.2.2.1⟩
set_option maxRecDepth 100000 in
theorem opv_mod {H : Type} {enc : TypeId × Value → H} {w : World} {base : Nat} {spare : Nat → Bool} {held : Bool} {r : Reach} {b0 : Nat} {v : Value} {d : DataW H} {p : List MemPlace} (hv : Value.okWide Try.prog w r b0 35 v) (h : DataW.Trod enc Try.prog w base spare held 35 v d p) :
    ∃ (a0 : Int) (a1 : ByteArray) (a2 : (List ByteArray)) (v2 : Value), v = .agg #[.int .i64 a0, .string a1, v2] ∧ (SlAt strE (All w) w a2 v2) ∧ modE.long (a0, a1, a2) := by
  obtain ⟨cs, a, rfl, h1, h2⟩ := opv_struct Try.underlying35 opn_mod hv h
  obtain ⟨a0, a1, a2, v2, rfl, e1, hq⟩ := mod_atq h1
  refine ⟨a0, a1, a2, v2, agg_eq e1, ?_, h2⟩
  exact hq.1
end Go.Proofs.Ytlgafmgohinkbaa
