/- Merged texts: ChS1, ChS2, HalfT, Held2, Held3, VwS00, L3c, L8. -/
import Derived.Test.YtmanlnlhpgdbpaaGreatM6
import Derived.Test.YtmanlnlhpgdbpaaGreatM9
import Derived.Deep.AppendLies
import Derived.Deep.RegionHeld
import Derived.Test.YtmanlnlhpgdbpaaGreatM3
import Derived.Test.YtmanlnlhpgdbpaaGreatM7
/- Change logs: the specification's small functions. -/
namespace Go.Proofs.YtmanlnlhpgdbpaaGreat
open Go.RowKit
attribute [local go_sem ↓] Go.wp_at_zero Go.wp_at_succ

set_option maxRecDepth 100000 in
set_option maxHeartbeats 1000000 in
theorem l08None_any (o3 o4 : Option Addr) (n3 n4 k3 k4 : Nat) (w : World) :
    Calls Tryz.prog 64 #[.agg #[.slice o3 n3 k3, .slice o4 n4 k4]] w fun e w' => e = .returned (.bool (decide (n3 = 0) && decide (n4 = 0))) ∧ Below w.heap.size w w' := by
  have e3 := len_zero n3
  have e4 := len_zero n4
  generalize decide (n3 = 0) = r3 at *
  generalize decide (n4 = 0) = r4 at *
  go_enter Tryz.func64, Tryz.ntmps64
  cases r3
  · go_wp2
    go_ret
    exact ⟨rfl, more' (Below.refl _ _) _⟩
  · go_wp2
    go_ret
    exact ⟨rfl, more' (Below.refl _ _) _⟩
set_option maxRecDepth 100000 in
set_option maxHeartbeats 1000000 in
theorem l02Is_any (n a b : Int) (w : World) :
    Calls Tryz.prog 31 #[.int .i64 n, .int .i64 a, .int .i64 b] w fun e w' => e = .returned (.bool (decide (a ≤ n) && decide (n ≤ b))) ∧ w = w' := by
  by_cases h : a ≤ n
  · have h1 : decide (a ≤ n) = true := by simpa using h
    rw [h1]
    go_enter Tryz.func31, Tryz.ntmps31
    go_wp2
    go_ret
    exact ⟨by simp, rfl⟩
  · have h1 : decide (a ≤ n) = false := by simpa using h
    rw [h1]
    go_enter Tryz.func31, Tryz.ntmps31
    go_wp2
    go_ret
    exact ⟨by simp, rfl⟩
/-- kind, name and entry of a change -/
noncomputable def rightC (k : Int) (d : RdnL) (a : RdnL) (b : List AttrV) : Bool := decide (0 < d.length) && dnB d && mayB k a b
set_option maxRecDepth 100000 in
set_option maxHeartbeats 1000000 in
theorem l08Right_any {S3 S4 S5 : Bs} (k : Int) (d : List RdnT) (a3 : List RdnT) (a4 : List AttrT) (v v3 v4 : Value) (w : World) (hd : SlAt rdnE S5 w d v) (h3 : SlAt rdnE S3 w a3 v3) (h4 : SlAt attrE S4 w a4 v4) (hzd : Fits d) (hz : entryE.sz (a3, a4) ≤ 1048576) :
    Calls Tryz.prog 33 #[.int .i64 k, v, .agg #[v3, v4]] w fun e w' => e = .returned (.bool (rightC k d a3 a4)) ∧ Below w.heap.size w w' := by
  have HE : entryE.sz (a3, a4) = (a3.length + szL rdnE a3) + (a4.length + szL attrE a4) := rfl
  rw [HE] at hz
  obtain ⟨o, c, rfl⟩ := hd.sl
  obtain ⟨o3, k3, rfl⟩ := h3.sl
  obtain ⟨o4, k4, rfl⟩ := h4.sl
  have CR : Hid (∀ W : World, Below w.heap.size w W → Calls Tryz.prog 65 #[.agg #[.slice o3 a3.length k3, .slice o4 a4.length k4]] W fun e w' => e = .returned (.bool (rightB a3 a4)) ∧ Below W.heap.size W w') := Lib.hid (fun W b => SpecEntryRight_any o3 o4 a3 a4 k3 k4 W ((dn_of h3).below b) ((attrs_of h4).below b) (fits_dn (by omega)) (fits_attrs (by omega)))
  have CZ : Hid (∀ W : World, Calls Tryz.prog 64 #[.agg #[.slice o3 a3.length k3, .slice o4 a4.length k4]] W fun e w' => e = .returned (.bool (noneB a3 a4)) ∧ Below W.heap.size W w') := Lib.hid (fun W => l08None_any o3 o4 _ _ k3 k4 W)
  have CI : Hid (∀ W : World, Calls Tryz.prog 31 #[.int .i64 k, .int .i64 1, .int .i64 4] W fun e w' => e = .returned (.bool (decide (1 ≤ k) && decide (k ≤ 4))) ∧ W = w') := Lib.hid (fun W => l02Is_any k 1 4 W)
  have CD : Hid (∀ W : World, Below w.heap.size w W → Calls Tryz.prog 63 #[.slice o d.length c] W fun e w' => e = .returned (.bool (dnB d)) ∧ Below W.heap.size W w') := Lib.hid (fun W b => SpecDnRight_any o d c W ((dn_of hd).below b) hzd)
  have M2 : Hid (k = 2 → mayB k a3 a4 = noneB a3 a4) := Lib.hid (fun h => by subst h; simp [mayB])
  have M1 : Hid (1 ≤ k → k ≤ 4 → k ≠ 2 → mayB k a3 a4 = rightB a3 a4) := Lib.hid (fun h1 h2 h3 => by
    have : k = 1 ∨ k = 3 ∨ k = 4 := by omega
    rcases this with rfl | rfl | rfl <;> simp [mayB])
  have M3 : Hid ((decide (1 ≤ k) && decide (k ≤ 4)) = false → rightC k d a3 a4 = false) := Lib.hid (fun h => by
    have h1 : k ≠ 1 ∧ k ≠ 2 ∧ k ≠ 3 ∧ k ≠ 4 := by
      refine ⟨?_, ?_, ?_, ?_⟩ <;> (rintro rfl; simp at h)
    simp [rightC, mayB, h1])
  have HR : Hid (rightC k d a3 a4 = (decide (0 < d.length) && dnB d && mayB k a3 a4)) := Lib.hid rfl
  have HK : Hid ((decide (1 ≤ k) && decide (k ≤ 4)) = true → 1 ≤ k ∧ k ≤ 4) := Lib.hid (fun h => by simpa using h)
  have e0 := len_zero d.length
  have HN : Hid (decide (d.length = 0) = !decide (0 < d.length)) := Lib.hid (by by_cases h : d.length = 0 <;> simp [h] <;> omega)
  clear hd h3 h4 hz hzd HE
  rw [HN.out] at e0
  generalize mayB k a3 a4 = m at *
  generalize rightC k d a3 a4 = R at *
  generalize dnB d = dr at *
  generalize noneB a3 a4 = nz at *
  generalize rightB a3 a4 = rr at *
  generalize (decide (1 ≤ k) && decide (k ≤ 4)) = ki at *
  generalize decide (0 < d.length) = d0 at *
  have W0 := (Blk.new w 46 [.slice o3 a3.length k3, .slice o4 a4.length k4])
  go_enter Tryz.func33, Tryz.ntmps33
  go_wp2_with fail
  refine calls_by (fun W => Below w.heap.size w W ∧ Blk W w.heap.size [.slice o3 a3.length k3, .slice o4 a4.length k4]) ⟨more' (Below.refl _ _) _, W0⟩ ?_
  rintro W1 ⟨b1, t1⟩
  refine (CI.out W1).mono ?_
  rintro e w2 ⟨rfl, rfl⟩
  have T1 := Lib.hid t1; clear t1 W0
  cases ki
  · have HRR := Lib.hid (M3.out rfl)
    go_wp2
    go_ret
    exact ⟨ret_bool HRR.out.symm, b1⟩
  obtain ⟨hk1, hk2⟩ := HK.out rfl
  cases d0
  · have e0' : ((d.length : Int) == 0) = true := e0
    go_wp2
    go_ret
    exact ⟨ret_bool (by rw [HR.out]; rfl), b1⟩
  have e0' : ((d.length : Int) == 0) = false := e0
  clear e0
  go_wp2_with fail
  refine (CD.out W1 b1).mono ?_
  rintro e w3 ⟨rfl, hb⟩
  have b3 := b1.trans (hb.mono b1.size); have T3 := Lib.hid (T1.out.below hb)
  clear hb T1
  cases dr
  · go_wp2
    go_ret
    exact ⟨ret_bool (by rw [HR.out]; rfl), b3⟩
  have x0 := T3.out.cell 0 rfl; have x1 := T3.out.cell 1 rfl
  by_cases c2 : k = 2
  · have HM := Lib.hid (M2.out c2)
    have c2' : (k == 2) = true := by simpa using c2
    go_wp2_with fail
    refine (CZ.out w3).mono ?_
    rintro e w4 ⟨rfl, hb⟩
    go_wp2
    go_ret
    exact ⟨ret_bool (by rw [HR.out, HM.out]; rfl), b3.trans (hb.mono b3.size)⟩
  · have HM := Lib.hid (M1.out hk1 hk2 c2)
    have c2' : (k == 2) = false := by simpa using c2
    go_wp2_with fail
    refine (CR.out w3 b3).mono ?_
    rintro e w4 ⟨rfl, hb⟩
    go_wp2
    go_ret
    exact ⟨ret_bool (by rw [HR.out, HM.out]; rfl), b3.trans (hb.mono b3.size)⟩
end Go.Proofs.YtmanlnlhpgdbpaaGreat
/- Change logs: what the specification's ChangesRight returns. -/
namespace Go.Proofs.YtmanlnlhpgdbpaaGreat
open Go.RowKit
attribute [local go_sem ↓] Go.wp_at_zero Go.wp_at_succ

theorem good_short {s : ByteArray} (h : goodB s = true) : s.size ≤ 8000 := by
  unfold goodB at h
  rw [Bool.and_eq_true] at h
  have e := text_eq h.2
  have h1 := text_short h.1
  have e2 : (textS (scanL s.data.toList)).size = (textL (scanL s.data.toList)).length := by simp [textS, ByteArray.size]
  rw [e, size_len] at e2
  omega
/-- what is read of a text -/
def Reads (s : ByteArray) (w : World) (e : Ending) (w' : World) : Prop := (∃ (d : RdnL) (o : Option Addr) (k : Nat) (b : Bool), e = .returned (.tuple #[.slice o d.length k, .bool b]) ∧ SlAt rdnE (Fresh w w') w' d (.slice o d.length k) ∧ Fits d ∧ ∀ q a3 a4, (b && rightC q d a3 a4) = (decide (0 < (readD s).length) && mayB q a3 a4)) ∧ Below w.heap.size w w'
theorem read_any (s : ByteArray) (w : World) (hm : s.size ≤ 1048575) : Calls Tryz.prog 32 #[.string s] w (Reads s w) := by
  by_cases h0 : s.size = 0
  · refine (l02Read_none s w h0).mono ?_
    rintro e w' ⟨⟨v, he, ho⟩, hb⟩
    obtain ⟨o, k, rfl⟩ := own_slice ho
    have ho' := own_rdns (l := []) ho
    refine ⟨⟨[], o, k, true, he, ho'.at.wide (fun b h => h), ⟨by simp, by simp⟩, fun q a3 a4 => ?_⟩, hb⟩
    have e1 := (good_empty h0)
    have e2 := read_good (s := s) (by omega) e1.1
    rw [e2.2, e1.2]
    simp [rightC]
  · refine (l02Read_some s w hm (by omega)).mono ?_
    rintro e w' ⟨⟨v, he, ho⟩, hb⟩
    obtain ⟨o, k, rfl⟩ := own_slice ho
    have ho' := own_rdns ho
    have hfit := spec_fits s hm (specD s.data.toList).length
    rw [List.take_length] at hfit
    refine ⟨⟨specD s.data.toList, o, k, okB s, he, ho'.at.wide (fun b h => h), hfit, fun q a3 a4 => ?_⟩, hb⟩
    rw [ok_iff (by omega)]
    cases hg : goodB s
    · have : readD s = [] := by
        by_cases h8 : 8000 < s.size
        · exact (read_long h8).2
        · exact (read_bad h8 hg).2
      rw [this]; simp
    · have h8 := good_short hg
      have e2 := read_good (s := s) (by omega) hg
      have e3 := (ok_good (by rw [ok_iff (by omega)]; exact hg) (by omega : 0 < s.size)).2
      rw [e2.2, e3]
      have hdn : dnB (scanL s.data.toList) = true := by unfold goodB at hg; rw [Bool.and_eq_true] at hg; exact hg.1
      simp [rightC, hdn]
set_option maxRecDepth 100000 in
set_option maxHeartbeats 2000000 in
theorem SpecChangesRight_any {S : Bs} (n : Int) (v : Value) (d : List ChangeT) (w : World) (hd : SlAt changeE S w d v) (hz : d.length + szL changeE d ≤ 1048576) :
    Calls Tryz.prog 8 #[.agg #[.int .i64 n, v]] w fun e w' => e = .returned (.bool (chsB n d)) ∧ Below w.heap.size w w' := by
  obtain ⟨ao, ca, rfl⟩ := hd.sl
  have HA := Lib.hid hd
  have HZ : Hid (∀ x ∈ d, changeE.sz x ≤ 1048575) := Lib.hid (fun x h => by have h1 := szL_mem changeE h; have h2 := List.length_pos_of_mem h; omega)
  have hl : d.length ≤ 1048576 := by omega
  have HB := Lib.hid (@chsB_bad n d)
  have HG := Lib.hid (@chsB_good n d)
  clear hd hz
  generalize chsB n d = R at *
  have CI : Hid (∀ W : World, Calls Tryz.prog 31 #[.int .i64 n, .int .i64 1, .int .i64 1000000] W fun e w' => e = .returned (.bool (decide (1 ≤ n) && decide (n ≤ 1000000))) ∧ W = w') := Lib.hid (fun W => l02Is_any n 1 1000000 W)
  have HI : Hid ((decide (1 ≤ n) && decide (n ≤ 1000000)) = true → 1 ≤ n ∧ n ≤ 1000000) := Lib.hid (fun h => by simpa using h)
  have HI2 : Hid ((decide (1 ≤ n) && decide (n ≤ 1000000)) = false → ¬ (1 ≤ n ∧ n ≤ 1000000)) := Lib.hid (fun h x => by rw [decide_eq_true x.1, decide_eq_true x.2] at h; cases h)
  generalize (decide (1 ≤ n) && decide (n ≤ 1000000)) = ni at *
  go_enter Tryz.func8, Tryz.ntmps8
  go_wp2_with fail
  refine calls_by (fun W => Below w.heap.size w W ∧ Blk W w.heap.size [.int .i64 n, .slice ao d.length ca]) ⟨more' (Below.refl _ _) _, Blk.new _ _ _⟩ ?_
  rintro W1 ⟨b1, t1⟩
  refine (CI.out W1).mono ?_
  rintro e w2 ⟨rfl, rfl⟩
  have T1 := Lib.hid t1; clear t1
  have x1 := T1.out.cell 1 rfl
  cases ni
  · have HR := Lib.hid (HB.out (fun h => HI2.out rfl ⟨h.1, h.2.1⟩))
    go_wp2
    go_ret
    exact ⟨ret_bool HR.out.symm, b1⟩
  obtain ⟨hn1, hn2⟩ := HI.out rfl
  by_cases c3 : 40 < d.length
  · have HR := Lib.hid (HB.out (by omega))
    have c3' : (40 : Int) < (d.length : Int) := by omega
    go_wp2
    go_ret
    exact ⟨ret_bool HR.out.symm, b1⟩
  have c3' : ¬ (40 : Int) < (d.length : Int) := by omega
  have HG' : Hid (1 ≤ n - (d.length : Int) → numsB (n - d.length) d = true → R = true) := Lib.hid (fun h1 h2 => HG.out (by omega) (by omega) (by omega) h1 h2)
  have HB' : Hid (¬ (1 ≤ n - (d.length : Int) ∧ numsB (n - d.length) d = true) → R = false) := Lib.hid (fun h => HB.out (fun x => h ⟨x.2.2.2.1, x.2.2.2.2⟩))
  clear HG HB HI HI2 CI
  have CR : Hid (∀ (W : World) (s : ByteArray), s.size ≤ 1048575 → Calls Tryz.prog 32 #[.string s] W (Reads s W)) := Lib.hid (fun W s h => read_any s W h)
  have CQ : Hid (∀ (W : World) (q : Int) (dn a3 : List RdnT) (a4 : List AttrT) (v v3 v4 : Value) (S5 S3 S4 : Bs), SlAt rdnE S5 W dn v → SlAt rdnE S3 W a3 v3 → SlAt attrE S4 W a4 v4 → Fits dn → entryE.sz (a3, a4) ≤ 1048576 → Calls Tryz.prog 33 #[.int .i64 q, v, .agg #[v3, v4]] W fun e w' => e = .returned (.bool (rightC q dn a3 a4)) ∧ Below W.heap.size W w') := Lib.hid (fun W q dn a3 a4 v v3 v4 S5 S3 S4 h5 h3 h4 f z => l08Right_any q dn a3 a4 v v3 v4 W h5 h3 h4 f z)
  have hd40 : d.length ≤ 40 := by omega
  go_wp2_with fail
  go_loopw [3] (fun i wr => ∃ k : Nat, k ≤ d.length ∧ i = .int .i64 k ∧ numsB (n - d.length) (d.take k) = true ∧ (0 < k → 1 ≤ n - (d.length : Int)) ∧ Below w.heap.size w wr ∧ Blk wr w.heap.size [.int .i64 n, .slice ao d.length ca]) (fun i _ => d.length - (intOf i).toNat)
  case atStart => exact ⟨0, Nat.zero_le _, rfl, by simp [numsB], fun h => absurd h (Nat.lt_irrefl _), b1, T1.out⟩
  case round =>
    clear b1 x1 T1
    obtain ⟨k, hk, rfl, hgood, hpos, hbel, ht⟩ := hrel
    have HGood := Lib.hid hgood; clear hgood
    have HP := Lib.hid hpos; clear hpos
    have T := Lib.hid ht; clear ht
    have x0 := T.out.cell 0 rfl; have x1 := T.out.cell 1 rfl
    by_cases hlt : k < d.length
    · obtain ⟨b, off, a0, a1, a2, a3, a4, v3, v4, rfl, _, hb0, hx, ⟨hc0, hc1, hc2, hc3, hc4⟩, s3, s4, _⟩ := change_row (HA.out.frame (Same.of_below' hbel)) hlt
      have HZ1 : changeE.sz (a0, a1, a2, (a3, a4)) ≤ 1048575 := by have := HZ.out _ (List.getElem_mem hlt); rw [hx] at this; exact this
      have HE : changeE.sz (a0, a1, a2, (a3, a4)) = 0 + (0 + (a2.size + entryE.sz (a3, a4))) := rfl
      rw [HE] at HZ1
      have HZs : Hid (a2.size ≤ 1048575) := Lib.hid (by omega)
      have HZe : Hid (entryE.sz (a3, a4) ≤ 1048576) := Lib.hid (by omega)
      have HT : Hid (numsB (n - d.length) (d.take (k + 1)) = (numsB (n - d.length) (d.take k) && (decide (a0 = n - d.length + k) && chgB (a0, a1, a2, (a3, a4))))) := Lib.hid (by rw [numsB_take _ d k hlt, hx])
      have HN : Hid (1 ≤ n - (d.length : Int) ∧ numsB (n - d.length) d = true → a0 = n - d.length + k ∧ 1 ≤ a0 ∧ chgB (a0, a1, a2, (a3, a4)) = true) := Lib.hid (fun h => by have h1 := numsB_at _ d h.2 k hlt; rw [hx] at h1; exact ⟨h1.1, by have h2 : a0 = n - d.length + k := h1.1; omega, h1.2⟩)
      obtain ⟨o3, k3, rfl⟩ := s3.sl
      obtain ⟨o4, k4, rfl⟩ := s4.sl
      have HS3 := Lib.hid s3; have HS4 := Lib.hid s4
      have HC : Hid (chgB (a0, a1, a2, (a3, a4)) = (decide (0 < (readD a2).length) && mayB a1 a3 a4)) := Lib.hid rfl
      clear s3 s4 hx HZ1 HE
      generalize chgB (a0, a1, a2, (a3, a4)) = rr at *
      have g1 : (0 : Int) ≤ (k : Int) := by omega
      have g2 : (k : Int) < (d.length : Int) := by omega
      go_wp2_with fail
      refine calls_by (fun W => Below wr.heap.size wr W ∧ Blk W wr.heap.size [.int .i64 a0, .int .i64 a1, .string a2, .slice o3 a3.length k3, .slice o4 a4.length k4]) ⟨more' (Below.refl _ _) _, Blk.new _ _ _⟩ ?_
      rintro W1 ⟨d1, u1⟩
      refine (CR.out W1 a2 HZs.out).mono ?_
      clear hc0 hc1 hc2 hc3 hc4 x0 x1
      rintro e w2 ⟨⟨dn, od, kd, b, rfl, hdn, hfit, hq⟩, hb⟩
      have d2 := d1.trans (hb.mono d1.size)
      have b2 := hbel.trans (d2.mono hbel.size); have T2 := Lib.hid (T.out.below d2); have U2 := Lib.hid (u1.below hb)
      have HDN := Lib.hid hdn; have HF := Lib.hid hfit
      have HQ : Hid ((b && rightC a1 dn a3 a4) = rr) := Lib.hid (by rw [HC.out]; exact hq a1 a3 a4)
      have CQk : Hid (Calls Tryz.prog 33 #[.int .i64 a1, .slice od dn.length kd, .agg #[.slice o3 a3.length k3, .slice o4 a4.length k4]] w2 fun e w' => e = .returned (.bool (rightC a1 dn a3 a4)) ∧ Below w2.heap.size w2 w') := Lib.hid (CQ.out w2 a1 dn a3 a4 _ _ _ _ _ _ hdn (HS3.out.frame (Same.of_below' d2)) (HS4.out.frame (Same.of_below' d2)) hfit HZe.out)
      clear hb d1 u1 hdn hfit hq d2
      generalize rightC a1 dn a3 a4 = rq at *
      have x0 := T2.out.cell 0 rfl; have x1 := T2.out.cell 1 rfl
      have y0 := U2.out.cell 0 rfl; have y1 := U2.out.cell 1 rfl; have y3 := U2.out.cell 3 rfl; have y4 := U2.out.cell 4 rfl
      cases b
      · have HR := Lib.hid (HB'.out (fun h => by have h1 := (HN.out h).2.2; rw [← HQ.out] at h1; cases h1))
        go_wp2
        go_ret
        exact ⟨ret_bool HR.out.symm, b2⟩
      go_wp2_with fail
      refine CQk.out.mono ?_
      rintro e w3 ⟨rfl, hb⟩
      have b3 := b2.trans (hb.mono b2.size); have T3 := Lib.hid (T2.out.below hb); have U3 := Lib.hid (U2.out.below hb)
      clear hb x0 x1 y0 y1 y3 y4
      have x0 := T3.out.cell 0 rfl; have x1 := T3.out.cell 1 rfl
      have y0 := U3.out.cell 0 rfl
      cases rq
      · have HR := Lib.hid (HB'.out (fun h => by have h1 := (HN.out h).2.2; rw [← HQ.out] at h1; cases h1))
        go_wp2
        go_ret
        exact ⟨ret_bool HR.out.symm, b3⟩
      by_cases e1 : a0 < 1
      · have HR := Lib.hid (HB'.out (fun h => by have h1 := (HN.out h).2.1; omega))
        go_wp2
        go_ret
        exact ⟨ret_bool HR.out.symm, b3⟩
      by_cases e2 : a0 = n - ((d.length : Int) - (k : Int))
      · have e2' : (a0 != n - ((d.length : Int) - (k : Int))) = false := by simpa using e2
        have e3 : a0 = n - (d.length : Int) + (k : Int) := by omega
        have HT2 : Hid (numsB (n - d.length) (d.take (k + 1)) = true) := Lib.hid (by rw [HT.out, HGood.out, ← HQ.out]; simp [e3])
        clear e3
        have HP2 : Hid (0 < k + 1 → 1 ≤ n - (d.length : Int)) := Lib.hid (fun _ => by
          by_cases h0 : 0 < k
          · exact HP.out h0
          · omega)
        clear e2
        go_wp2
        go_roundw
        case rel => exact ⟨k + 1, by omega, by go_num, HT2.out, HP2.out, b3, T3.out⟩
        case measure => simp [intOf]; omega
      · have e2' : (a0 != n - ((d.length : Int) - (k : Int))) = true := by simpa using e2
        have HR := Lib.hid (HB'.out (fun h => by have h1 := (HN.out h).1; omega))
        clear e2
        go_wp2
        go_ret
        exact ⟨ret_bool HR.out.symm, b3⟩
    · have e : d.take k = d := List.take_of_length_le (by omega)
      have HO : Hid (numsB (n - d.length) d = true) := Lib.hid (by have := HGood.out; rw [e] at this; exact this)
      have HR : Hid (R = true) := Lib.hid (HG'.out (by
        by_cases h0 : 0 < k
        · exact HP.out h0
        · omega) HO.out)
      clear e
      go_wp2
      go_ret
      exact ⟨ret_bool HR.out.symm, hbel⟩
end Go.Proofs.YtmanlnlhpgdbpaaGreat
/- Rows in a new block, made owned one after the other. -/
namespace Go.Proofs.YtmanlnlhpgdbpaaGreat
open Go.RowKit

section
variable {α : Type} {e : Enc α}
/-- the cells of all rows, one after the other -/
theorem all_cells {S : Bs} {w : World} {d : List α} {b off cap : Nat} (hn : 0 < e.n) (h : SlAt e S w d (.slice (some ⟨b, off, none⟩) d.length cap)) :
    ∃ xs : List Value, xs.length = d.length * e.n ∧ (∀ j u, xs[j]? = some u → w.cell? ⟨b, off + j, none⟩ = some u) ∧ ∀ i (h : i < d.length), ∃ cs, (∀ j (h : j < cs.length), xs[i * e.n + j]? = some cs[j]) ∧ e.At S w d[i] cs := by
  have hrow : ∀ i (h : i < d.length), ∃ cs, Cells w b (off + i * e.n) cs ∧ e.At S w d[i] cs := fun i hi => by
    obtain ⟨b', off', cs, e1, _, _, q1, q2⟩ := h.row hi
    cases e1
    exact ⟨cs, q1, q2⟩
  have hcell : ∀ j, j < d.length * e.n → ∃ u, w.cell? ⟨b, off + j, none⟩ = some u := fun j hj => by
    have hi : j / e.n < d.length := Nat.div_lt_of_lt_mul (by rw [Nat.mul_comm]; exact hj)
    obtain ⟨cs, q1, q2⟩ := hrow _ hi
    have hl := e.len q2
    have hm : j % e.n < cs.length := by rw [hl]; exact Nat.mod_lt _ hn
    have := q1 _ hm
    have ej : off + j / e.n * e.n + j % e.n = off + j := by have := Nat.div_add_mod j e.n; rw [Nat.mul_comm] at this; omega
    rw [ej] at this
    exact ⟨_, this⟩
  have hget : ∀ j, j < d.length * e.n → ((List.range (d.length * e.n)).map (fun j => (w.cell? ⟨b, off + j, none⟩).getD (.bool false)))[j]? = w.cell? ⟨b, off + j, none⟩ := fun j hj => by
    obtain ⟨u, hu⟩ := hcell j hj
    rw [List.getElem?_map, List.getElem?_range hj]
    simp [hu]
  refine ⟨(List.range (d.length * e.n)).map (fun j => (w.cell? ⟨b, off + j, none⟩).getD (.bool false)), by simp, fun j u hu => ?_, fun i hi => ?_⟩
  · have hj : j < d.length * e.n := by have := (List.getElem?_eq_some_iff.1 hu).1; simpa using this
    rw [hget j hj] at hu; exact hu
  · obtain ⟨cs, q1, q2⟩ := hrow i hi
    refine ⟨cs, fun j hj => ?_, q2⟩
    have hl := e.len q2
    have hm : (i + 1) * e.n ≤ d.length * e.n := Nat.mul_le_mul_right _ (by omega)
    rw [Nat.add_mul] at hm
    rw [hget _ (by omega), ← Nat.add_assoc]; exact q1 j hj
/-- rows in a new block: those before k are owned, the others still speak of what was there before -/
structure Half (e : Enc α) (S : Bs) (w0 w : World) (g : Nat) (d : List α) (k : Nat) : Prop where
  ge : w0.heap.size ≤ g
  ex : ∃ P : Nat → Bs, (∀ i, i < k → ¬ P i g ∧ ∀ b, P i b → w0.heap.size ≤ b ∧ b < w.heap.size) ∧ (∀ i j, i < k → j < k → i ≠ j → ∀ b, P i b → ¬ P j b) ∧
    ∀ i (h : i < d.length), ∃ cs, RowAt w g (i * e.n) cs ∧ ((i < k ∧ e.Own (P i) w d[i] cs) ∨ (k ≤ i ∧ e.At S w0 d[i] cs))
theorem Half.below {S : Bs} {w0 w w' : World} {g k : Nat} {d : List α} (h : Half e S w0 w g d k) (hb : Below w.heap.size w w') : Half e S w0 w' g d k := by
  obtain ⟨h0, P, h1, h2, h3⟩ := h
  refine ⟨h0, P, fun i hi => ⟨(h1 i hi).1, fun b hx => ⟨((h1 i hi).2 b hx).1, Nat.lt_of_lt_of_le ((h1 i hi).2 b hx).2 hb.size⟩⟩, h2, fun i hi => ?_⟩
  obtain ⟨cs, q1, q2⟩ := h3 i hi
  refine ⟨cs, q1.same (hb.block _ q1.lt), ?_⟩
  rcases q2 with ⟨a, q⟩ | ⟨a, q⟩
  · exact .inl ⟨a, e.ownFrame q (Same.of_below' hb)⟩
  · exact .inr ⟨a, q⟩
theorem Half.lt {S : Bs} {w0 w : World} {g k : Nat} {d : List α} (h : Half e S w0 w g d k) (hd : 0 < d.length) : g < w.heap.size := by
  obtain ⟨h0, P, h1, h2, h3⟩ := h
  obtain ⟨cs, q1, _⟩ := h3 0 hd
  exact q1.lt
theorem Half.row {S : Bs} {w0 w : World} {g k : Nat} {d : List α} (h : Half e S w0 w g d k) (hk : k < d.length) : ∃ cs, RowAt w g (k * e.n) cs ∧ e.At S w0 d[k] cs := by
  obtain ⟨h0, P, h1, h2, h3⟩ := h
  obtain ⟨cs, q1, q2⟩ := h3 k hk
  rcases q2 with ⟨a, q⟩ | ⟨a, q⟩
  · omega
  · exact ⟨cs, q1, q⟩
theorem Half.start {S : Bs} {w0 w w' : World} {T : TypeId} {B g cap : Nat} {d : List α} {xs : List Value} (hB : w0.heap.size ≤ B) (hr : w'.ownsRow B T e.n (.slice (some ⟨g, 0, none⟩) d.length cap) d.length xs)
    (hx : ∀ i (h : i < d.length), ∃ cs, (∀ j (h : j < cs.length), xs[i * e.n + j]? = some cs[j]) ∧ e.At S w d[i] cs) (hf : ∀ x cs, e.At S w x cs → e.At S w0 x cs) : Half e S w0 w' g d 0 ∧ d.length ≤ cap := by
  rcases hr.2 with ⟨h, _⟩ | ⟨g', cap', cur, e1, hg, hk, hc, _, hsz, ht⟩
  · cases h
  cases e1
  refine ⟨⟨by omega, fun _ _ => False, fun i hi => by omega, fun i j hi => by omega, fun i hi => ?_⟩, hc⟩
  obtain ⟨cs, q1, q2⟩ := hx i hi
  refine ⟨cs, ⟨cur, T, hk, fun j hj => ?_⟩, .inr ⟨Nat.zero_le _, hf _ _ q2⟩⟩
  have hn' := e.len q2
  have hm : (i + 1) * e.n ≤ d.length * e.n := Nat.mul_le_mul_right _ (by omega)
  rw [Nat.add_mul] at hm
  have := q1 j hj
  rw [← ht, List.getElem?_take_of_lt (by omega), Array.getElem?_toList] at this
  exact this
theorem Half.step {S : Bs} {w0 wr w2 w3 : World} {g k : Nat} {d : List α} {cs : List Value} (h : Half e S w0 wr g d k) (hk : k < d.length) (hb : Below wr.heap.size wr w2) (hw0 : w0.heap.size ≤ wr.heap.size)
    (ho : e.Own (Fresh wr w2) w2 d[k] cs) (hr : RowAt w3 g (k * e.n) cs) (hs : ∀ b, b ≠ g → w3.heap[b]? = w2.heap[b]?) (hz : w3.heap.size = w2.heap.size)
    (hother : ∀ i (cs : List Value), i ≠ k → cs.length = e.n → RowAt w2 g (i * e.n) cs → RowAt w3 g (i * e.n) cs) : Half e S w0 w3 g d (k + 1) := by
  have hg := h.lt (by omega)
  obtain ⟨h0, P, h1, h2, h3⟩ := h.below hb
  have h1' : ∀ i, i < k → ∀ b, P i b → b < w2.heap.size := fun i hi b hx => ((h1 i hi).2 b hx).2
  have hlow : ∃ P : Nat → Bs, (∀ i, i < k → ¬ P i g ∧ ∀ b, P i b → w0.heap.size ≤ b ∧ b < wr.heap.size) ∧ (∀ i j, i < k → j < k → i ≠ j → ∀ b, P i b → ¬ P j b) ∧
    ∀ i (h : i < d.length), ∃ cs, RowAt w2 g (i * e.n) cs ∧ ((i < k ∧ e.Own (P i) w2 d[i] cs) ∨ (k ≤ i ∧ e.At S w0 d[i] cs)) := by
    obtain ⟨_, P, g1, g2, g3⟩ := h
    refine ⟨P, g1, g2, fun i hi => ?_⟩
    obtain ⟨cs, q1, q2⟩ := g3 i hi
    refine ⟨cs, q1.same (hb.block _ q1.lt), ?_⟩
    rcases q2 with ⟨a, q⟩ | ⟨a, q⟩
    · exact .inl ⟨a, e.ownFrame q (Same.of_below' hb)⟩
    · exact .inr ⟨a, q⟩
  obtain ⟨P, g1, g2, g3⟩ := hlow
  have hsame : ∀ S' : Bs, ¬ S' g → Same S' w2 w3 := fun S' hn b hb' _ => hs b (fun x => hn (x ▸ hb'))
  refine ⟨h0, fun i => if i = k then Fresh wr w2 else P i, fun i hi => ?_, fun i j hi hj hne b x1 x2 => ?_, fun i hi => ?_⟩
  · by_cases ei : i = k
    · subst ei
      simp only [if_true]
      exact ⟨fun hx => by have := hx.1; omega, fun b hx => ⟨by have := hx.1; omega, by rw [hz]; exact hx.2⟩⟩
    · simp only [if_neg ei]
      have := hb.size
      exact ⟨(g1 i (by omega)).1, fun b hx => ⟨((g1 i (by omega)).2 b hx).1, by have := ((g1 i (by omega)).2 b hx).2; omega⟩⟩
  · by_cases ei : i = k
    · simp only [if_pos ei] at x1
      simp only [if_neg (show ¬ j = k by omega)] at x2
      have := ((g1 j (by omega)).2 b x2).2
      have := x1.1
      omega
    · simp only [if_neg ei] at x1
      by_cases ej : j = k
      · simp only [if_pos ej] at x2
        have := ((g1 i (by omega)).2 b x1).2
        have := x2.1
        omega
      · simp only [if_neg ej] at x2
        exact g2 i j (by omega) (by omega) hne b x1 x2
  · by_cases ei : i = k
    · subst ei
      refine ⟨cs, hr, .inl ⟨by omega, ?_⟩⟩
      simp only [if_true]
      exact e.ownFrame ho (hsame _ (fun hx => by have := hx.1; omega))
    · simp only [if_neg ei]
      obtain ⟨cs', q1, q2⟩ := g3 i hi
      rcases q2 with ⟨a, q⟩ | ⟨a, q⟩
      · exact ⟨cs', hother i cs' ei (e.ownLen q) q1, .inl ⟨by omega, e.ownFrame q (hsame _ (g1 i a).1)⟩⟩
      · exact ⟨cs', hother i cs' ei (e.len q) q1, .inr ⟨by omega, q⟩⟩
theorem Half.own {S : Bs} {w0 w : World} {g cap : Nat} {d : List α} (h : Half e S w0 w g d d.length) (hc : d.length ≤ cap) : SlOwn e (Fresh w0 w) w d (.slice (some ⟨g, 0, none⟩) d.length cap) := by
  by_cases h0 : d = []
  · exact ⟨_, cap, rfl, hc, (fun x => by cases x), .inl h0⟩
  have hg := h.lt (List.length_pos_iff.2 h0)
  obtain ⟨hge, P, h1, h2, h3⟩ := h
  refine ⟨_, cap, rfl, hc, (fun x => by cases x), .inr ⟨g, P, rfl, ⟨hge, hg⟩, h1, h2, fun i hi => ?_⟩⟩
  obtain ⟨cs, q1, q2⟩ := h3 i hi
  rcases q2 with ⟨a, q⟩ | ⟨a, q⟩
  · exact ⟨cs, q1, q⟩
  · omega
end
end Go.Proofs.YtmanlnlhpgdbpaaGreat
/- A region that draws its order, where a cell that is loaded is stored anew at its end: the load may be taken first, because the store waits for what waits for the load. -/
namespace Go.Proofs.YtmanlnlhpgdbpaaGreat
open Go Go.RowKit

section
variable {P : Program} {ops : Array Oper} {Q : Exit → Act → World → Prop} {md : Region.Mode} {S S' : World → Prop} {k : Nat}
/-- what is to hold behind an operation: S, and S' as long as number k has not come up -/
def Until (S S' : World → Prop) (k : Nat) (listed : Array Bool) (w : World) : Prop := S w ∧ (listed.getD k true = false → S' w)
def wpAnyL (P : Program) (md : Region.Mode) (ops : Array Oper) (Q : Exit → Act → World → Prop) (S S' : World → Prop) (k : Nat) : Nat → Array Bool → Act → World → Prop
  | 0, listed, a, w => Region.ready md ops listed = [] ∧ Q .normal a w
  | fuel + 1, listed, a, w =>
    (Region.ready md ops listed = [] → Q .normal a w) ∧
    ∀ i ∈ Region.ready md ops listed, wpOp P ops Q i (fun a' w' => Until S S' k (listed.setIfInBounds i true) w' ∧ wpAnyL P md ops Q S S' k fuel (listed.setIfInBounds i true) a' w') a w
theorem wpAny_of_until : ∀ (fuel : Nat) (listed : Array Bool) (a : Act) (w : World), wpAnyL P md ops Q S S' k fuel listed a w → wpAny P md ops Q fuel listed a w
  | 0, _, _, _, h => h
  | fuel + 1, _, _, _, h => ⟨h.1, fun i hi => wpOp_mono (fun a' w' h' => wpAny_of_until fuel _ a' w' h'.2) (h.2 i hi)⟩
theorem Until.step {listed : Array Bool} {i j : Nat} {w : World} (hki : i ≠ k) (h : Until S S' k ((listed.setIfInBounds i true).setIfInBounds j true) w) : Until S S' k (listed.setIfInBounds j true) w := by
  refine ⟨h.1, fun hk => h.2 ?_⟩
  by_cases hji : i = j
  · subst hji
    rw [getD_set_ne true hki] at hk ⊢
    rw [getD_set_ne true hki]; exact hk
  · rw [Array.setIfInBounds_comm _ _ hji, getD_set_ne true hki]; exact hk
/-- an operation that yields in every world that meets R is taken first; R is known behind each operation that may come before it -/
theorem wpAnyL_first {R : World → Prop} {i : Nat} {oi : Oper} {v : Value} (hi : ops[i]? = some oi) (hki : i ≠ k) (hsel : ∀ (j : Nat) (o : Oper) cs b, ops[j]? = some o → o.op ≠ .select cs b)
    (hQ : ∀ c a w, Q (.panic c) (a.put oi.dst v) w → Q (.panic c) a w) (I : Array Bool → Prop)
    (hI : ∀ (listed : Array Bool) (j : Nat), listed.getD i true = false → I listed → j ∈ Region.ready md ops listed → j ≠ i → I (listed.setIfInBounds j true) ∧ ∀ w, Until S S' k (listed.setIfInBounds j true) w → R w) :
    ∀ (fuel : Nat) (listed : Array Bool) (a : Act) (w : World), I listed →
      (∀ j oj, ops[j]? = some oj → j ≠ i → listed.getD j true = false → (∀ e ∈ oj.after, Region.binds md e = true → e.on ≠ i) → oi.apart ops oj = true) →
      i ∈ Region.ready md ops listed → YieldsIf P ops R oi v a → R w → Until S S' k (listed.setIfInBounds i true) w →
      wpAnyL P md ops Q S S' k fuel (listed.setIfInBounds i true) (a.put oi.dst v) w → wpAnyL P md ops Q S S' k (fuel + 1) listed a w := by
  intro fuel
  induction fuel with
  | zero =>
    intro listed a w _ _ hr hy hR hS H
    refine ⟨fun h => (by rw [h] at hr; cases hr), fun j hj => ?_⟩
    by_cases hji : j = i
    · subst hji; exact hy.wpOp hi hR ⟨hS, H⟩
    · have := ready_mono hj hji
      rw [H.1] at this
      cases this
  | succ fuel ih =>
    intro listed a w hIl hfree hr hy hR hS H
    refine ⟨fun h => (by rw [h] at hr; cases hr), fun j hj => ?_⟩
    by_cases hji : j = i
    · subst hji; exact hy.wpOp hi hR ⟨hS, H⟩
    · have h1 := H.2 j (ready_mono hj hji)
      obtain ⟨hjun, oj, hoj, hall⟩ := mem_ready.1 hj
      have hnot : ∀ e ∈ oj.after, Region.binds md e = true → e.on ≠ i := fun e he hb heq => by
        have h1 := hall e he hb
        have h0 := (mem_ready.1 hr).1
        rw [heq] at h1
        rcases Nat.lt_or_ge i listed.size with h' | h'
        · simp [h'] at h0 h1; rw [h0] at h1; cases h1
        · simp [Array.getElem?_eq_none h'] at h1
      have h2 := wpOp_putIf hoj (hfree j oj hoj hji hjun hnot) (fun cs b => hsel i oi cs b hi) (fun cs b => hsel j oj cs b hoj) hQ hy h1
      have hfree' : ∀ k ok, ops[k]? = some ok → k ≠ i → (listed.setIfInBounds j true).getD k true = false →
          (∀ e ∈ ok.after, Region.binds md e = true → e.on ≠ i) → oi.apart ops ok = true := fun k ok hk hki hun hno => by
        refine hfree k ok hk hki ?_ hno
        by_cases hjk : j = k
        · subst hjk; exact hjun
        · rw [getD_set_ne true hjk] at hun; exact hun
      obtain ⟨hI', hRk⟩ := hI listed j (mem_ready.1 hr).1 hIl hj hji
      refine wpOp_mono (fun a' w' h3 => ?_) h2
      have hU := h3.2.1
      have hU' := hU.step hki
      refine ⟨hU', ih (listed.setIfInBounds j true) a' w' hI' hfree' (ready_mono hr (Ne.symm hji)) h3.1 (hRk w' hU') ?_ ?_⟩
      · rw [Array.setIfInBounds_comm _ _ hji]; exact hU
      · rw [Array.setIfInBounds_comm _ _ hji]; exact h3.2.2
/-- take number i first: it yields in every world that meets S -/
theorem wpAnyL_take {i : Nat} {oi : Oper} {v : Value} {fuel : Nat} {listed : Array Bool} {a : Act} {w : World} (hi : ops[i]? = some oi) (hki : i ≠ k)
    (hs : Region.noSelect ops = true) (hf : Region.free md ops listed i = true) (hr : (Region.ready md ops listed).contains i = true)
    (hQ : ∀ c a w, Q (.panic c) (a.put oi.dst v) w → Q (.panic c) a w) (hy : YieldsIf P ops S oi v a) (hS : Until S S' k listed w)
    (h : Until S S' k (listed.setIfInBounds i true) w → wpAnyL P md ops Q S S' k fuel (listed.setIfInBounds i true) (a.put oi.dst v) w) : wpAnyL P md ops Q S S' k (fuel + 1) listed a w := by
  have hU : Until S S' k (listed.setIfInBounds i true) w := ⟨hS.1, fun hk => hS.2 (by rw [getD_set_ne true hki] at hk; exact hk)⟩
  exact wpAnyL_first (R := S) hi hki (Region.noSelect_spec hs) hQ (fun _ => True) (fun _ _ _ _ _ _ => ⟨trivial, fun _ h => h.1⟩) fuel listed a w trivial (Region.free_spec hi hf) (by simpa using hr) hy hS.1 hU (h hU)
/-- take number i first: it yields in every world that meets S'; number m waits for it, and number k for m -/
theorem wpAnyL_load {i m : Nat} {oi om ok : Oper} {v : Value} {fuel : Nat} {listed : Array Bool} {a : Act} {w : World} (hi : ops[i]? = some oi) (hki : i ≠ k)
    (hs : Region.noSelect ops = true) (hf : Region.free md ops listed i = true) (hr : (Region.ready md ops listed).contains i = true)
    (hom : ops[m]? = some om) (hok : ops[k]? = some ok) (hmi : om.after.any (fun e => Region.binds md e && (e.on == i)) = true) (hkm : ok.after.any (fun e => Region.binds md e && (e.on == m)) = true)
    (hlm : listed.getD m true = false) (hlk : listed.getD k true = false)
    (hQ : ∀ c a w, Q (.panic c) (a.put oi.dst v) w → Q (.panic c) a w) (hy : YieldsIf P ops S' oi v a) (hS : Until S S' k listed w)
    (h : Until S S' k (listed.setIfInBounds i true) w → wpAnyL P md ops Q S S' k fuel (listed.setIfInBounds i true) (a.put oi.dst v) w) : wpAnyL P md ops Q S S' k (fuel + 1) listed a w := by
  have hU : Until S S' k (listed.setIfInBounds i true) w := ⟨hS.1, fun hk => hS.2 (by rw [getD_set_ne true hki] at hk; exact hk)⟩
  have waits : ∀ {x y : Nat} {ox : Oper} {listed : Array Bool}, ops[x]? = some ox → ox.after.any (fun e => Region.binds md e && (e.on == y)) = true → listed.getD y true = false → x ∉ Region.ready md ops listed := by
    intro x y ox L hx ha hy hr
    obtain ⟨_, o, ho, hall⟩ := mem_ready.1 hr
    rw [hx] at ho
    cases ho
    obtain ⟨e, he, hb⟩ := Array.any_eq_true'.1 ha
    simp only [Bool.and_eq_true, beq_iff_eq] at hb
    have := hall e he hb.1
    rw [hb.2] at this
    rcases Nat.lt_or_ge y L.size with h' | h'
    · simp [h'] at this hy; rw [hy] at this; cases this
    · simp [Array.getElem?_eq_none h'] at this
  refine wpAnyL_first (R := S') hi hki (Region.noSelect_spec hs) hQ (fun L => L.getD m true = false ∧ L.getD k true = false) ?_ fuel listed a w ⟨hlm, hlk⟩ (Region.free_spec hi hf) (by simpa using hr) hy (hS.2 hlk) hU (h hU)
  intro L j hLi ⟨h1, h2⟩ hj hji
  have hjm : j ≠ m := fun e => waits hom hmi hLi (e ▸ hj)
  have hjk : j ≠ k := fun e => waits hok hkm h1 (e ▸ hj)
  refine ⟨⟨by rw [getD_set_ne true hjm]; exact h1, by rw [getD_set_ne true hjk]; exact h2⟩, fun w hw => hw.2 (by rw [getD_set_ne true hjk]; exact h2)⟩
theorem wpAnyL_done {listed : Array Bool} {a : Act} {w : World} (hr : Region.ready md ops listed = []) (h : Q .normal a w) :
    ∀ fuel, wpAnyL P md ops Q S S' k fuel listed a w
  | 0 => ⟨hr, h⟩
  | _ + 1 => ⟨fun _ => h, by rw [hr]; simp⟩
/-- the one operation that may come up comes up -/
theorem wpAnyL_only {i : Nat} {o : Oper} {fuel : Nat} {listed : Array Bool} {a : Act} {w : World} (hr : Region.ready md ops listed = [i]) (ho : ops[i]? = some o)
    (h : ∀ K' : Act → World → Prop, Shut (∀ a w, Until S S' k (listed.setIfInBounds i true) w → (Until S S' k (listed.setIfInBounds i true) w → wpAnyL P md ops Q S S' k fuel (listed.setIfInBounds i true) a w) → K' a w) → if Region.wanted o (yielded ops a.tmps) = true then Oper.wp P o a w K' Q else K' (a.put o.dst undef) w) :
    wpAnyL P md ops Q S S' k (fuel + 1) listed a w := by
  refine ⟨fun h0 => (by rw [hr] at h0; cases h0), fun j hj => ?_⟩
  rw [hr] at hj
  simp at hj
  subst hj
  exact wpOp_step ho (fun K' hK => h K' (fun a w hS hW => hK a w ⟨hS, hW hS⟩))
theorem wp_region_until (S S' : World → Prop) (k : Nat) {id : Nat} {a : Act} {w : World} (hm : P.follows .mixedOrders = true) (hS : S w.drew) (hS' : S' w.drew)
    (h : Until S S' k (Array.replicate ops.size false) w.drew → wpAnyL P .any ops Q S S' k ops.size (Array.replicate ops.size false) a w.drew) : (Code.region id ops true).wp P Q a w :=
  wp_region_any hm (wpAny_of_until _ _ _ _ (h ⟨hS, fun _ => hS'⟩))
end
end Go.Proofs.YtmanlnlhpgdbpaaGreat
/- A region that draws, with a store at its end: several operations may come up. -/
namespace Go.Proofs.YtmanlnlhpgdbpaaGreat
open Go Go.RowKit

section
variable {P : Program} {ops : Array Oper} {Q : Exit → Act → World → Prop} {md : Region.Mode} {S S' : World → Prop} {k : Nat}
/-- each of the operations that may come up comes up next -/
def AllReadyL (P : Program) (md : Region.Mode) (ops : Array Oper) (Q : Exit → Act → World → Prop) (S S' : World → Prop) (k fuel : Nat) (listed : Array Bool) (a : Act) (w : World) (rs : List Nat) : Prop :=
  ∀ i ∈ rs, wpOp P ops Q i (fun a' w' => Until S S' k (listed.setIfInBounds i true) w' ∧ wpAnyL P md ops Q S S' k fuel (listed.setIfInBounds i true) a' w') a w
theorem AllReadyL.nil {fuel : Nat} {listed : Array Bool} {a : Act} {w : World} : AllReadyL P md ops Q S S' k fuel listed a w [] := fun _ h => by cases h
theorem AllReadyL.cons {fuel : Nat} {listed : Array Bool} {a : Act} {w : World} {i : Nat} {o : Oper} {rs : List Nat} (ho : ops[i]? = some o)
    (h : ∀ K' : Act → World → Prop, Shut (∀ a w, Until S S' k (listed.setIfInBounds i true) w → (Until S S' k (listed.setIfInBounds i true) w → wpAnyL P md ops Q S S' k fuel (listed.setIfInBounds i true) a w) → K' a w) → if Region.wanted o (yielded ops a.tmps) = true then Oper.wp P o a w K' Q else K' (a.put o.dst undef) w)
    (hs : AllReadyL P md ops Q S S' k fuel listed a w rs) : AllReadyL P md ops Q S S' k fuel listed a w (i :: rs) := fun j hj => by
  rcases List.mem_cons.1 hj with rfl | hj
  · exact wpOp_step ho (fun K' hK => h K' (fun a w hS hW => hK a w ⟨hS, hW hS⟩))
  · exact hs j hj
theorem wpAnyL_ready {rs : List Nat} {fuel : Nat} {listed : Array Bool} {a : Act} {w : World} (hr : Region.ready md ops listed = rs) (hne : rs ≠ [])
    (h : AllReadyL P md ops Q S S' k fuel listed a w rs) : wpAnyL P md ops Q S S' k (fuel + 1) listed a w :=
  ⟨fun h0 => absurd (hr ▸ h0) hne, hr ▸ h⟩
end
end Go.Proofs.YtmanlnlhpgdbpaaGreat
/- Copies by the specification: the steps. -/
namespace Go.Proofs.YtmanlnlhpgdbpaaGreat
open Go.RowKit
attribute [local go_sem ↓] Go.wp_at_zero Go.wp_at_succ

theorem own_zeroD (w : World) {B g : Nat} (hg : g = w.heap.size) (hB : B ≤ g) : (w.alloc (.cells #[] 77)).ownsRow B 77 2 (.slice (some ⟨g, 0, none⟩) 0 0) 0 (rs []) := by
  subst hg
  exact ⟨rfl, .inr ⟨w.heap.size, 0, #[], rfl, hB, heap_alloc_new w _, by simp, by unfold maxLen; simp, rfl, rfl⟩⟩
theorem grown_set (w : World) (R j : Nat) (x : Value) : w.grownBy (w.setCell ⟨R, j, none⟩ x) (some R) :=
  ⟨rfl, rfl, rfl, by rw [setCell_size]; exact Nat.le_refl _, fun k hk hne => Below.heap_setCell _ _ _ _ (fun e => hne (by rw [show R = k from e.symm]))⟩
theorem own_cellOut {w : World} {B e z n R j : Nat} {v x : Value} {xs : List Value} (h : w.ownsRow B e z v n xs) (hR : R < B) : (w.setCell ⟨R, j, none⟩ x).ownsRow B e z v n xs := by
  refine h.kept (grown_set w R j x) ?_
  cases hu : v.ownBlock with
  | none => exact .inl rfl
  | some g =>
    right
    intro e
    injection e with e
    have := (h.lt g hu).1
    omega
theorem Grow.cellOut {α : Type} {e : Enc α} {T : TypeId} {B R j : Nat} {w : World} {v x : Value} {l : List α} {xs : List Value} (h : Grow e T B w v l xs) (hR : R < B) : Grow e T B (w.setCell ⟨R, j, none⟩ x) v l xs := by
  obtain ⟨hr, P, h1, h2, h3⟩ := h
  refine ⟨own_cellOut hr hR, P, fun i hi => ⟨fun b hx => ⟨((h1 i hi).1 b hx).1, by rw [setCell_size]; exact ((h1 i hi).1 b hx).2⟩, (h1 i hi).2⟩, h2, fun i hi => ?_⟩
  obtain ⟨cs, q1, q2⟩ := h3 i hi
  exact ⟨cs, q1, e.ownFrame q2 (Same.set _ j x (fun hx => by have := ((h1 i hi).1 R hx).1; omega))⟩
theorem Blk.low {w w' : World} {g N : Nat} {cs : List Value} (h : Blk w g cs) (hb : Below N w w') (hg : g < N) : Blk w' g cs := by
  obtain ⟨T, ht⟩ := h
  exact ⟨T, (hb.block g hg).trans ht⟩
section
variable {ops : Array Oper} {o : Oper} {a : Act} {Q : Exit → Act → World → Prop} {K : Act → World → Prop} {E : Prop} {w3 : World}
/-- append([]string{}, texts...) in a drawn region -/
theorem step_texts (B : Nat) (hgd : o.guard = none) (s x : Operand)
    (ho : o.op = .call { callee := .builtin .append, args := #[s, x], argTypes := #[94, 94] }) (v : Value) (hs : a.eval s = v) (hown : w3.ownsRow B 9 1 v 0 [])
    (ao : Option Addr) (d : List ByteArray) (c : Nat) (hx : a.eval x = .slice ao d.length c) (hd : StrsAt w3 ao d) (hc : ao = none → c = 0) (hlen : d.length ≤ 1000000000) (hB : B ≤ w3.heap.size)
    (h : ∀ v' w', w'.ownsRow B 9 1 v' d.length (d.map Value.string) → w3.grownBy w' v.ownBlock → K (a.put o.dst v') w') :
    if Region.wanted o (yielded ops a.tmps) = true then Oper.wp Tryz.prog o a w3 K Q else E := by
  have hw : Region.wanted o (yielded ops a.tmps) = true := by simp [Region.wanted, hgd]
  rw [if_pos hw]
  obtain ⟨i0, hi, hz0, hz1, hz2⟩ := info_parts Tryz.info9
  rcases ao with _ | ad
  · have hd0 : d = [] := by
      rcases hd with h | ⟨b, off, e, _⟩
      · exact h
      · cases e
    subst hd0
    have := hc rfl
    subst this
    have hrun := run_append_owned_none (P := Tryz.prog) (w := w3) B 94 o.type 9 i0 1 Tryz.underlying94 hi v 0 [] hown
    unfold Oper.wp execOp
    simp only [ho, resolve, invoke, builtin, Sem.run_bind, Sem.run_pure, Result.andThen_ok, List.map_toArray, List.map_cons, List.map_nil, hs, hx]
    erw [hrun]
    exact h v w3 hown ⟨rfl, rfl, rfl, Nat.le_refl _, fun _ _ _ => rfl⟩
  · have hnews : ∀ j u, (d.map Value.string)[j]? = some u → w3.cell? (ad.add j) = some u := by
      rcases hd with hd | ⟨b, off, e, h2, h3⟩
      · subst hd; intro j u hu; simp at hu
      · cases e
        intro j u hu
        have ea : (⟨b, off, none⟩ : Addr).add j = ⟨b, off + j, none⟩ := by unfold Addr.add; split <;> simp_all
        rw [ea]
        rw [List.getElem?_map] at hu
        by_cases hj : j < d.length
        · rw [List.getElem?_eq_getElem hj] at hu
          cases hu
          exact h3 j hj
        · rw [List.getElem?_eq_none (by omega)] at hu; cases hu
    refine wp_append_own _ s x 94 ho B 9 i0 _ 1 16 Tryz.underlying94 hi hz0 hz1 hz2 rfl (by decide) v 0 [] hs hown ad d.length c (d.map Value.string) hx (by simp) hnews (by intro u hu; obtain ⟨t, _, rfl⟩ := List.mem_map.1 hu; rfl) ?_ ?_ hB ?_
    · unfold maxLen; omega
    · omega
    · intro v' w' h1 h2 h3
      rw [Nat.zero_add] at h1
      exact h v' w' h1 h2
/-- append(attrs, x) in a drawn region -/
theorem step_attr (B : Nat) (hgd : o.guard = none) (s x : Operand)
    (ho : o.op = .call { callee := .builtin .append, args := #[s, x], argTypes := #[44, 44] }) (v : Value) (n : Nat) (xs : List Value) (hs : a.eval s = v) (hown : w3.ownsRow B 109 2 v n xs)
    (A : ByteArray) (p : Option Addr) (m c : Nat) (hx : a.eval x = .slice (some ⟨w3.heap.size, 0, none⟩) 1 1) (hlen : n ≤ 100000000) (hB : B ≤ w3.heap.size)
    (h : ∀ g cap w', w'.ownsRow B 109 2 (.slice (some ⟨g, 0, none⟩) (n + 1) cap) (n + 1) (xs ++ [.string A, .slice p m c]) → (w3.alloc (.cells #[.string A, .slice p m c] 109)).grownBy w' v.ownBlock → (v.ownBlock = some g ∨ g = w3.heap.size + 1) → K (a.put o.dst (.slice (some ⟨g, 0, none⟩) (n + 1) cap)) w') :
    if Region.wanted o (yielded ops a.tmps) = true then Oper.wp Tryz.prog o a (w3.alloc (.cells #[.string A, .slice p m c] 109)) K Q else E := by
  obtain ⟨i0, hi, hz0, hz1, hz2⟩ := info_parts Tryz.infoTAttr
  refine step_append_lies _ hgd s x 44 ho B 109 i0 _ 2 40 Tryz.underlying44 hi hz0 hz1 hz2 rfl (by decide) v n xs hs (hown.alloc _) ⟨w3.heap.size, 0, none⟩ 1 1 [.string A, .slice p m c] hx rfl (World.news_of_block (cs := #[.string A, .slice p m c]) (t := 109) (fr := (0, 0)) (heap_alloc_new _ _)) ?_ (by omega) ?_ ?_ ?_ (w3.heap.size + 1) (by simp) ?_
  · intro u hu; simp at hu; rcases hu with rfl | rfl <;> rfl
  · unfold maxLen; omega
  · omega
  · simp; omega
  · intro g cap w' h1 h2 h3 _
    exact h g cap w' h1 h2 h3
end
section
variable {ops : Array Oper} {rest : List Oper} {o : Oper} {a : Act} {Q : Exit → Act → World → Prop} {W : World}
/-- append([]Rdn{}, dn...) -/
theorem app_dn0 (N : Nat) (hgd : o.guard = none) (s x : Operand)
    (ho : o.op = .call { callee := .builtin .append, args := #[s, x], argTypes := #[42, 42] }) (hs : a.eval s = .slice (some ⟨N, 0, none⟩) 0 0)
    (ao : Option Addr) (d : RdnL) (c n : Nat) (hn : n = d.length) (hx : a.eval x = .slice ao n c) (hd : DnAt W ao d) (hc : ao = none → c = 0) (hlen : ([] : RdnL).length + d.length ≤ 1000000000) (hN : N = W.heap.size)
    (h : ∀ v' w', w'.ownsRow N 77 2 v' d.length (rs d) → Below W.heap.size W w' → N ≤ w'.heap.size → wpList Tryz.prog ops Q rest (a.put o.dst v') w') :
    wpList Tryz.prog ops Q (o :: rest) a (W.alloc (.cells #[] 77)) := by
  subst hN
  have B0 : Below W.heap.size W (W.alloc (.cells #[] 77)) := more' (Below.refl _ _) _
  refine append_dn W.heap.size hgd s x ho _ [] hs (own_zeroD _ rfl (Nat.le_refl _)) ao d c n hn hx (hd.below B0) hc hlen B0.size B0 ?_
  intro v' w' h1 h2
  exact h v' w' h1 h2 h2.size
end
end Go.Proofs.YtmanlnlhpgdbpaaGreat
/- l03Copy: what the specification's text returns. -/
namespace Go.Proofs.YtmanlnlhpgdbpaaGreat
open Go.RowKit
attribute [local go_sem ↓] Go.wp_at_zero Go.wp_at_succ

set_option maxRecDepth 100000 in
set_option maxHeartbeats 4000000 in
theorem l03Copy_any {S : Bs} (dn : RdnL) (at_ : List AttrT) (dv av : Value) (w : World) (hd : SlAt rdnE S w dn dv) (ha : SlAt attrE S w at_ av) (hze : entryE.sz (dn, at_) ≤ 1048576) :
    Calls Tryz.prog 72 #[.agg #[dv, av]] w fun e w' => ∃ u0 u1, e = .returned (.agg #[u0, u1]) ∧ entryE.Own (Fresh w w') w' (dn, at_) [u0, u1] ∧ Below w.heap.size w w' := by
  have HE : entryE.sz (dn, at_) = (dn.length + szL rdnE dn) + (at_.length + szL attrE at_) := rfl
  rw [HE] at hze
  have hd0 := hd
  obtain ⟨o2, k2, rfl⟩ := hd.sl
  obtain ⟨o3, k3, rfl⟩ := ha.sl
  have HA := Lib.hid ha
  have HZ : Hid (∀ x ∈ at_, attrE.sz x ≤ 1048576) := Lib.hid (fun x h => by have h1 := szL_mem attrE h; omega)
  have HD : Hid (∀ W : World, Below w.heap.size w W → DnAt W o2 dn) := Lib.hid (fun W b => (dn_of hd0).below b)
  have hac : o2 = none → k2 = 0 := hd0.cap.2.2
  have hl : at_.length ≤ 1048576 := by omega
  have hdl : dn.length ≤ 1048576 := by omega
  clear hd hd0 ha hze HE
  have hlen : ([] : RdnL).length + dn.length ≤ 1000000000 := by simp; omega
  go_enter Tryz.func72, Tryz.ntmps72
  have W00 : Hid (∀ (C D : Array Value) (T : TypeId), C = #[.slice o2 dn.length k2, .slice o3 at_.length k3] → D = #[.slice none 0 0, .slice none 0 0] → Below w.heap.size w ((w.alloc (.cells C T)).alloc (.cells D T)) ∧ Blk ((w.alloc (.cells C T)).alloc (.cells D T)) w.heap.size [.slice o2 dn.length k2, .slice o3 at_.length k3] ∧ Blk ((w.alloc (.cells C T)).alloc (.cells D T)) (w.heap.size + 1) [.slice none 0 0, .slice none 0 0]) := Lib.hid (fun C D T hC hD => by subst hC hD; exact ⟨more' (more' (Below.refl _ _) _) _, (Blk.new _ _ _).alloc _, blk_at _ _ _ (by simp)⟩)
  go_wp2_with (first
    | (at_builtin; obtain ⟨b2, t2, r2⟩ := W00.out _ _ 46 rfl rfl; refine app_dn0 _ rfl _ _ rfl rfl o2 dn k2 _ rfl rfl (HD.out _ b2) hac hlen (by simp) ?_; intro v1 w1 hown1 hbel1 hR1; obtain ⟨d0, nn, dc, rfl⟩ := own_slice3' hown1)
    | (fail "none"))
  have T1 := Lib.hid (t2.below hbel1); have R1b := Lib.hid (r2.below hbel1)
  have b1 := b2.trans (hbel1.mono b2.size)
  have hR2 : w.heap.size + 1 + 1 ≤ w1.heap.size := hR1
  clear t2 r2 b2 hbel1 W00
  obtain ⟨d0', dc', e9, _⟩ := own_rdns hown1
  injection e9 with e1 e2 e3
  subst e1 e2 e3
  have OD := Lib.hid (own_rdns hown1)
  refine wp_world (fun W => Below w.heap.size w W ∧ Blk W w.heap.size [.slice o2 dn.length k2, .slice o3 at_.length k3] ∧ Blk W (w.heap.size + 1) [.slice none 0 0, .slice none 0 0] ∧ Blk W w1.heap.size [.slice d0 dn.length dc, .slice none 0 0] ∧ SlOwn rdnE (fun b => w.heap.size + 1 + 1 ≤ b ∧ b < w1.heap.size) W dn (.slice d0 dn.length dc)) ⟨more' b1 _, T1.out.alloc _, R1b.out.alloc _, Blk.new _ _ _, OD.out.frame (Same.of_below' (more' (Below.refl _ _) _))⟩ ?_
  clear OD hown1 T1 R1b b1
  generalize w1.heap.size = R at *
  rintro W ⟨hbW, t0, t1, t2, od⟩
  go_loopw [4] (fun i wr => ∃ (k : Nat) (p : Option Addr) (n c : Nat) (xs : List Value), k ≤ at_.length ∧ i = .int .i64 k ∧ Blk wr w.heap.size [.slice o2 dn.length k2, .slice o3 at_.length k3] ∧ Blk wr (w.heap.size + 1) [.slice none 0 0, .slice none 0 0] ∧ Blk wr R [.slice d0 dn.length dc, .slice p n c] ∧ Grow attrE 109 (R + 1) wr (.slice p n c) (at_.take k) xs ∧ SlOwn rdnE (fun b => w.heap.size + 1 + 1 ≤ b ∧ b < R) wr dn (.slice d0 dn.length dc) ∧ Below w.heap.size w wr) (fun i _ => at_.length - (intOf i).toNat)
  case atStart => exact ⟨0, none, 0, 0, [], Nat.zero_le _, rfl, t0, t1, t2, Grow.nil _ _ _ _, od, hbW⟩
  case round =>
    clear t0 t1 t2 od hbW
    obtain ⟨k, p, n, c, xs, hk, rfl, t0, t1, t2, hg, hod, hbel⟩ := hrel
    obtain ⟨_, _, e9, _⟩ := hg.own
    injection e9 with ep en ec
    subst ep; subst en; subst ec
    have HT0 := Lib.hid t0; have HT1 := Lib.hid t1; have HT2 := Lib.hid t2; have HG := Lib.hid hg; have HOD := Lib.hid hod; have HB := Lib.hid hbel
    have hRs : R < wr.heap.size := t2.lt
    have c0 := t0.cell 0 rfl
    have c1 := t0.cell 1 rfl
    clear t0 t1 t2 hg hod hbel
    by_cases hlt : k < at_.length
    · obtain ⟨b, off, a0, a1, v1, rfl, _, hb0, hx, ⟨hc0, hc1⟩, s1, _⟩ := attr_row HA.out hlt
      have HZ1 : Hid (attrE.sz (a0, a1) ≤ 1048576) := Lib.hid (by have := HZ.out _ (List.getElem_mem hlt); rw [hx] at this; exact this)
      have HT : Hid (at_.take (k + 1) = at_.take k ++ [(a0, a1)]) := Lib.hid (by rw [List.take_succ_eq_append_getElem hlt, hx])
      have HS3 := Lib.hid (s1.frame (Same.of_below' HB.out))
      obtain ⟨o4, k4, rfl⟩ := s1.sl
      clear s1 hx
      have hrl : Hid ((at_.take k).length ≤ 100000000) := Lib.hid (by rw [List.length_take]; omega)
      generalize at_.take k = pre at *
      have g1 : (0 : Int) ≤ (k : Int) := by omega
      have g2 : (k : Int) < (at_.length : Int) := by omega
      have hR3 : R < wr.heap.size := hRs
      have OZ : Hid ((wr.drew.alloc (.cells #[] 9)).ownsRow wr.heap.size 9 1 (.slice (some ⟨wr.heap.size, 0, none⟩) 0 0) 0 []) := Lib.hid ⟨rfl, .inr ⟨wr.heap.size, 0, #[], rfl, Nat.le_refl _, heap_alloc_new wr.drew _, by simp, by unfold maxLen; simp, rfl, rfl⟩⟩
      have BZ : Below wr.heap.size wr (wr.drew.alloc (.cells #[] 9)) := more' (Below.refl _ _).drew _
      have HSz : Hid (StrsAt (wr.drew.alloc (.cells #[] 9)) o4 a1) := Lib.hid (strs_of (HS3.out.frame (Same.of_below' BZ)))
      have hc4 : o4 = none → k4 = 0 := HS3.out.cap.2.2
      have hl1 : a1.length ≤ 1000000000 := by have h1 := HZ1.out; have h2 : attrE.sz (a0, a1) = a0.size + (a1.length + szL strE a1) := rfl; omega
      have hsz1 : wr.heap.size ≤ (wr.drew.alloc (.cells #[] 9)).heap.size := BZ.size
      have hbR : b < w.heap.size := hb0
      have SK1 : Hid (∀ Z' : World, Below R wr Z' → Z'.cell? ⟨w.heap.size, 0, none⟩ = some (.slice o2 dn.length k2) ∧ Z'.cell? ⟨w.heap.size, 1, none⟩ = some (.slice (some ⟨b, off, none⟩) at_.length k3) ∧ Z'.cell? ⟨b, off + k * 2, none⟩ = some (.string a0) ∧ Z'.cell? ⟨b, off + k * 2 + 1, none⟩ = some (.slice o4 a1.length k4)) := Lib.hid (fun Z' h => ⟨(h.cell (p := ⟨w.heap.size, 0, none⟩) (by show w.heap.size < R; omega)).trans c0, (h.cell (p := ⟨w.heap.size, 1, none⟩) (by show w.heap.size < R; omega)).trans c1, (h.cell (p := ⟨b, off + k * 2, none⟩) (by show b < R; omega)).trans ((HB.out.cell (p := ⟨b, off + k * 2, none⟩) hb0).trans hc0), (h.cell (p := ⟨b, off + k * 2 + 1, none⟩) (by show b < R; omega)).trans ((HB.out.cell (p := ⟨b, off + k * 2 + 1, none⟩) hb0).trans hc1)⟩)
      clear hc0 hc1 c0 c1
      have KP : Hid (∀ (L : Array Bool) (Z : World), Below (R + 1) wr Z → Until (fun Z' => Z'.cell? ⟨w.heap.size, 0, none⟩ = some (.slice o2 dn.length k2) ∧ Z'.cell? ⟨w.heap.size, 1, none⟩ = some (.slice (some ⟨b, off, none⟩) at_.length k3) ∧ Z'.cell? ⟨b, off + k * 2, none⟩ = some (.string a0) ∧ Z'.cell? ⟨b, off + k * 2 + 1, none⟩ = some (.slice o4 a1.length k4)) (fun Z => Z.cell? ⟨R, 1, none⟩ = some (.slice p pre.length c)) 20 L Z) :=
        Lib.hid (fun L Z h => ⟨SK1.out Z (h.mono (Nat.le_succ _)), fun _ => (HT2.out.low h (Nat.lt_succ_self _)).cell 1 rfl⟩)
      have hbd : Below (R + 1) wr wr.drew := (Below.refl _ _).drew
      have hbz8 : Below (R + 1) wr (wr.drew.alloc (.cells #[] 9)) := BZ.mono (by omega)
      have hRd : R + 1 ≤ wr.drew.heap.size := hR3
      have M0 := HT0.out.cell 1 rfl
      go_wp2_with fail
      refine wp_region_until (fun Z' => Z'.cell? ⟨w.heap.size, 0, none⟩ = some (.slice o2 dn.length k2) ∧ Z'.cell? ⟨w.heap.size, 1, none⟩ = some (.slice (some ⟨b, off, none⟩) at_.length k3) ∧ Z'.cell? ⟨b, off + k * 2, none⟩ = some (.string a0) ∧ Z'.cell? ⟨b, off + k * 2 + 1, none⟩ = some (.slice o4 a1.length k4)) (fun Z => Z.cell? ⟨R, 1, none⟩ = some (.slice p pre.length c)) 20 (by kernel_rfl) (KP.out #[] _ hbd).1 ((KP.out #[false, false, false, false, false, false, false, false, false, false, false, false, false, false, false, false, false, false, false, false, false] _ hbd).2 rfl) (fun hU => ?_)
      refine wpAnyL_take (i := 0) (oi := { dst := some 17, op := Op.fieldAddr 46 (Operand.tmp 3) 1, type := 0, pos := "l03_entry.go:77", after := #[], guard := none }) (v := ?_) rfl (by decide) (by kernel_rfl) (by kernel_rfl) (by kernel_rfl) (fun _ _ _ h => h) (Or.inl ⟨by rfl, ?_⟩) (by assumption) ?_
      rotate_left
      · intro w hSw; (try dsimp only at hSw); go_simp; (try with_reducible rfl)
      clear hU; intro hU
      (try simp only [Act.put, List.setIfInBounds_toArray, List.set_cons_zero, List.set_cons_succ])
      refine wpAnyL_load (i := 1) (m := 18) (oi := { dst := some 18, op := Op.load 44 (Operand.tmp 17), type := 44, pos := "l03_entry.go:77", after := #[{ on := 0, ground := Ground.data }], guard := none }) (om := { dst := some 35, op := Op.call { callee := Callee.builtin Builtin.append, args := #[Operand.tmp 18, Operand.tmp 34], argTypes := #[44, 44] }, type := 44, pos := "l03_entry.go:77", after := #[{ on := 1, ground := Ground.data }, { on := 17, ground := Ground.data }, { on := 15, ground := Ground.chain }], guard := none }) (ok := { dst := none, op := Op.store 44 (Operand.tmp 36) (Operand.tmp 35), type := 0, pos := "l03_entry.go:77", after := #[{ on := 19, ground := Ground.data }, { on := 18, ground := Ground.data }, { on := 18, ground := Ground.chain }, { on := 0, ground := Ground.phase }, { on := 1, ground := Ground.phase }, { on := 2, ground := Ground.phase }, { on := 3, ground := Ground.phase }, { on := 4, ground := Ground.phase }, { on := 5, ground := Ground.phase }, { on := 6, ground := Ground.phase }, { on := 7, ground := Ground.phase }, { on := 8, ground := Ground.phase }, { on := 9, ground := Ground.phase }, { on := 10, ground := Ground.phase }, { on := 11, ground := Ground.phase }, { on := 12, ground := Ground.phase }, { on := 13, ground := Ground.phase }, { on := 14, ground := Ground.phase }, { on := 15, ground := Ground.phase }, { on := 16, ground := Ground.phase }, { on := 17, ground := Ground.phase }, { on := 18, ground := Ground.phase }], guard := none }) (v := ?_) rfl (by decide) (by kernel_rfl) (by kernel_rfl) (by kernel_rfl) rfl rfl (by kernel_rfl) (by kernel_rfl) (by kernel_rfl) (by kernel_rfl) (fun _ _ _ h => h) (Or.inl ⟨by rfl, ?_⟩) (by assumption) ?_
      rotate_left
      · intro w hSw; (try dsimp only at hSw); go_simp; (try with_reducible rfl)
      clear hU; intro hU
      (try simp only [Act.put, List.setIfInBounds_toArray, List.set_cons_zero, List.set_cons_succ])
      refine wpAnyL_take (i := 2) (oi := { dst := some 19, op := Op.fieldAddr 46 (Operand.tmp 1) 1, type := 0, pos := "l03_entry.go:77", after := #[], guard := none }) (v := ?_) rfl (by decide) (by kernel_rfl) (by kernel_rfl) (by kernel_rfl) (fun _ _ _ h => h) (Or.inl ⟨by rfl, ?_⟩) (by assumption) ?_
      rotate_left
      · intro w hSw; (try dsimp only at hSw); go_simp; (try with_reducible rfl)
      clear hU; intro hU
      (try simp only [Act.put, List.setIfInBounds_toArray, List.set_cons_zero, List.set_cons_succ])
      refine wpAnyL_take (i := 3) (oi := { dst := some 20, op := Op.load 44 (Operand.tmp 19), type := 44, pos := "l03_entry.go:77", after := #[{ on := 2, ground := Ground.data }], guard := none }) (v := ?_) rfl (by decide) (by kernel_rfl) (by kernel_rfl) (by kernel_rfl) (fun _ _ _ h => h) (Or.inl ⟨by rfl, ?_⟩) (by assumption) ?_
      rotate_left
      · intro w hSw; (try dsimp only at hSw); go_simp; (try with_reducible rfl)
      clear hU; intro hU
      (try simp only [Act.put, List.setIfInBounds_toArray, List.set_cons_zero, List.set_cons_succ])
      refine wpAnyL_take (i := 4) (oi := { dst := some 21, op := Op.move (Operand.tmp 4), type := 3, pos := "l03_entry.go:77", after := #[], guard := none }) (v := ?_) rfl (by decide) (by kernel_rfl) (by kernel_rfl) (by kernel_rfl) (fun _ _ _ h => h) (Or.inl ⟨by rfl, ?_⟩) (by assumption) ?_
      rotate_left
      · intro w hSw; (try dsimp only at hSw); go_simp; (try with_reducible rfl)
      clear hU; intro hU
      (try simp only [Act.put, List.setIfInBounds_toArray, List.set_cons_zero, List.set_cons_succ])
      refine wpAnyL_take (i := 5) (oi := { dst := some 22, op := Op.indexAddr 44 (Operand.tmp 20) (Operand.tmp 21), type := 0, pos := "l03_entry.go:77", after := #[{ on := 3, ground := Ground.data }, { on := 4, ground := Ground.data }], guard := none }) (v := ?_) rfl (by decide) (by kernel_rfl) (by kernel_rfl) (by kernel_rfl) (fun _ _ _ h => h) (Or.inl ⟨by rfl, ?_⟩) (by assumption) ?_
      rotate_left
      · intro w hSw; (try dsimp only at hSw); go_simp; (try with_reducible rfl)
      clear hU; intro hU
      (try simp only [Act.put, List.setIfInBounds_toArray, List.set_cons_zero, List.set_cons_succ])
      refine wpAnyL_take (i := 6) (oi := { dst := some 23, op := Op.fieldAddr 109 (Operand.tmp 22) 0, type := 0, pos := "l03_entry.go:77", after := #[{ on := 5, ground := Ground.data }], guard := none }) (v := ?_) rfl (by decide) (by kernel_rfl) (by kernel_rfl) (by kernel_rfl) (fun _ _ _ h => h) (Or.inl ⟨by rfl, ?_⟩) (by assumption) ?_
      rotate_left
      · intro w hSw; (try dsimp only at hSw); go_simp; (try with_reducible rfl)
      clear hU; intro hU
      (try simp only [Act.put, List.setIfInBounds_toArray, List.set_cons_zero, List.set_cons_succ])
      refine wpAnyL_take (i := 7) (oi := { dst := some 24, op := Op.load 9 (Operand.tmp 23), type := 9, pos := "l03_entry.go:77", after := #[{ on := 6, ground := Ground.data }], guard := none }) (v := ?_) rfl (by decide) (by kernel_rfl) (by kernel_rfl) (by kernel_rfl) (fun _ _ _ h => h) (Or.inl ⟨by rfl, ?_⟩) (by assumption) ?_
      rotate_left
      · intro w hSw; (try dsimp only at hSw); go_simp; (try with_reducible rfl)
      clear hU; intro hU
      (try simp only [Act.put, List.setIfInBounds_toArray, List.set_cons_zero, List.set_cons_succ])
      refine wpAnyL_take (i := 9) (oi := { dst := some 26, op := Op.fieldAddr 46 (Operand.tmp 1) 1, type := 0, pos := "l03_entry.go:77", after := #[], guard := none }) (v := ?_) rfl (by decide) (by kernel_rfl) (by kernel_rfl) (by kernel_rfl) (fun _ _ _ h => h) (Or.inl ⟨by rfl, ?_⟩) (by assumption) ?_
      rotate_left
      · intro w hSw; (try dsimp only at hSw); go_simp; (try with_reducible rfl)
      clear hU; intro hU
      (try simp only [Act.put, List.setIfInBounds_toArray, List.set_cons_zero, List.set_cons_succ])
      refine wpAnyL_take (i := 10) (oi := { dst := some 27, op := Op.load 44 (Operand.tmp 26), type := 44, pos := "l03_entry.go:77", after := #[{ on := 9, ground := Ground.data }], guard := none }) (v := ?_) rfl (by decide) (by kernel_rfl) (by kernel_rfl) (by kernel_rfl) (fun _ _ _ h => h) (Or.inl ⟨by rfl, ?_⟩) (by assumption) ?_
      rotate_left
      · intro w hSw; (try dsimp only at hSw); go_simp; (try with_reducible rfl)
      clear hU; intro hU
      (try simp only [Act.put, List.setIfInBounds_toArray, List.set_cons_zero, List.set_cons_succ])
      refine wpAnyL_take (i := 11) (oi := { dst := some 28, op := Op.move (Operand.tmp 4), type := 3, pos := "l03_entry.go:77", after := #[], guard := none }) (v := ?_) rfl (by decide) (by kernel_rfl) (by kernel_rfl) (by kernel_rfl) (fun _ _ _ h => h) (Or.inl ⟨by rfl, ?_⟩) (by assumption) ?_
      rotate_left
      · intro w hSw; (try dsimp only at hSw); go_simp; (try with_reducible rfl)
      clear hU; intro hU
      (try simp only [Act.put, List.setIfInBounds_toArray, List.set_cons_zero, List.set_cons_succ])
      refine wpAnyL_take (i := 12) (oi := { dst := some 29, op := Op.indexAddr 44 (Operand.tmp 27) (Operand.tmp 28), type := 0, pos := "l03_entry.go:77", after := #[{ on := 10, ground := Ground.data }, { on := 11, ground := Ground.data }], guard := none }) (v := ?_) rfl (by decide) (by kernel_rfl) (by kernel_rfl) (by kernel_rfl) (fun _ _ _ h => h) (Or.inl ⟨by rfl, ?_⟩) (by assumption) ?_
      rotate_left
      · intro w hSw; (try dsimp only at hSw); go_simp; (try with_reducible rfl)
      clear hU; intro hU
      (try simp only [Act.put, List.setIfInBounds_toArray, List.set_cons_zero, List.set_cons_succ])
      refine wpAnyL_take (i := 13) (oi := { dst := some 30, op := Op.fieldAddr 109 (Operand.tmp 29) 1, type := 0, pos := "l03_entry.go:77", after := #[{ on := 12, ground := Ground.data }], guard := none }) (v := ?_) rfl (by decide) (by kernel_rfl) (by kernel_rfl) (by kernel_rfl) (fun _ _ _ h => h) (Or.inl ⟨by rfl, ?_⟩) (by assumption) ?_
      rotate_left
      · intro w hSw; (try dsimp only at hSw); go_simp; (try with_reducible rfl)
      clear hU; intro hU
      (try simp only [Act.put, List.setIfInBounds_toArray, List.set_cons_zero, List.set_cons_succ])
      refine wpAnyL_take (i := 14) (oi := { dst := some 31, op := Op.load 94 (Operand.tmp 30), type := 94, pos := "l03_entry.go:77", after := #[{ on := 13, ground := Ground.data }], guard := none }) (v := ?_) rfl (by decide) (by kernel_rfl) (by kernel_rfl) (by kernel_rfl) (fun _ _ _ h => h) (Or.inl ⟨by rfl, ?_⟩) (by assumption) ?_
      rotate_left
      · intro w hSw; (try dsimp only at hSw); go_simp; (try with_reducible rfl)
      clear hU; intro hU
      (try simp only [Act.put, List.setIfInBounds_toArray, List.set_cons_zero, List.set_cons_succ])
      refine wpAnyL_ready (rs := [8]) (by kernel_rfl) (by simp) ?_
      refine AllReadyL.cons (o := { dst := some 25, op := Op.buildSlice 94 0 #[], type := 94, pos := "l03_entry.go:77", after := #[], guard := none }) rfl (fun K hK => ?_) (AllReadyL.nil)
      go_simp
      clear hU
      refine hK.out _ _ ?_ (fun hU => ?_)
      · (try dsimp only)
        first | exact KP.out _ _ (by assumption) | exact KP.out _ _ hbz8 | exact KP.out _ _ hbd | exact KP.out _ _ (Below.alloc (by assumption) (by first | exact hRd | exact hR6) _) | exact ⟨SK1.out _ (Below.setCell (hb7.mono (Nat.le_succ R)) (p := ⟨R, 1, none⟩) (Nat.le_refl _) _), fun h => absurd (h.symm.trans (show _ = true by kernel_rfl)) (by decide)⟩
      clear hK K
      (try simp only [Act.put, List.setIfInBounds_toArray, List.set_cons_zero, List.set_cons_succ])
      refine wpAnyL_ready (rs := [15]) (by kernel_rfl) (by simp) ?_
      refine AllReadyL.cons (o := { dst := some 32, op := Op.call { callee := Callee.builtin Builtin.append, args := #[Operand.tmp 25, Operand.tmp 31], argTypes := #[94, 94] }, type := 94, pos := "l03_entry.go:77", after := #[{ on := 8, ground := Ground.data }, { on := 14, ground := Ground.data }], guard := none }) rfl (fun K hK => ?_) (AllReadyL.nil)
      refine step_texts wr.heap.size rfl _ _ rfl (.slice (some ⟨wr.heap.size, 0, none⟩) 0 0) rfl OZ.out o4 a1 k4 rfl HSz.out hc4 hl1 hsz1 ?_
      intro v6 w6 hown6 hgr6
      have hbel6 : Below wr.heap.size wr w6 := BZ.grown hgr6 hsz1 (fun k hk => (OZ.out.lt k hk).1)
      have Q6 := Lib.hid (own_texts hown6)
      obtain ⟨xo, xc, rfl⟩ := (own_texts hown6).at.sl
      have hb6 : Below (R + 1) wr w6 := hbel6.mono hR3
      have hR6 : R + 1 ≤ w6.heap.size := Nat.le_trans hR3 hbel6.size
      have R6 := Lib.hid (HG.out.below hbel6).row
      clear hown6 hgr6
      clear hU
      refine hK.out _ _ ?_ (fun hU => ?_)
      · (try dsimp only)
        first | exact KP.out _ _ (by assumption) | exact KP.out _ _ hbz8 | exact KP.out _ _ hbd | exact KP.out _ _ (Below.alloc (by assumption) (by first | exact hRd | exact hR6) _) | exact ⟨SK1.out _ (Below.setCell (hb7.mono (Nat.le_succ R)) (p := ⟨R, 1, none⟩) (Nat.le_refl _) _), fun h => absurd (h.symm.trans (show _ = true by kernel_rfl)) (by decide)⟩
      clear hK K
      (try simp only [Act.put, List.setIfInBounds_toArray, List.set_cons_zero, List.set_cons_succ])
      refine wpAnyL_take (i := 16) (oi := { dst := some 33, op := Op.build 109 #[(0, Operand.tmp 24), (1, Operand.tmp 32)], type := 109, pos := "l03_entry.go:77", after := #[{ on := 7, ground := Ground.data }, { on := 15, ground := Ground.data }], guard := none }) (v := ?_) rfl (by decide) (by kernel_rfl) (by kernel_rfl) (by kernel_rfl) (fun _ _ _ h => h) (Or.inl ⟨by rfl, ?_⟩) (by assumption) ?_
      rotate_left
      · intro w hSw; (try dsimp only at hSw); go_simp; (try with_reducible rfl)
      clear hU; intro hU
      (try simp only [Act.put, List.setIfInBounds_toArray, List.set_cons_zero, List.set_cons_succ])
      refine wpAnyL_ready (rs := [17]) (by kernel_rfl) (by simp) ?_
      refine AllReadyL.cons (o := { dst := some 34, op := Op.buildSlice 44 1 #[(0, Operand.tmp 33)], type := 44, pos := "l03_entry.go:77", after := #[{ on := 16, ground := Ground.data }], guard := none }) rfl (fun K hK => ?_) (AllReadyL.nil)
      go_simp
      clear hU
      refine hK.out _ _ ?_ (fun hU => ?_)
      · (try dsimp only)
        first | exact KP.out _ _ (by assumption) | exact KP.out _ _ hbz8 | exact KP.out _ _ hbd | exact KP.out _ _ (Below.alloc (by assumption) (by first | exact hRd | exact hR6) _) | exact ⟨SK1.out _ (Below.setCell (hb7.mono (Nat.le_succ R)) (p := ⟨R, 1, none⟩) (Nat.le_refl _) _), fun h => absurd (h.symm.trans (show _ = true by kernel_rfl)) (by decide)⟩
      clear hK K
      (try simp only [Act.put, List.setIfInBounds_toArray, List.set_cons_zero, List.set_cons_succ])
      refine wpAnyL_ready (rs := [18]) (by kernel_rfl) (by simp) ?_
      refine AllReadyL.cons (o := { dst := some 35, op := Op.call { callee := Callee.builtin Builtin.append, args := #[Operand.tmp 18, Operand.tmp 34], argTypes := #[44, 44] }, type := 44, pos := "l03_entry.go:77", after := #[{ on := 1, ground := Ground.data }, { on := 17, ground := Ground.data }, { on := 15, ground := Ground.chain }], guard := none }) rfl (fun K hK => ?_) (AllReadyL.nil)
      refine step_attr (R + 1) rfl _ _ rfl (.slice p pre.length c) pre.length xs rfl R6.out a0 xo a1.length xc rfl hrl.out hR6 ?_
      intro g7 cp7 w7 h71 h72 h73
      have hb7 : Below (R + 1) wr w7 := (hb6.alloc hR6 _).grown h72 (by simp; omega) (fun r hr => (R6.out.lt r hr).1)
      have T7 := Lib.hid (HT2.out.low hb7 (Nat.lt_succ_self _))
      have q1 := T7.out.cell 1 rfl
      have f1 := T7.out.soft 1
      clear hU
      refine hK.out _ _ ?_ (fun hU => ?_)
      · (try dsimp only)
        first | exact KP.out _ _ (by assumption) | exact KP.out _ _ hbz8 | exact KP.out _ _ hbd | exact KP.out _ _ (Below.alloc (by assumption) (by first | exact hRd | exact hR6) _) | exact ⟨SK1.out _ (Below.setCell (hb7.mono (Nat.le_succ R)) (p := ⟨R, 1, none⟩) (Nat.le_refl _) _), fun h => absurd (h.symm.trans (show _ = true by kernel_rfl)) (by decide)⟩
      clear hK K
      (try simp only [Act.put, List.setIfInBounds_toArray, List.set_cons_zero, List.set_cons_succ])
      refine wpAnyL_take (i := 19) (oi := { dst := some 36, op := Op.fieldAddr 46 (Operand.tmp 3) 1, type := 0, pos := "l03_entry.go:77", after := #[{ on := 0, ground := Ground.phase }, { on := 1, ground := Ground.phase }, { on := 2, ground := Ground.phase }, { on := 3, ground := Ground.phase }, { on := 4, ground := Ground.phase }, { on := 5, ground := Ground.phase }, { on := 6, ground := Ground.phase }, { on := 7, ground := Ground.phase }, { on := 8, ground := Ground.phase }, { on := 9, ground := Ground.phase }, { on := 10, ground := Ground.phase }, { on := 11, ground := Ground.phase }, { on := 12, ground := Ground.phase }, { on := 13, ground := Ground.phase }, { on := 14, ground := Ground.phase }, { on := 15, ground := Ground.phase }, { on := 16, ground := Ground.phase }, { on := 17, ground := Ground.phase }, { on := 18, ground := Ground.phase }], guard := none }) (v := ?_) rfl (by decide) (by kernel_rfl) (by kernel_rfl) (by kernel_rfl) (fun _ _ _ h => h) (Or.inl ⟨by rfl, ?_⟩) (by assumption) ?_
      rotate_left
      · intro w hSw; (try dsimp only at hSw); go_simp; (try with_reducible rfl)
      clear hU; intro hU
      (try simp only [Act.put, List.setIfInBounds_toArray, List.set_cons_zero, List.set_cons_succ])
      refine wpAnyL_ready (rs := [20]) (by kernel_rfl) (by simp) ?_
      refine AllReadyL.cons (o := { dst := none, op := Op.store 44 (Operand.tmp 36) (Operand.tmp 35), type := 0, pos := "l03_entry.go:77", after := #[{ on := 19, ground := Ground.data }, { on := 18, ground := Ground.data }, { on := 18, ground := Ground.chain }, { on := 0, ground := Ground.phase }, { on := 1, ground := Ground.phase }, { on := 2, ground := Ground.phase }, { on := 3, ground := Ground.phase }, { on := 4, ground := Ground.phase }, { on := 5, ground := Ground.phase }, { on := 6, ground := Ground.phase }, { on := 7, ground := Ground.phase }, { on := 8, ground := Ground.phase }, { on := 9, ground := Ground.phase }, { on := 10, ground := Ground.phase }, { on := 11, ground := Ground.phase }, { on := 12, ground := Ground.phase }, { on := 13, ground := Ground.phase }, { on := 14, ground := Ground.phase }, { on := 15, ground := Ground.phase }, { on := 16, ground := Ground.phase }, { on := 17, ground := Ground.phase }, { on := 18, ground := Ground.phase }], guard := none }) rfl (fun K hK => ?_) (AllReadyL.nil)
      go_simp
      clear hU
      refine hK.out _ _ ?_ (fun hU => ?_)
      · (try dsimp only)
        first | exact KP.out _ _ (by assumption) | exact KP.out _ _ hbz8 | exact KP.out _ _ hbd | exact KP.out _ _ (Below.alloc (by assumption) (by first | exact hRd | exact hR6) _) | exact ⟨SK1.out _ (Below.setCell (hb7.mono (Nat.le_succ R)) (p := ⟨R, 1, none⟩) (Nat.le_refl _) _), fun h => absurd (h.symm.trans (show _ = true by kernel_rfl)) (by decide)⟩
      clear hK K
      (try simp only [Act.put, List.setIfInBounds_toArray, List.set_cons_zero, List.set_cons_succ])
      refine wpAnyL_done (by kernel_rfl) ?_ _
      have HG9 : Hid (Grow attrE 109 (R + 1) (w7.setCell ⟨R, 1, none⟩ (.slice (some ⟨g7, 0, none⟩) (pre.length + 1) cp7)) (.slice (some ⟨g7, 0, none⟩) (pre.length + 1) cp7) (pre ++ [(a0, a1)]) (xs ++ [.string a0, .slice xo a1.length xc])) := Lib.hid ((Grow.step HG.out hR3 hbel6 (attr_pack a0 a1 _ (Fresh wr w6) ⟨Q6.out, fun _ h => h, trivial⟩) (more' (Below.refl _ _) _) h71 h72 (fun g' hg' => by
        have e : g7 = g' := by simpa [Value.ownBlock] using hg'
        subst e
        rcases h73 with h | h
        · exact .inl h
        · exact .inr (by omega))).cellOut (Nat.lt_succ_self R))
      have T9 := Lib.hid (T7.out.set 1 (.slice (some ⟨g7, 0, none⟩) (pre.length + 1) cp7))
      have A9 := Lib.hid ((HT0.out.low hb7 (by omega)).far (j := 1) (R := R) (by omega) (.slice (some ⟨g7, 0, none⟩) (pre.length + 1) cp7))
      have U9 := Lib.hid ((HT1.out.low hb7 (by omega)).far (j := 1) (R := R) (by omega) (.slice (some ⟨g7, 0, none⟩) (pre.length + 1) cp7))
      have D9 := Lib.hid (((HOD.out.frame (S := fun b => w.heap.size + 1 + 1 ≤ b ∧ b < R) (fun k h _ => hb7.block k (by have := h.2; omega)))).frame (Same.set _ (g := R) 1 (.slice (some ⟨g7, 0, none⟩) (pre.length + 1) cp7) (by intro h; have := h.2; omega)))
      have B9 := Lib.hid (HB.out.trans (((hb7.mono (Nat.le_succ R)).setCell (p := ⟨R, 1, none⟩) (Nat.le_refl _) (.slice (some ⟨g7, 0, none⟩) (pre.length + 1) cp7)).mono (by omega)))
      clear SK1 KP hbd hbz8 OZ HSz h71 h72 h73 hb7 hbel6 hU T7 q1 f1 BZ HS3 M0
      go_wp2
      go_roundw
      case rel => exact ⟨k + 1, some ⟨g7, 0, none⟩, pre.length + 1, cp7, _, by omega, by go_num, A9.out, U9.out, T9.out, by rw [HT.out]; exact HG9.out, D9.out, B9.out⟩
      case measure => simp [intOf]; omega
    · have e : at_.take k = at_ := List.take_of_length_le (by omega)
      have HO : Hid (SlOwn attrE (fun b => R + 1 ≤ b ∧ b < wr.heap.size) wr at_ (.slice p k c)) := Lib.hid (by have := HG.out.own; rw [e] at this; rw [show k = at_.length by omega]; exact this)
      clear e
      have x0 := HT1.out.cell 0 rfl
      have x1 := HT1.out.cell 1 rfl
      have y0 := HT2.out.cell 0 rfl
      have y1 := HT2.out.cell 1 rfl
      have f0 := HT1.out.soft 0
      have f1 := HT1.out.soft 1
      have y1' : wr.cell? ⟨R, 1, none⟩ = some (.slice p k c) := by rw [y1, List.length_take, Nat.min_eq_left hk]
      clear y1
      have TE := (HT1.out.set 0 (.slice d0 dn.length dc)).set 1 (.slice p k c)
      have j0 := TE.cell 0 rfl
      have j1 := TE.cell 1 rfl
      clear TE
      go_wp2_with fail
      refine bodyPost_ret (v := .agg #[.slice d0 dn.length dc, .slice p k c]) (by simp [results, Tryz.results72, go_sem, j0, j1]) rfl ⟨_, _, rfl, entry_pack dn at_ _ _ (fun b => w.heap.size + 1 + 1 ≤ b ∧ b < R) (fun b => R + 1 ≤ b ∧ b < wr.heap.size) ⟨?_, (fun b h => ?_), ?_, (fun b h => ?_), fun b h1 h2 => ?_, trivial⟩, ?_⟩
      · exact ((HOD.out.frame (Same.set _ (g := w.heap.size + 1) 0 _ (by intro h; have := h.1; omega))).frame (Same.set _ (g := w.heap.size + 1) 1 _ (by intro h; have := h.1; omega)))
      · exact ⟨by have := h.1; omega, by have := h.2; show _ < (World.heap _).size; simp only [setCell_size]; omega⟩
      · exact ((HO.out.frame (Same.set _ (g := w.heap.size + 1) 0 _ (by intro h; have := h.1; omega))).frame (Same.set _ (g := w.heap.size + 1) 1 _ (by intro h; have := h.1; omega)))
      · exact ⟨by have := h.1; omega, by have := h.2; show _ < (World.heap _).size; simp only [setCell_size]; omega⟩
      · have := h1.2; have := h2.1; omega
      · exact (HB.out.setCell (p := ⟨w.heap.size + 1, 0, none⟩) (by show w.heap.size ≤ w.heap.size + 1; omega) _).setCell (p := ⟨w.heap.size + 1, 1, none⟩) (by show w.heap.size ≤ w.heap.size + 1; omega) _
end Go.Proofs.YtmanlnlhpgdbpaaGreat
/- Change logs: the specification's copies of changes. -/
namespace Go.Proofs.YtmanlnlhpgdbpaaGreat
open Go.RowKit
attribute [local go_sem ↓] Go.wp_at_zero Go.wp_at_succ

theorem change_one {S : Bs} {w : World} {x : ChangeT} {cs : List Value} (h : changeE.At S w x cs) : ∀ u ∈ cs, u.oneCell' = true := by
  obtain ⟨a0, a1, a2, a3, a4, v3, v4, rfl, rfl, s3, s4, _⟩ := change_atq h
  obtain ⟨o3, k3, rfl⟩ := s3.sl
  obtain ⟨o4, k4, rfl⟩ := s4.sl
  intro u hu
  simp at hu
  rcases hu with rfl | rfl | rfl | rfl | rfl <;> rfl
section
variable {ops : Array Oper} {rest : List Oper} {o : Oper} {a : Act} {Q : Exit → Act → World → Prop} {W : World}
/-- the cells of a list's rows -/
def RowsOf (S : Bs) (W : World) (d : List ChangeT) (xs : List Value) : Prop := ∀ i (h : i < d.length), ∃ cs, (∀ j (h : j < cs.length), xs[i * changeE.n + j]? = some cs[j]) ∧ changeE.At S W d[i] cs
set_option maxRecDepth 100000 in
/-- append([]Change{}, l...) -/
theorem app_ch0 {S : Bs} (N : Nat) (hgd : o.guard = none) (s x : Operand)
    (ho : o.op = .call { callee := .builtin .append, args := #[s, x], argTypes := #[27, 27] }) (hs : a.eval s = .slice (some ⟨N, 0, none⟩) 0 0)
    (ao : Option Addr) (d : List ChangeT) (c n : Nat) (hn : n = d.length) (hx : a.eval x = .slice ao n c) (hd : SlAt changeE S W d (.slice ao d.length c)) (hlen : d.length ≤ 1048576) (hN : N = W.heap.size)
    (h : ∀ v' xs w', w'.ownsRow W.heap.size 61 5 v' d.length xs → RowsOf S W d xs → Below W.heap.size W w' → wpList Tryz.prog ops Q rest (a.put o.dst v') w') :
    wpList Tryz.prog ops Q (o :: rest) a (W.alloc (.cells #[] 61)) := by
  subst hN
  subst hn
  have B0 : Below W.heap.size W (W.alloc (.cells #[] 61)) := more' (Below.refl _ _) _
  have O0 : (W.alloc (.cells #[] 61)).ownsRow W.heap.size 61 5 (.slice (some ⟨W.heap.size, 0, none⟩) 0 0) 0 [] := ⟨rfl, .inr ⟨W.heap.size, 0, #[], rfl, Nat.le_refl _, heap_alloc_new W _, by simp, by unfold maxLen; simp, rfl, rfl⟩⟩
  obtain ⟨i0, hi, hz0, hz1, hz2⟩ := info_parts Tryz.infoTChange
  have hc := hd.cap.2.2
  rcases ao with _ | ad
  · have hd0 : d = [] := by
      by_cases h0 : d = []
      · exact h0
      · obtain ⟨b, off, cs, e1, _⟩ := hd.row (List.length_pos_iff.2 h0)
        cases e1
    subst hd0
    have := hc rfl
    subst this
    refine wpList_append_own_none hgd s x 27 ho W.heap.size 61 i0 5 Tryz.underlying27 hi _ 0 [] hs O0 hx (h _ [] _ O0 (fun i hi => by simp at hi) B0)
  · have hxs : ∃ xs : List Value, xs.length = d.length * 5 ∧ (∀ j u, xs[j]? = some u → (W.alloc (.cells #[] 61)).cell? (ad.add j) = some u) ∧ RowsOf S W d xs := by
      by_cases h0 : d = []
      · subst h0; exact ⟨[], rfl, fun j u hu => by simp at hu, fun i hi => by simp at hi⟩
      · obtain ⟨b, off, cs, e1, _, hb, _⟩ := hd.row (List.length_pos_iff.2 h0)
        cases e1
        obtain ⟨xs, h1, h2, h3⟩ := all_cells (e := changeE) (by decide) hd
        refine ⟨xs, h1, fun j u hu => ?_, h3⟩
        rw [Go.WideShapes.add_plain]
        exact (B0.cell (p := ⟨b, off + j, none⟩) hb).trans (h2 j u hu)
    obtain ⟨xs, hxl, hxc, hxr⟩ := hxs
    refine wpList_append_own _ hgd s x 27 ho W.heap.size 61 i0 _ 5 80 Tryz.underlying27 hi hz0 hz1 hz2 rfl (by decide) _ 0 [] hs O0 ad d.length c xs hx hxl hxc ?_ ?_ ?_ B0.size ?_
    · intro u hu
      obtain ⟨j, hj, rfl⟩ := List.getElem_of_mem hu
      have hj2 : j < d.length * 5 := by rw [← hxl]; exact hj
      have hi2 : j / 5 < d.length := by omega
      obtain ⟨cs, q1, q2⟩ := hxr (j / 5) hi2
      have hcl : cs.length = 5 := changeE.len q2
      have hm : j % 5 < cs.length := by rw [hcl]; omega
      have := q1 (j % 5) hm
      have ej : j / 5 * changeE.n + j % 5 = j := by show j / 5 * 5 + j % 5 = j; omega
      rw [ej, List.getElem?_eq_getElem hj] at this
      injection this with this
      rw [this]
      exact change_one q2 _ (List.getElem_mem hm)
    · unfold maxLen; omega
    · omega
    · intro v' w' h1 h2 h3
      rw [Nat.zero_add, List.nil_append] at h1
      exact h v' xs w' h1 hxr (B0.grown h2 (by simp) (fun r hr => by simp [Value.ownBlock] at hr; omega))
end
set_option maxRecDepth 100000 in
set_option maxHeartbeats 2000000 in
theorem l08List_any {S : Bs} (v : Value) (d : List ChangeT) (w : World) (hd : SlAt changeE S w d v) (hz : d.length + szL changeE d ≤ 1048576) :
    Calls Tryz.prog 56 #[v] w fun e w' => (∃ u, e = .returned u ∧ SlOwn changeE (Fresh w w') w' d u) ∧ Below w.heap.size w w' := by
  obtain ⟨ao, ca, rfl⟩ := hd.sl
  have HA := Lib.hid hd
  have HZ : Hid (∀ x ∈ d, changeE.sz x ≤ 1048576) := Lib.hid (fun x h => by have h1 := szL_mem changeE h; omega)
  have hl : d.length ≤ 1048576 := by omega
  clear hd hz
  go_enter Tryz.func56, Tryz.ntmps56
  go_wp2_with (first
    | (at_builtin; refine app_ch0 _ rfl _ _ rfl rfl ao d ca _ rfl rfl HA.out hl rfl ?_; intro v1 xs w1 hown hrows hbel)
    | (fail "none"))
  rcases hown.2 with ⟨rfl, h0⟩ | ⟨g, cap, cur, rfl, _⟩
  · have e : d = [] := List.length_eq_zero_iff.1 h0
    subst e
    go_loopw [4] (fun i wr => i = .int .i64 0 ∧ Below w.heap.size w wr) (fun i _ => 0)
    case atStart => exact ⟨rfl, hbel⟩
    case round =>
      obtain ⟨rfl, hb⟩ := hrel
      go_wp2
      go_ret
      exact ⟨⟨_, rfl, own_nilS _ _ _⟩, hb⟩
  obtain ⟨hh, hc⟩ := Half.start (S := S) (w0 := w) (w := w) (e := changeE) (Nat.le_refl _) hown hrows (fun _ _ h => h)
  have HC := Lib.hid hc
  clear hown hrows hc
  go_loopw [4] (fun i wr => ∃ k : Nat, k ≤ d.length ∧ i = .int .i64 k ∧ Half changeE S w wr g d k ∧ Below w.heap.size w wr) (fun i _ => d.length - (intOf i).toNat)
  case atStart => exact ⟨0, Nat.zero_le _, rfl, hh, hbel⟩
  case round =>
    clear hh hbel
    obtain ⟨k, hk, rfl, hh, hbel⟩ := hrel
    have HH := Lib.hid hh; clear hh
    by_cases hlt : k < d.length
    · obtain ⟨cs, hrow, hat⟩ := HH.out.row hlt
      obtain ⟨a0, a1, a2, a3, a4, v3, v4, hx, rfl, s3, s4, _⟩ := change_atq hat
      have HZ1 : changeE.sz (a0, a1, a2, (a3, a4)) ≤ 1048576 := by have := HZ.out _ (List.getElem_mem hlt); rw [hx] at this; exact this
      have HE : changeE.sz (a0, a1, a2, (a3, a4)) = 0 + (0 + (a2.size + entryE.sz (a3, a4))) := rfl
      rw [HE] at HZ1
      have CK : Hid (Calls Tryz.prog 72 #[.agg #[v3, v4]] wr fun e w' => ∃ u0 u1, e = .returned (.agg #[u0, u1]) ∧ entryE.Own (Fresh wr w') w' (a3, a4) [u0, u1] ∧ Below wr.heap.size wr w') := Lib.hid (l03Copy_any a3 a4 v3 v4 wr (s3.frame (Same.of_below' hbel)) (s4.frame (Same.of_below' hbel)) (by omega))
      have HX := Lib.hid hx
      obtain ⟨o3, k3, rfl⟩ := s3.sl
      obtain ⟨o4, k4, rfl⟩ := s4.sl
      have HR := Lib.hid hrow
      have c3 : wr.cell? ⟨g, k * 5 + 3, none⟩ = some (.slice o3 a3.length k3) := hrow.cells 3 (by simp)
      have c4 : wr.cell? ⟨g, k * 5 + 4, none⟩ = some (.slice o4 a4.length k4) := hrow.cells 4 (by simp)
      have g1 : (0 : Int) ≤ (k : Int) := by omega
      have g2 : (k : Int) < (d.length : Int) := by omega
      clear hat s3 s4 hx HZ1 HE hrow
      go_wp2_with fail
      refine CK.out.mono ?_
      rintro e w2 ⟨u0, u1, rfl, q, hb⟩
      obtain ⟨⟨p3, n3, j3, rfl⟩, p4, n4, j4, rfl⟩ := entry_sl q rfl
      have Q := Lib.hid q; have D2 := Lib.hid hb
      have R2 := Lib.hid (HR.out.same (hb.block _ HR.out.lt))
      have b2 := hbel.trans (hb.mono hbel.size)
      clear q hb c3 c4 CK
      have f3 : w2.frozen? ⟨g, k * 5 + 3, none⟩ = false := R2.out.soft _
      have f4 : w2.frozen? ⟨g, k * 5 + 4, none⟩ = false := R2.out.soft _
      have c3 : w2.cell? ⟨g, k * 5 + 3, none⟩ = some (.slice o3 a3.length k3) := R2.out.cells 3 (by simp)
      have c4 : w2.cell? ⟨g, k * 5 + 4, none⟩ = some (.slice o4 a4.length k4) := R2.out.cells 4 (by simp)
      have HH2 : Hid (Half changeE S w ((w2.setCell ⟨g, k * 5 + 3, none⟩ (.slice p3 n3 j3)).setCell ⟨g, k * 5 + 4, none⟩ (.slice p4 n4 j4)) g d (k + 1)) := Lib.hid (HH.out.step hlt D2.out hbel.size (cs := [.int .i64 a0, .int .i64 a1, .string a2, .slice p3 n3 j3, .slice p4 n4 j4]) (by rw [HX.out]; exact change_of_entry Q.out (fun b h => h)) ((R2.out.store (j := 3) (by simp) (.slice p3 n3 j3)).store (j := 4) (by simp) (.slice p4 n4 j4))
        (fun b hb => by rw [Below.heap_setCell _ _ _ _ hb, Below.heap_setCell _ _ _ _ hb]) (by simp only [setCell_size])
        (fun i cs hi hcl hr => (hr.skip (n := 5) hcl (u := 3) (by decide) hi _).skip (n := 5) hcl (u := 4) (by decide) hi _))
      have hgw : w.heap.size ≤ g := HH.out.ge
      have b3 := (b2.setCell (p := ⟨g, k * 5 + 3, none⟩) hgw (.slice p3 n3 j3)).setCell (p := ⟨g, k * 5 + 4, none⟩) hgw (.slice p4 n4 j4)
      go_wp2
      go_roundw
      case rel => exact ⟨k + 1, by omega, by go_num, HH2.out, b3⟩
      case measure => simp [intOf]; omega
    · obtain rfl : k = d.length := by omega
      have HO := Lib.hid (HH.out.own HC.out)
      go_wp2
      go_ret
      exact ⟨⟨_, rfl, HO.out⟩, hbel⟩
end Go.Proofs.YtmanlnlhpgdbpaaGreat
