/- Merged texts: ChS1, ChS2, ChS3, ChS4. -/
import Derived.Test.YtmanlnlhpgdbpaaGreatM6
import Derived.Test.YtmanlnlhpgdbpaaGreatM11
import Derived.Test.YtmanlnlhpgdbpaaGreatM7
import Derived.Test.YtmanlnlhpgdbpaaGreatM8
/- Change logs: the specification's small functions. -/
namespace Go.Proofs.YtmanlnlhpgdbpaaGreat
open Go.RowKit
attribute [local go_sem ↓] Go.wp_at_zero Go.wp_at_succ

set_option maxRecDepth 100000 in
set_option maxHeartbeats 1000000 in
theorem l08None_any (o3 o4 : Option Addr) (n3 n4 k3 k4 : Nat) (w : World) :
    Calls Tryz.prog 64 #[.agg #[.slice o3 n3 k3, .slice o4 n4 k4]] w fun e w' => e = .returned (.bool (decide (n3 = 0) && decide (n4 = 0))) ∧ Below w.heap.size w w' := by
  have e3 := len_zero n3
  have e4 := len_zero n4
  generalize decide (n3 = 0) = r3 at *
  generalize decide (n4 = 0) = r4 at *
  go_enter Tryz.func64, Tryz.ntmps64
  cases r3
  · go_wp2
    go_ret
    exact ⟨rfl, more' (Below.refl _ _) _⟩
  · go_wp2
    go_ret
    exact ⟨rfl, more' (Below.refl _ _) _⟩
set_option maxRecDepth 100000 in
set_option maxHeartbeats 1000000 in
theorem l02Is_any (n a b : Int) (w : World) :
    Calls Tryz.prog 31 #[.int .i64 n, .int .i64 a, .int .i64 b] w fun e w' => e = .returned (.bool (decide (a ≤ n) && decide (n ≤ b))) ∧ w = w' := by
  by_cases h : a ≤ n
  · have h1 : decide (a ≤ n) = true := by simpa using h
    rw [h1]
    go_enter Tryz.func31, Tryz.ntmps31
    go_wp2
    go_ret
    exact ⟨by simp, rfl⟩
  · have h1 : decide (a ≤ n) = false := by simpa using h
    rw [h1]
    go_enter Tryz.func31, Tryz.ntmps31
    go_wp2
    go_ret
    exact ⟨by simp, rfl⟩
/-- kind, name and entry of a change -/
noncomputable def rightC (k : Int) (d : RdnL) (a : RdnL) (b : List AttrV) : Bool := decide (0 < d.length) && dnB d && mayB k a b
set_option maxRecDepth 100000 in
set_option maxHeartbeats 1000000 in
theorem l08Right_any {S3 S4 S5 : Bs} (k : Int) (d : List RdnT) (a3 : List RdnT) (a4 : List AttrT) (v v3 v4 : Value) (w : World) (hd : SlAt rdnE S5 w d v) (h3 : SlAt rdnE S3 w a3 v3) (h4 : SlAt attrE S4 w a4 v4) (hzd : Fits d) (hz : entryE.sz (a3, a4) ≤ 1048576) :
    Calls Tryz.prog 33 #[.int .i64 k, v, .agg #[v3, v4]] w fun e w' => e = .returned (.bool (rightC k d a3 a4)) ∧ Below w.heap.size w w' := by
  have HE : entryE.sz (a3, a4) = (a3.length + szL rdnE a3) + (a4.length + szL attrE a4) := rfl
  rw [HE] at hz
  obtain ⟨o, c, rfl⟩ := hd.sl
  obtain ⟨o3, k3, rfl⟩ := h3.sl
  obtain ⟨o4, k4, rfl⟩ := h4.sl
  have CR : Hid (∀ W : World, Below w.heap.size w W → Calls Tryz.prog 65 #[.agg #[.slice o3 a3.length k3, .slice o4 a4.length k4]] W fun e w' => e = .returned (.bool (rightB a3 a4)) ∧ Below W.heap.size W w') := Lib.hid (fun W b => SpecEntryRight_any o3 o4 a3 a4 k3 k4 W ((dn_of h3).below b) ((attrs_of h4).below b) (fits_dn (by omega)) (fits_attrs (by omega)))
  have CZ : Hid (∀ W : World, Calls Tryz.prog 64 #[.agg #[.slice o3 a3.length k3, .slice o4 a4.length k4]] W fun e w' => e = .returned (.bool (noneB a3 a4)) ∧ Below W.heap.size W w') := Lib.hid (fun W => l08None_any o3 o4 _ _ k3 k4 W)
  have CI : Hid (∀ W : World, Calls Tryz.prog 31 #[.int .i64 k, .int .i64 1, .int .i64 4] W fun e w' => e = .returned (.bool (decide (1 ≤ k) && decide (k ≤ 4))) ∧ W = w') := Lib.hid (fun W => l02Is_any k 1 4 W)
  have CD : Hid (∀ W : World, Below w.heap.size w W → Calls Tryz.prog 63 #[.slice o d.length c] W fun e w' => e = .returned (.bool (dnB d)) ∧ Below W.heap.size W w') := Lib.hid (fun W b => SpecDnRight_any o d c W ((dn_of hd).below b) hzd)
  have M2 : Hid (k = 2 → mayB k a3 a4 = noneB a3 a4) := Lib.hid (fun h => by subst h; simp [mayB])
  have M1 : Hid (1 ≤ k → k ≤ 4 → k ≠ 2 → mayB k a3 a4 = rightB a3 a4) := Lib.hid (fun h1 h2 h3 => by
    have : k = 1 ∨ k = 3 ∨ k = 4 := by omega
    rcases this with rfl | rfl | rfl <;> simp [mayB])
  have M3 : Hid ((decide (1 ≤ k) && decide (k ≤ 4)) = false → rightC k d a3 a4 = false) := Lib.hid (fun h => by
    have h1 : k ≠ 1 ∧ k ≠ 2 ∧ k ≠ 3 ∧ k ≠ 4 := by
      refine ⟨?_, ?_, ?_, ?_⟩ <;> (rintro rfl; simp at h)
    simp [rightC, mayB, h1])
  have HR : Hid (rightC k d a3 a4 = (decide (0 < d.length) && dnB d && mayB k a3 a4)) := Lib.hid rfl
  have HK : Hid ((decide (1 ≤ k) && decide (k ≤ 4)) = true → 1 ≤ k ∧ k ≤ 4) := Lib.hid (fun h => by simpa using h)
  have e0 := len_zero d.length
  have HN : Hid (decide (d.length = 0) = !decide (0 < d.length)) := Lib.hid (by by_cases h : d.length = 0 <;> simp [h] <;> omega)
  clear hd h3 h4 hz hzd HE
  rw [HN.out] at e0
  generalize mayB k a3 a4 = m at *
  generalize rightC k d a3 a4 = R at *
  generalize dnB d = dr at *
  generalize noneB a3 a4 = nz at *
  generalize rightB a3 a4 = rr at *
  generalize (decide (1 ≤ k) && decide (k ≤ 4)) = ki at *
  generalize decide (0 < d.length) = d0 at *
  have W0 := (Blk.new w 46 [.slice o3 a3.length k3, .slice o4 a4.length k4])
  go_enter Tryz.func33, Tryz.ntmps33
  go_wp2_with fail
  refine calls_by (fun W => Below w.heap.size w W ∧ Blk W w.heap.size [.slice o3 a3.length k3, .slice o4 a4.length k4]) ⟨more' (Below.refl _ _) _, W0⟩ ?_
  rintro W1 ⟨b1, t1⟩
  refine (CI.out W1).mono ?_
  rintro e w2 ⟨rfl, rfl⟩
  have T1 := Lib.hid t1; clear t1 W0
  cases ki
  · have HRR := Lib.hid (M3.out rfl)
    go_wp2
    go_ret
    exact ⟨ret_bool HRR.out.symm, b1⟩
  obtain ⟨hk1, hk2⟩ := HK.out rfl
  cases d0
  · have e0' : ((d.length : Int) == 0) = true := e0
    go_wp2
    go_ret
    exact ⟨ret_bool (by rw [HR.out]; rfl), b1⟩
  have e0' : ((d.length : Int) == 0) = false := e0
  clear e0
  go_wp2_with fail
  refine (CD.out W1 b1).mono ?_
  rintro e w3 ⟨rfl, hb⟩
  have b3 := b1.trans (hb.mono b1.size); have T3 := Lib.hid (T1.out.below hb)
  clear hb T1
  cases dr
  · go_wp2
    go_ret
    exact ⟨ret_bool (by rw [HR.out]; rfl), b3⟩
  have x0 := T3.out.cell 0 rfl; have x1 := T3.out.cell 1 rfl
  by_cases c2 : k = 2
  · have HM := Lib.hid (M2.out c2)
    have c2' : (k == 2) = true := by simpa using c2
    go_wp2_with fail
    refine (CZ.out w3).mono ?_
    rintro e w4 ⟨rfl, hb⟩
    go_wp2
    go_ret
    exact ⟨ret_bool (by rw [HR.out, HM.out]; rfl), b3.trans (hb.mono b3.size)⟩
  · have HM := Lib.hid (M1.out hk1 hk2 c2)
    have c2' : (k == 2) = false := by simpa using c2
    go_wp2_with fail
    refine (CR.out w3 b3).mono ?_
    rintro e w4 ⟨rfl, hb⟩
    go_wp2
    go_ret
    exact ⟨ret_bool (by rw [HR.out, HM.out]; rfl), b3.trans (hb.mono b3.size)⟩
end Go.Proofs.YtmanlnlhpgdbpaaGreat
/- Change logs: what the specification's ChangesRight returns. -/
namespace Go.Proofs.YtmanlnlhpgdbpaaGreat
open Go.RowKit
attribute [local go_sem ↓] Go.wp_at_zero Go.wp_at_succ

theorem good_short {s : ByteArray} (h : goodB s = true) : s.size ≤ 8000 := by
  unfold goodB at h
  rw [Bool.and_eq_true] at h
  have e := text_eq h.2
  have h1 := text_short h.1
  have e2 : (textS (scanL s.data.toList)).size = (textL (scanL s.data.toList)).length := by simp [textS, ByteArray.size]
  rw [e, size_len] at e2
  omega
/-- what is read of a text -/
def Reads (s : ByteArray) (w : World) (e : Ending) (w' : World) : Prop := (∃ (d : RdnL) (o : Option Addr) (k : Nat) (b : Bool), e = .returned (.tuple #[.slice o d.length k, .bool b]) ∧ SlAt rdnE (Fresh w w') w' d (.slice o d.length k) ∧ Fits d ∧ ∀ q a3 a4, (b && rightC q d a3 a4) = (decide (0 < (readD s).length) && mayB q a3 a4)) ∧ Below w.heap.size w w'
theorem read_any (s : ByteArray) (w : World) (hm : s.size ≤ 1048575) : Calls Tryz.prog 32 #[.string s] w (Reads s w) := by
  by_cases h0 : s.size = 0
  · refine (l02Read_none s w h0).mono ?_
    rintro e w' ⟨⟨v, he, ho⟩, hb⟩
    obtain ⟨o, k, rfl⟩ := own_slice ho
    have ho' := own_rdns (l := []) ho
    refine ⟨⟨[], o, k, true, he, ho'.at.wide (fun b h => h), ⟨by simp, by simp⟩, fun q a3 a4 => ?_⟩, hb⟩
    have e1 := (good_empty h0)
    have e2 := read_good (s := s) (by omega) e1.1
    rw [e2.2, e1.2]
    simp [rightC]
  · refine (l02Read_some s w hm (by omega)).mono ?_
    rintro e w' ⟨⟨v, he, ho⟩, hb⟩
    obtain ⟨o, k, rfl⟩ := own_slice ho
    have ho' := own_rdns ho
    have hfit := spec_fits s hm (specD s.data.toList).length
    rw [List.take_length] at hfit
    refine ⟨⟨specD s.data.toList, o, k, okB s, he, ho'.at.wide (fun b h => h), hfit, fun q a3 a4 => ?_⟩, hb⟩
    rw [ok_iff (by omega)]
    cases hg : goodB s
    · have : readD s = [] := by
        by_cases h8 : 8000 < s.size
        · exact (read_long h8).2
        · exact (read_bad h8 hg).2
      rw [this]; simp
    · have h8 := good_short hg
      have e2 := read_good (s := s) (by omega) hg
      have e3 := (ok_good (by rw [ok_iff (by omega)]; exact hg) (by omega : 0 < s.size)).2
      rw [e2.2, e3]
      have hdn : dnB (scanL s.data.toList) = true := by unfold goodB at hg; rw [Bool.and_eq_true] at hg; exact hg.1
      simp [rightC, hdn]
set_option maxRecDepth 100000 in
set_option maxHeartbeats 2000000 in
theorem SpecChangesRight_any {S : Bs} (n : Int) (v : Value) (d : List ChangeT) (w : World) (hd : SlAt changeE S w d v) (hz : d.length + szL changeE d ≤ 1048576) :
    Calls Tryz.prog 8 #[.agg #[.int .i64 n, v]] w fun e w' => e = .returned (.bool (chsB n d)) ∧ Below w.heap.size w w' := by
  obtain ⟨ao, ca, rfl⟩ := hd.sl
  have HA := Lib.hid hd
  have HZ : Hid (∀ x ∈ d, changeE.sz x ≤ 1048575) := Lib.hid (fun x h => by have h1 := szL_mem changeE h; have h2 := List.length_pos_of_mem h; omega)
  have hl : d.length ≤ 1048576 := by omega
  have HB := Lib.hid (@chsB_bad n d)
  have HG := Lib.hid (@chsB_good n d)
  clear hd hz
  generalize chsB n d = R at *
  have CI : Hid (∀ W : World, Calls Tryz.prog 31 #[.int .i64 n, .int .i64 1, .int .i64 1000000] W fun e w' => e = .returned (.bool (decide (1 ≤ n) && decide (n ≤ 1000000))) ∧ W = w') := Lib.hid (fun W => l02Is_any n 1 1000000 W)
  have HI : Hid ((decide (1 ≤ n) && decide (n ≤ 1000000)) = true → 1 ≤ n ∧ n ≤ 1000000) := Lib.hid (fun h => by simpa using h)
  have HI2 : Hid ((decide (1 ≤ n) && decide (n ≤ 1000000)) = false → ¬ (1 ≤ n ∧ n ≤ 1000000)) := Lib.hid (fun h x => by rw [decide_eq_true x.1, decide_eq_true x.2] at h; cases h)
  generalize (decide (1 ≤ n) && decide (n ≤ 1000000)) = ni at *
  go_enter Tryz.func8, Tryz.ntmps8
  go_wp2_with fail
  refine calls_by (fun W => Below w.heap.size w W ∧ Blk W w.heap.size [.int .i64 n, .slice ao d.length ca]) ⟨more' (Below.refl _ _) _, Blk.new _ _ _⟩ ?_
  rintro W1 ⟨b1, t1⟩
  refine (CI.out W1).mono ?_
  rintro e w2 ⟨rfl, rfl⟩
  have T1 := Lib.hid t1; clear t1
  have x1 := T1.out.cell 1 rfl
  cases ni
  · have HR := Lib.hid (HB.out (fun h => HI2.out rfl ⟨h.1, h.2.1⟩))
    go_wp2
    go_ret
    exact ⟨ret_bool HR.out.symm, b1⟩
  obtain ⟨hn1, hn2⟩ := HI.out rfl
  by_cases c3 : 40 < d.length
  · have HR := Lib.hid (HB.out (by omega))
    have c3' : (40 : Int) < (d.length : Int) := by omega
    go_wp2
    go_ret
    exact ⟨ret_bool HR.out.symm, b1⟩
  have c3' : ¬ (40 : Int) < (d.length : Int) := by omega
  have HG' : Hid (1 ≤ n - (d.length : Int) → numsB (n - d.length) d = true → R = true) := Lib.hid (fun h1 h2 => HG.out (by omega) (by omega) (by omega) h1 h2)
  have HB' : Hid (¬ (1 ≤ n - (d.length : Int) ∧ numsB (n - d.length) d = true) → R = false) := Lib.hid (fun h => HB.out (fun x => h ⟨x.2.2.2.1, x.2.2.2.2⟩))
  clear HG HB HI HI2 CI
  have CR : Hid (∀ (W : World) (s : ByteArray), s.size ≤ 1048575 → Calls Tryz.prog 32 #[.string s] W (Reads s W)) := Lib.hid (fun W s h => read_any s W h)
  have CQ : Hid (∀ (W : World) (q : Int) (dn a3 : List RdnT) (a4 : List AttrT) (v v3 v4 : Value) (S5 S3 S4 : Bs), SlAt rdnE S5 W dn v → SlAt rdnE S3 W a3 v3 → SlAt attrE S4 W a4 v4 → Fits dn → entryE.sz (a3, a4) ≤ 1048576 → Calls Tryz.prog 33 #[.int .i64 q, v, .agg #[v3, v4]] W fun e w' => e = .returned (.bool (rightC q dn a3 a4)) ∧ Below W.heap.size W w') := Lib.hid (fun W q dn a3 a4 v v3 v4 S5 S3 S4 h5 h3 h4 f z => l08Right_any q dn a3 a4 v v3 v4 W h5 h3 h4 f z)
  have hd40 : d.length ≤ 40 := by omega
  go_wp2_with fail
  go_loopw [3] (fun i wr => ∃ k : Nat, k ≤ d.length ∧ i = .int .i64 k ∧ numsB (n - d.length) (d.take k) = true ∧ (0 < k → 1 ≤ n - (d.length : Int)) ∧ Below w.heap.size w wr ∧ Blk wr w.heap.size [.int .i64 n, .slice ao d.length ca]) (fun i _ => d.length - (intOf i).toNat)
  case atStart => exact ⟨0, Nat.zero_le _, rfl, by simp [numsB], fun h => absurd h (Nat.lt_irrefl _), b1, T1.out⟩
  case round =>
    clear b1 x1 T1
    obtain ⟨k, hk, rfl, hgood, hpos, hbel, ht⟩ := hrel
    have HGood := Lib.hid hgood; clear hgood
    have HP := Lib.hid hpos; clear hpos
    have T := Lib.hid ht; clear ht
    have x0 := T.out.cell 0 rfl; have x1 := T.out.cell 1 rfl
    by_cases hlt : k < d.length
    · obtain ⟨b, off, a0, a1, a2, a3, a4, v3, v4, rfl, _, hb0, hx, ⟨hc0, hc1, hc2, hc3, hc4⟩, s3, s4, _⟩ := change_row (HA.out.frame (Same.of_below' hbel)) hlt
      have HZ1 : changeE.sz (a0, a1, a2, (a3, a4)) ≤ 1048575 := by have := HZ.out _ (List.getElem_mem hlt); rw [hx] at this; exact this
      have HE : changeE.sz (a0, a1, a2, (a3, a4)) = 0 + (0 + (a2.size + entryE.sz (a3, a4))) := rfl
      rw [HE] at HZ1
      have HZs : Hid (a2.size ≤ 1048575) := Lib.hid (by omega)
      have HZe : Hid (entryE.sz (a3, a4) ≤ 1048576) := Lib.hid (by omega)
      have HT : Hid (numsB (n - d.length) (d.take (k + 1)) = (numsB (n - d.length) (d.take k) && (decide (a0 = n - d.length + k) && chgB (a0, a1, a2, (a3, a4))))) := Lib.hid (by rw [numsB_take _ d k hlt, hx])
      have HN : Hid (1 ≤ n - (d.length : Int) ∧ numsB (n - d.length) d = true → a0 = n - d.length + k ∧ 1 ≤ a0 ∧ chgB (a0, a1, a2, (a3, a4)) = true) := Lib.hid (fun h => by have h1 := numsB_at _ d h.2 k hlt; rw [hx] at h1; exact ⟨h1.1, by have h2 : a0 = n - d.length + k := h1.1; omega, h1.2⟩)
      obtain ⟨o3, k3, rfl⟩ := s3.sl
      obtain ⟨o4, k4, rfl⟩ := s4.sl
      have HS3 := Lib.hid s3; have HS4 := Lib.hid s4
      have HC : Hid (chgB (a0, a1, a2, (a3, a4)) = (decide (0 < (readD a2).length) && mayB a1 a3 a4)) := Lib.hid rfl
      clear s3 s4 hx HZ1 HE
      generalize chgB (a0, a1, a2, (a3, a4)) = rr at *
      have g1 : (0 : Int) ≤ (k : Int) := by omega
      have g2 : (k : Int) < (d.length : Int) := by omega
      go_wp2_with fail
      refine calls_by (fun W => Below wr.heap.size wr W ∧ Blk W wr.heap.size [.int .i64 a0, .int .i64 a1, .string a2, .slice o3 a3.length k3, .slice o4 a4.length k4]) ⟨more' (Below.refl _ _) _, Blk.new _ _ _⟩ ?_
      rintro W1 ⟨d1, u1⟩
      refine (CR.out W1 a2 HZs.out).mono ?_
      clear hc0 hc1 hc2 hc3 hc4 x0 x1
      rintro e w2 ⟨⟨dn, od, kd, b, rfl, hdn, hfit, hq⟩, hb⟩
      have d2 := d1.trans (hb.mono d1.size)
      have b2 := hbel.trans (d2.mono hbel.size); have T2 := Lib.hid (T.out.below d2); have U2 := Lib.hid (u1.below hb)
      have HDN := Lib.hid hdn; have HF := Lib.hid hfit
      have HQ : Hid ((b && rightC a1 dn a3 a4) = rr) := Lib.hid (by rw [HC.out]; exact hq a1 a3 a4)
      have CQk : Hid (Calls Tryz.prog 33 #[.int .i64 a1, .slice od dn.length kd, .agg #[.slice o3 a3.length k3, .slice o4 a4.length k4]] w2 fun e w' => e = .returned (.bool (rightC a1 dn a3 a4)) ∧ Below w2.heap.size w2 w') := Lib.hid (CQ.out w2 a1 dn a3 a4 _ _ _ _ _ _ hdn (HS3.out.frame (Same.of_below' d2)) (HS4.out.frame (Same.of_below' d2)) hfit HZe.out)
      clear hb d1 u1 hdn hfit hq d2
      generalize rightC a1 dn a3 a4 = rq at *
      have x0 := T2.out.cell 0 rfl; have x1 := T2.out.cell 1 rfl
      have y0 := U2.out.cell 0 rfl; have y1 := U2.out.cell 1 rfl; have y3 := U2.out.cell 3 rfl; have y4 := U2.out.cell 4 rfl
      cases b
      · have HR := Lib.hid (HB'.out (fun h => by have h1 := (HN.out h).2.2; rw [← HQ.out] at h1; cases h1))
        go_wp2
        go_ret
        exact ⟨ret_bool HR.out.symm, b2⟩
      go_wp2_with fail
      refine CQk.out.mono ?_
      rintro e w3 ⟨rfl, hb⟩
      have b3 := b2.trans (hb.mono b2.size); have T3 := Lib.hid (T2.out.below hb); have U3 := Lib.hid (U2.out.below hb)
      clear hb x0 x1 y0 y1 y3 y4
      have x0 := T3.out.cell 0 rfl; have x1 := T3.out.cell 1 rfl
      have y0 := U3.out.cell 0 rfl
      cases rq
      · have HR := Lib.hid (HB'.out (fun h => by have h1 := (HN.out h).2.2; rw [← HQ.out] at h1; cases h1))
        go_wp2
        go_ret
        exact ⟨ret_bool HR.out.symm, b3⟩
      by_cases e1 : a0 < 1
      · have HR := Lib.hid (HB'.out (fun h => by have h1 := (HN.out h).2.1; omega))
        go_wp2
        go_ret
        exact ⟨ret_bool HR.out.symm, b3⟩
      by_cases e2 : a0 = n - ((d.length : Int) - (k : Int))
      · have e2' : (a0 != n - ((d.length : Int) - (k : Int))) = false := by simpa using e2
        have e3 : a0 = n - (d.length : Int) + (k : Int) := by omega
        have HT2 : Hid (numsB (n - d.length) (d.take (k + 1)) = true) := Lib.hid (by rw [HT.out, HGood.out, ← HQ.out]; simp [e3])
        clear e3
        have HP2 : Hid (0 < k + 1 → 1 ≤ n - (d.length : Int)) := Lib.hid (fun _ => by
          by_cases h0 : 0 < k
          · exact HP.out h0
          · omega)
        clear e2
        go_wp2
        go_roundw
        case rel => exact ⟨k + 1, by omega, by go_num, HT2.out, HP2.out, b3, T3.out⟩
        case measure => simp [intOf]; omega
      · have e2' : (a0 != n - ((d.length : Int) - (k : Int))) = true := by simpa using e2
        have HR := Lib.hid (HB'.out (fun h => by have h1 := (HN.out h).1; omega))
        clear e2
        go_wp2
        go_ret
        exact ⟨ret_bool HR.out.symm, b3⟩
    · have e : d.take k = d := List.take_of_length_le (by omega)
      have HO : Hid (numsB (n - d.length) d = true) := Lib.hid (by have := HGood.out; rw [e] at this; exact this)
      have HR : Hid (R = true) := Lib.hid (HG'.out (by
        by_cases h0 : 0 < k
        · exact HP.out h0
        · omega) HO.out)
      clear e
      go_wp2
      go_ret
      exact ⟨ret_bool HR.out.symm, hbel⟩
end Go.Proofs.YtmanlnlhpgdbpaaGreat
/- Change logs: what the specification's ChangesSince returns. -/
namespace Go.Proofs.YtmanlnlhpgdbpaaGreat
open Go.RowKit
attribute [local go_sem ↓] Go.wp_at_zero Go.wp_at_succ

set_option maxRecDepth 100000 in
set_option maxHeartbeats 1000000 in
theorem l08Ill_any (c : Int) (w : World) : Calls Tryz.prog 41 #[.int .i64 c] w fun e w' => e = .returned (.agg #[.int .i64 0, .slice none 0 0, .slice none 0 0, .int .i64 c]) ∧ Below w.heap.size w w' := by
  go_enter Tryz.func41, Tryz.ntmps41
  go_wp2
  refine bodyPost_ret (v := .agg #[.int .i64 0, .slice none 0 0, .slice none 0 0, .int .i64 c]) (by simp [results, Tryz.results41, go_sem]) rfl ?_
  exact ⟨rfl, more' (Below.refl _ _) _⟩
set_option maxRecDepth 100000 in
set_option maxHeartbeats 2000000 in
theorem SpecChangesSince_any {S : Bs} (n q : Int) (v : Value) (d : List ChangeT) (w : World) (hd : SlAt changeE S w d v) (hz : d.length + szL changeE d ≤ 1048576) (hq : -9223372036854775808 ≤ q ∧ q ≤ 9223372036854775807) :
    Calls Tryz.prog 26 #[.agg #[.int .i64 n, v], .int .i64 q] w (GivesC w (sinceR n d q)) := by
  have CR : Hid (∀ W : World, Below w.heap.size w W → Calls Tryz.prog 8 #[.agg #[.int .i64 n, v]] W fun e w' => e = .returned (.bool (chsB n d)) ∧ Below W.heap.size W w') := Lib.hid (fun W b => SpecChangesRight_any n v d W (hd.frame (Same.of_below' b)) hz)
  have CI : Hid (∀ (W : World) (c : Int), Calls Tryz.prog 41 #[.int .i64 c] W fun e w' => e = .returned (.agg #[.int .i64 0, .slice none 0 0, .slice none 0 0, .int .i64 c]) ∧ Below W.heap.size W w') := Lib.hid (fun W c => l08Ill_any c W)
  have CL : Hid (∀ (W : World) (u : Value), SlAt changeE S W (fromL n d (q + 1)) u → Calls Tryz.prog 56 #[u] W fun e w' => (∃ u, e = .returned u ∧ SlOwn changeE (Fresh W w') w' (fromL n d (q + 1)) u) ∧ Below W.heap.size W w') := Lib.hid (fun W u h => l08List_any u _ W h (Nat.le_trans (fromL_sz n (q + 1) d) hz))
  obtain ⟨ao, ca, rfl⟩ := hd.sl
  have HD := Lib.hid hd
  have HP := Lib.hid (@chsB_parts n d)
  have HR : Hid (sinceR n d q = if chsB n d = true then (if q < n - d.length - 1 ∨ n ≤ q then ((0, []), [], 8) else ((0, []), fromL n d (q + 1), 0)) else ((0, []), [], 1)) := Lib.hid rfl
  clear hd hz
  generalize sinceR n d q = R at *
  generalize chsB n d = r at *
  go_enter Tryz.func26, Tryz.ntmps26
  go_wp2_with fail
  refine calls_by (fun W => Below w.heap.size w W ∧ Blk W w.heap.size [.int .i64 n, .slice ao d.length ca] ∧ Blk W (w.heap.size + 1) [.int .i64 0, .slice none 0 0, .slice none 0 0, .int .i64 0]) ⟨more' (more' (Below.refl _ _) _) _, (Blk.new _ _ _).alloc _, blk_at _ _ _ (by simp)⟩ ?_
  rintro W1 ⟨b1, t1, r1⟩
  refine (CR.out W1 b1).mono ?_
  rintro e w2 ⟨rfl, hb⟩
  have b2 := b1.trans (hb.mono b1.size); have T2 := Lib.hid (t1.below hb); have R2 := Lib.hid (r1.below hb)
  clear hb t1 r1 b1 CR
  cases r
  · have HRR : Hid (R = ((0, []), [], 1)) := Lib.hid (by rw [HR.out]; rfl)
    go_wp2_with fail
    refine (CI.out w2 1).mono ?_
    rintro e w3 ⟨rfl, hb⟩
    have b3 := b2.trans (hb.mono b2.size); have R3 := Lib.hid (R2.out.below hb)
    clear hb
    have rf0 := R3.out.soft 0; have rz0 := R3.out.cell 0 rfl
    have rf1 := R3.out.soft 1; have rz1 := R3.out.cell 1 rfl
    have rf2 := R3.out.soft 2; have rz2 := R3.out.cell 2 rfl
    have rf3 := R3.out.soft 3; have rz3 := R3.out.cell 3 rfl
    have TE := ((((R3.out.set 0 (.int .i64 0)).set 1 (.slice none 0 0)).set 2 (.slice none 0 0)).set 3 (.int .i64 1))
    have rj0 := TE.cell 0 rfl
    have rj1 := TE.cell 1 rfl
    have rj2 := TE.cell 2 rfl
    have rj3 := TE.cell 3 rfl
    clear TE
    have BE := Lib.hid ((((b3.setCell (p := ⟨w.heap.size + 1, 0, none⟩) (by show w.heap.size ≤ w.heap.size + 1; omega) (.int .i64 0)).setCell (p := ⟨w.heap.size + 1, 1, none⟩) (by show w.heap.size ≤ w.heap.size + 1; omega) (.slice none 0 0)).setCell (p := ⟨w.heap.size + 1, 2, none⟩) (by show w.heap.size ≤ w.heap.size + 1; omega) (.slice none 0 0)).setCell (p := ⟨w.heap.size + 1, 3, none⟩) (by show w.heap.size ≤ w.heap.size + 1; omega) (.int .i64 1))
    go_wp2
    refine bodyPost_ret (v := .agg #[.int .i64 0, .slice none 0 0, .slice none 0 0, .int .i64 1]) (by simp [results, Tryz.results26, go_sem, rj0, rj1, rj2, rj3]) rfl ?_
    rw [HRR.out]
    exact gives_ill 1 BE.out
  obtain ⟨hn1, hn2, hd40, hf1, _⟩ := HP.out rfl
  have x0 := T2.out.cell 0 rfl; have x1 := T2.out.cell 1 rfl
  have x1l : w2.cell? ⟨w.heap.size, 1, none⟩ = some (.slice ao d.length ca) := x1
  by_cases c0 : q < 0
  · have HRR : Hid (R = ((0, []), [], 8)) := Lib.hid (by rw [HR.out, if_pos rfl, if_pos (by omega)])
    go_wp2_with fail
    refine (CI.out w2 8).mono ?_
    rintro e w3 ⟨rfl, hb⟩
    have b3 := b2.trans (hb.mono b2.size); have R3 := Lib.hid (R2.out.below hb)
    clear hb
    have rf0 := R3.out.soft 0; have rz0 := R3.out.cell 0 rfl
    have rf1 := R3.out.soft 1; have rz1 := R3.out.cell 1 rfl
    have rf2 := R3.out.soft 2; have rz2 := R3.out.cell 2 rfl
    have rf3 := R3.out.soft 3; have rz3 := R3.out.cell 3 rfl
    have TE := ((((R3.out.set 0 (.int .i64 0)).set 1 (.slice none 0 0)).set 2 (.slice none 0 0)).set 3 (.int .i64 8))
    have rj0 := TE.cell 0 rfl
    have rj1 := TE.cell 1 rfl
    have rj2 := TE.cell 2 rfl
    have rj3 := TE.cell 3 rfl
    clear TE
    have BE := Lib.hid ((((b3.setCell (p := ⟨w.heap.size + 1, 0, none⟩) (by show w.heap.size ≤ w.heap.size + 1; omega) (.int .i64 0)).setCell (p := ⟨w.heap.size + 1, 1, none⟩) (by show w.heap.size ≤ w.heap.size + 1; omega) (.slice none 0 0)).setCell (p := ⟨w.heap.size + 1, 2, none⟩) (by show w.heap.size ≤ w.heap.size + 1; omega) (.slice none 0 0)).setCell (p := ⟨w.heap.size + 1, 3, none⟩) (by show w.heap.size ≤ w.heap.size + 1; omega) (.int .i64 8))
    go_wp2
    refine bodyPost_ret (v := .agg #[.int .i64 0, .slice none 0 0, .slice none 0 0, .int .i64 8]) (by simp [results, Tryz.results26, go_sem, rj0, rj1, rj2, rj3]) rfl ?_
    rw [HRR.out]
    exact gives_ill 8 BE.out
  by_cases c1 : n ≤ q
  · have HRR : Hid (R = ((0, []), [], 8)) := Lib.hid (by rw [HR.out, if_pos rfl, if_pos (by omega)])
    go_wp2_with fail
    refine (CI.out w2 8).mono ?_
    rintro e w3 ⟨rfl, hb⟩
    have b3 := b2.trans (hb.mono b2.size); have R3 := Lib.hid (R2.out.below hb)
    clear hb
    have rf0 := R3.out.soft 0; have rz0 := R3.out.cell 0 rfl
    have rf1 := R3.out.soft 1; have rz1 := R3.out.cell 1 rfl
    have rf2 := R3.out.soft 2; have rz2 := R3.out.cell 2 rfl
    have rf3 := R3.out.soft 3; have rz3 := R3.out.cell 3 rfl
    have TE := ((((R3.out.set 0 (.int .i64 0)).set 1 (.slice none 0 0)).set 2 (.slice none 0 0)).set 3 (.int .i64 8))
    have rj0 := TE.cell 0 rfl
    have rj1 := TE.cell 1 rfl
    have rj2 := TE.cell 2 rfl
    have rj3 := TE.cell 3 rfl
    clear TE
    have BE := Lib.hid ((((b3.setCell (p := ⟨w.heap.size + 1, 0, none⟩) (by show w.heap.size ≤ w.heap.size + 1; omega) (.int .i64 0)).setCell (p := ⟨w.heap.size + 1, 1, none⟩) (by show w.heap.size ≤ w.heap.size + 1; omega) (.slice none 0 0)).setCell (p := ⟨w.heap.size + 1, 2, none⟩) (by show w.heap.size ≤ w.heap.size + 1; omega) (.slice none 0 0)).setCell (p := ⟨w.heap.size + 1, 3, none⟩) (by show w.heap.size ≤ w.heap.size + 1; omega) (.int .i64 8))
    go_wp2
    refine bodyPost_ret (v := .agg #[.int .i64 0, .slice none 0 0, .slice none 0 0, .int .i64 8]) (by simp [results, Tryz.results26, go_sem, rj0, rj1, rj2, rj3]) rfl ?_
    rw [HRR.out]
    exact gives_ill 8 BE.out
  by_cases c2 : q < n - (d.length : Int) - 1
  · have HRR : Hid (R = ((0, []), [], 8)) := Lib.hid (by rw [HR.out, if_pos rfl, if_pos (by omega)])
    go_wp2_with fail
    refine (CI.out w2 8).mono ?_
    rintro e w3 ⟨rfl, hb⟩
    have b3 := b2.trans (hb.mono b2.size); have R3 := Lib.hid (R2.out.below hb)
    clear hb
    have rf0 := R3.out.soft 0; have rz0 := R3.out.cell 0 rfl
    have rf1 := R3.out.soft 1; have rz1 := R3.out.cell 1 rfl
    have rf2 := R3.out.soft 2; have rz2 := R3.out.cell 2 rfl
    have rf3 := R3.out.soft 3; have rz3 := R3.out.cell 3 rfl
    have TE := ((((R3.out.set 0 (.int .i64 0)).set 1 (.slice none 0 0)).set 2 (.slice none 0 0)).set 3 (.int .i64 8))
    have rj0 := TE.cell 0 rfl
    have rj1 := TE.cell 1 rfl
    have rj2 := TE.cell 2 rfl
    have rj3 := TE.cell 3 rfl
    clear TE
    have BE := Lib.hid ((((b3.setCell (p := ⟨w.heap.size + 1, 0, none⟩) (by show w.heap.size ≤ w.heap.size + 1; omega) (.int .i64 0)).setCell (p := ⟨w.heap.size + 1, 1, none⟩) (by show w.heap.size ≤ w.heap.size + 1; omega) (.slice none 0 0)).setCell (p := ⟨w.heap.size + 1, 2, none⟩) (by show w.heap.size ≤ w.heap.size + 1; omega) (.slice none 0 0)).setCell (p := ⟨w.heap.size + 1, 3, none⟩) (by show w.heap.size ≤ w.heap.size + 1; omega) (.int .i64 8))
    go_wp2
    refine bodyPost_ret (v := .agg #[.int .i64 0, .slice none 0 0, .slice none 0 0, .int .i64 8]) (by simp [results, Tryz.results26, go_sem, rj0, rj1, rj2, rj3]) rfl ?_
    rw [HRR.out]
    exact gives_ill 8 BE.out
  have HRR : Hid (R = ((0, []), fromL n d (q + 1), 0)) := Lib.hid (by rw [HR.out, if_pos rfl, if_neg (by omega)])
  obtain ⟨j, hj⟩ : ∃ j : Nat, (d.length : Int) - (n - 1 - q) = (j : Int) := ⟨((d.length : Int) - (n - 1 - q)).toNat, by omega⟩
  have HL : Hid (fromL n d (q + 1) = d.drop j) := Lib.hid (by unfold fromL; congr 1; omega)
  obtain ⟨ao', hcut, hdr⟩ := cutCh w ao d j ca (by omega) HD.out
  have HDR := Lib.hid hdr
  have hwj : IntKind.i64.wrap (j : Int) = (j : Int) := IntWalk.i64_in _ (by omega)
  rw [List.length_drop] at hcut
  have CLL : Hid (Calls Tryz.prog 56 #[.slice ao' (d.length - j) (ca - j)] w2 fun e w' => (∃ u, e = .returned u ∧ SlOwn changeE (Fresh w2 w') w' (fromL n d (q + 1)) u) ∧ Below w2.heap.size w2 w') := Lib.hid (CL.out w2 _ (by rw [HL.out]; have h1 := HDR.out.frame (Same.of_below' b2); rw [List.length_drop] at h1; exact h1))
  clear HR HP CL hdr
  generalize fromL n d (q + 1) = L at *
  go_wp2_with fail
  refine CLL.out.mono ?_
  rintro e w3 ⟨⟨u, rfl, ho⟩, hb⟩
  have b3 := b2.trans (hb.mono b2.size); have R3 := Lib.hid (R2.out.below hb); have HO := Lib.hid ho
  have hw2 : w.heap.size + 1 < w2.heap.size := R2.out.lt
  obtain ⟨p7, k7, rfl⟩ := ho.at.sl
  clear hb ho
  have rf0 := R3.out.soft 0; have rz0 := R3.out.cell 0 rfl
  have rf1 := R3.out.soft 1; have rz1 := R3.out.cell 1 rfl
  have rf2 := R3.out.soft 2; have rz2 := R3.out.cell 2 rfl
  have rf3 := R3.out.soft 3; have rz3 := R3.out.cell 3 rfl
  have TE := ((((R3.out.set 0 (.int .i64 0)).set 1 (.slice none 0 0)).set 2 (.slice p7 L.length k7)).set 3 (.int .i64 0))
  have rj0 := TE.cell 0 rfl
  have rj1 := TE.cell 1 rfl
  have rj2 := TE.cell 2 rfl
  have rj3 := TE.cell 3 rfl
  clear TE
  have BE := Lib.hid ((((b3.setCell (p := ⟨w.heap.size + 1, 0, none⟩) (by show w.heap.size ≤ w.heap.size + 1; omega) (.int .i64 0)).setCell (p := ⟨w.heap.size + 1, 1, none⟩) (by show w.heap.size ≤ w.heap.size + 1; omega) (.slice none 0 0)).setCell (p := ⟨w.heap.size + 1, 2, none⟩) (by show w.heap.size ≤ w.heap.size + 1; omega) (.slice p7 L.length k7)).setCell (p := ⟨w.heap.size + 1, 3, none⟩) (by show w.heap.size ≤ w.heap.size + 1; omega) (.int .i64 0))
  go_wp2
  refine bodyPost_ret (v := .agg #[.int .i64 0, .slice none 0 0, .slice p7 L.length k7, .int .i64 0]) (by simp [results, Tryz.results26, go_sem, rj0, rj1, rj2, rj3]) rfl ?_
  rw [HRR.out]
  refine ⟨⟨_, _, rfl, changesOut_pack 0 [] L 0 _ _ Nil (Fresh w2 w3) ⟨own_nilS _ _ _, fun _ h => h.elim, ?_, fun b h => ⟨by have := h.1; omega, by have := h.2; show _ < (World.heap _).size; simp only [setCell_size]; omega⟩, fun _ h => h.elim, trivial⟩⟩, BE.out⟩
  exact ((((HO.out.frame (Same.set _ (g := w.heap.size + 1) 0 _ (by intro h; have := h.1; omega))).frame (Same.set _ (g := w.heap.size + 1) 1 _ (by intro h; have := h.1; omega))).frame (Same.set _ (g := w.heap.size + 1) 2 _ (by intro h; have := h.1; omega))).frame (Same.set _ (g := w.heap.size + 1) 3 _ (by intro h; have := h.1; omega)))
end Go.Proofs.YtmanlnlhpgdbpaaGreat
/- Change logs: what the specification's ChangesTrim returns. -/
namespace Go.Proofs.YtmanlnlhpgdbpaaGreat
open Go.RowKit
attribute [local go_sem ↓] Go.wp_at_zero Go.wp_at_succ

def lenC : Option Value → Nat
  | some (.slice _ n _) => n
  | _ => 0
set_option maxRecDepth 100000 in
set_option maxHeartbeats 1000000 in
theorem l08Copy_row {S : Bs} (n : Int) (v : Value) (d : List ChangeT) (w : World) (hd : SlAt changeE S w d v) (hz : d.length + szL changeE d ≤ 1048576) :
    Calls Tryz.prog 58 #[.agg #[.int .i64 n, v]] w fun e w' => (∃ p k, e = .returned (.agg #[.int .i64 n, .slice p d.length k]) ∧ SlOwn changeE (Fresh w w') w' d (.slice p d.length k) ∧ ∃ xs, w'.ownsRow w.heap.size 61 5 (.slice p d.length k) d.length xs) ∧ Below w.heap.size w w' := by
  have CL : Hid (∀ W : World, Below w.heap.size w W → Calls Tryz.prog 56 #[v] W fun e w' => (∃ u, e = .returned u ∧ SlOwn changeE (Fresh W w') w' d u ∧ ∃ xs, w'.ownsRow W.heap.size 61 5 u d.length xs) ∧ Below W.heap.size W w') := Lib.hid (fun W b => l08List_row v d W (hd.frame (Same.of_below' b)) hz)
  obtain ⟨ao, ca, rfl⟩ := hd.sl
  clear hd hz
  go_enter Tryz.func58, Tryz.ntmps58
  go_wp2
  refine wp_world (fun W => Below w.heap.size w W ∧ Blk W w.heap.size [.int .i64 n, .slice ao d.length ca] ∧ Blk W (w.heap.size + 1) [.int .i64 0, .slice none 0 0]) ⟨more' (more' (Below.refl _ _) _) _, (Blk.new _ _ _).alloc _, blk_at _ _ _ (by simp)⟩ ?_
  rintro W1 ⟨b1, t1, r1⟩
  have T1 := Lib.hid t1; have R1 := Lib.hid r1; clear t1 r1
  have hw6 : w.heap.size + 1 < W1.heap.size := R1.out.lt
  have SK : Hid (∀ Z' : World, Below W1.heap.size W1 Z' → Z'.cell? ⟨w.heap.size, 0, none⟩ = some (.int .i64 n) ∧ Z'.cell? ⟨w.heap.size, 1, none⟩ = some (.slice ao d.length ca)) := Lib.hid (fun Z' h => ⟨(T1.out.below h).cell 0 rfl, (T1.out.below h).cell 1 rfl⟩)
  have BD : Below W1.heap.size W1 W1.drew := (Below.refl _ _).drew
  refine wp_region_held_drew (S := (fun Z' => Z'.cell? ⟨w.heap.size, 0, none⟩ = some (.int .i64 n) ∧ Z'.cell? ⟨w.heap.size, 1, none⟩ = some (.slice ao d.length ca))) (by kernel_rfl) ?_ (fun hHeld => ?_)
  · (try dsimp only)
    first | exact SK.out _ (by assumption) | exact SK.out _ BD | exact SK.out _ (more' (by assumption) _) | exact SK.out _ (more' BD _) | exact SX.out _ _
  refine wpAnyH_take (i := 0) (oi := { dst := some 3, op := Op.fieldAddr 29 (Operand.tmp 1) 0, type := 0, pos := "l08_change.go:33", after := #[], guard := none }) (v := ?_) rfl (by kernel_rfl) (by kernel_rfl) (by kernel_rfl) (fun _ _ _ h => h) (Or.inl ⟨by rfl, ?_⟩) (by assumption) ?_
  rotate_left
  · intro w hSw; (try dsimp only at hSw); go_simp; (try with_reducible rfl)
  (try simp only [Act.put, List.setIfInBounds_toArray, List.set_cons_zero, List.set_cons_succ])
  refine wpAnyH_take (i := 1) (oi := { dst := some 4, op := Op.load 2 (Operand.tmp 3), type := 2, pos := "l08_change.go:33", after := #[{ on := 0, ground := Ground.data }], guard := none }) (v := ?_) rfl (by kernel_rfl) (by kernel_rfl) (by kernel_rfl) (fun _ _ _ h => h) (Or.inl ⟨by rfl, ?_⟩) (by assumption) ?_
  rotate_left
  · intro w hSw; (try dsimp only at hSw); go_simp; (try with_reducible rfl)
  (try simp only [Act.put, List.setIfInBounds_toArray, List.set_cons_zero, List.set_cons_succ])
  refine wpAnyH_take (i := 2) (oi := { dst := some 5, op := Op.fieldAddr 29 (Operand.tmp 1) 1, type := 0, pos := "l08_change.go:33", after := #[], guard := none }) (v := ?_) rfl (by kernel_rfl) (by kernel_rfl) (by kernel_rfl) (fun _ _ _ h => h) (Or.inl ⟨by rfl, ?_⟩) (by assumption) ?_
  rotate_left
  · intro w hSw; (try dsimp only at hSw); go_simp; (try with_reducible rfl)
  (try simp only [Act.put, List.setIfInBounds_toArray, List.set_cons_zero, List.set_cons_succ])
  refine wpAnyH_take (i := 3) (oi := { dst := some 6, op := Op.load 27 (Operand.tmp 5), type := 27, pos := "l08_change.go:33", after := #[{ on := 2, ground := Ground.data }], guard := none }) (v := ?_) rfl (by kernel_rfl) (by kernel_rfl) (by kernel_rfl) (fun _ _ _ h => h) (Or.inl ⟨by rfl, ?_⟩) (by assumption) ?_
  rotate_left
  · intro w hSw; (try dsimp only at hSw); go_simp; (try with_reducible rfl)
  (try simp only [Act.put, List.setIfInBounds_toArray, List.set_cons_zero, List.set_cons_succ])
  refine wpAnyH_ready (rs := [4]) (by kernel_rfl) (by simp) ?_
  refine AllReadyH.cons (o := { dst := some 7, op := Op.call { callee := Callee.value (Operand.func 56), args := #[Operand.tmp 6], argTypes := #[27] }, type := 27, pos := "l08_change.go:33", after := #[{ on := 3, ground := Ground.data }], guard := none }) rfl (fun K hK => ?_) (AllReadyH.nil)
  go_simp
  refine (CL.out W1.drew (b1.trans (BD.mono b1.size))).mono ?_
  rintro e w7 ⟨⟨u, rfl, ho, xs7, hx7⟩, hb⟩
  have D7 : Below W1.heap.size W1 w7 := BD.trans (hb.mono BD.size)
  have b7 := b1.trans (D7.mono b1.size); have R7 := Lib.hid (R1.out.below D7); have T7 := Lib.hid (T1.out.below D7); have HO := Lib.hid ho; have HX7 := Lib.hid hx7
  obtain ⟨p7, k7, rfl⟩ := ho.at.sl
  clear hb ho hx7
  have f0 := R7.out.soft 0; have f1 := R7.out.soft 1
  have z0 := R7.out.cell 0 rfl; have z1 := R7.out.cell 1 rfl
  have SX : Hid (∀ y0 y1 : Value, ((w7.setCell ⟨w.heap.size + 1, 0, none⟩ y0).setCell ⟨w.heap.size + 1, 1, none⟩ y1).cell? ⟨w.heap.size, 0, none⟩ = some (.int .i64 n) ∧ ((w7.setCell ⟨w.heap.size + 1, 0, none⟩ y0).setCell ⟨w.heap.size + 1, 1, none⟩ y1).cell? ⟨w.heap.size, 1, none⟩ = some (.slice ao d.length ca)) := Lib.hid (fun y0 y1 => ⟨((T7.out.far (by omega) y0).far (by omega) y1).cell 0 rfl, ((T7.out.far (by omega) y0).far (by omega) y1).cell 1 rfl⟩)
  clear hHeld
  refine hK.out _ _ ?_ (fun hHeld => ?_)
  · (try dsimp only)
    first | exact SK.out _ (by assumption) | exact SK.out _ BD | exact SK.out _ (more' (by assumption) _) | exact SK.out _ (more' BD _) | exact SX.out _ _
  clear hK K
  (try simp only [Act.put, List.setIfInBounds_toArray, List.set_cons_zero, List.set_cons_succ])
  refine wpAnyH_take (i := 5) (oi := { dst := some 8, op := Op.build 29 #[(0, Operand.tmp 4), (1, Operand.tmp 7)], type := 29, pos := "l08_change.go:33", after := #[{ on := 1, ground := Ground.data }, { on := 4, ground := Ground.data }], guard := none }) (v := ?_) rfl (by kernel_rfl) (by kernel_rfl) (by kernel_rfl) (fun _ _ _ h => h) (Or.inl ⟨by rfl, ?_⟩) (by assumption) ?_
  rotate_left
  · intro w hSw; (try dsimp only at hSw); go_simp; (try with_reducible rfl)
  (try simp only [Act.put, List.setIfInBounds_toArray, List.set_cons_zero, List.set_cons_succ])
  refine wpAnyH_ready (rs := [6]) (by kernel_rfl) (by simp) ?_
  refine AllReadyH.cons (o := { dst := none, op := Op.store 29 (Operand.tmp 2) (Operand.tmp 8), type := 0, pos := "l08_change.go:33", after := #[{ on := 5, ground := Ground.data }, { on := 4, ground := Ground.chain }, { on := 0, ground := Ground.phase }, { on := 1, ground := Ground.phase }, { on := 2, ground := Ground.phase }, { on := 3, ground := Ground.phase }, { on := 4, ground := Ground.phase }, { on := 5, ground := Ground.phase }], guard := none }) rfl (fun K hK => ?_) (AllReadyH.nil)
  go_simp
  clear hHeld
  refine hK.out _ _ ?_ (fun hHeld => ?_)
  · (try dsimp only)
    first | exact SK.out _ (by assumption) | exact SK.out _ BD | exact SK.out _ (more' (by assumption) _) | exact SK.out _ (more' BD _) | exact SX.out _ _
  clear hK K
  (try simp only [Act.put, List.setIfInBounds_toArray, List.set_cons_zero, List.set_cons_succ])
  refine wpAnyH_done (by kernel_rfl) ?_ _
  clear SK
  have TE := (R7.out.set 0 (.int .i64 n)).set 1 (.slice p7 d.length k7)
  have j0 := TE.cell 0 rfl; have j1 := TE.cell 1 rfl
  clear TE
  have BE := Lib.hid ((b7.setCell (p := ⟨w.heap.size + 1, 0, none⟩) (by show w.heap.size ≤ w.heap.size + 1; omega) (.int .i64 n)).setCell (p := ⟨w.heap.size + 1, 1, none⟩) (by show w.heap.size ≤ w.heap.size + 1; omega) (.slice p7 d.length k7))
  have hd6 : W1.drew.heap.size = W1.heap.size := rfl
  go_wp2
  refine bodyPost_ret (v := .agg #[.int .i64 n, .slice p7 d.length k7]) (by simp [results, Tryz.results58, go_sem, j0, j1]) rfl ?_
  refine ⟨⟨p7, k7, rfl, SlOwn.wide (S := Fresh W1.drew w7) ?_ (fun b h => ⟨by have := h.1; omega, by have := h.2; show _ < (World.heap _).size; simp only [setCell_size]; omega⟩), xs7, own_mono (own_set (own_set HX7.out (by show w.heap.size + 1 < W1.heap.size; omega)) (by show w.heap.size + 1 < W1.heap.size; omega)) (by show w.heap.size ≤ W1.heap.size; omega)⟩, BE.out⟩
  exact ((HO.out.frame (Same.set _ (g := w.heap.size + 1) 0 _ (by intro h; have := h.1; omega))).frame (Same.set _ (g := w.heap.size + 1) 1 _ (by intro h; have := h.1; omega)))
theorem l08Copy_any {S : Bs} (n : Int) (v : Value) (d : List ChangeT) (w : World) (hd : SlAt changeE S w d v) (hz : d.length + szL changeE d ≤ 1048576) :
    Calls Tryz.prog 58 #[.agg #[.int .i64 n, v]] w fun e w' => (∃ p k, e = .returned (.agg #[.int .i64 n, .slice p d.length k]) ∧ SlOwn changeE (Fresh w w') w' d (.slice p d.length k)) ∧ Below w.heap.size w w' :=
  (l08Copy_row n v d w hd hz).mono fun _ _ ⟨⟨p, k, h1, h2, _⟩, h3⟩ => ⟨⟨p, k, h1, h2⟩, h3⟩
set_option maxRecDepth 100000 in
set_option maxHeartbeats 2000000 in
theorem SpecChangesTrim_any {S : Bs} (n q : Int) (v : Value) (d : List ChangeT) (w : World) (hd : SlAt changeE S w d v) (hz : d.length + szL changeE d ≤ 1048576) (hq : -9223372036854775808 ≤ q ∧ q ≤ 9223372036854775807) :
    Calls Tryz.prog 28 #[.agg #[.int .i64 n, v], .int .i64 q] w fun e w' => (∃ u1 u2, e = .returned (.agg #[.int .i64 (trimR n d q).1.1, u1, u2, .int .i64 (trimR n d q).2.2]) ∧ changesOutE.At (Fresh w w') w' (trimR n d q) [.int .i64 (trimR n d q).1.1, u1, u2, .int .i64 (trimR n d q).2.2]) ∧ Below w.heap.size w w' := by
  have CR : Hid (∀ W : World, Below w.heap.size w W → Calls Tryz.prog 8 #[.agg #[.int .i64 n, v]] W fun e w' => e = .returned (.bool (chsB n d)) ∧ Below W.heap.size W w') := Lib.hid (fun W b => SpecChangesRight_any n v d W (hd.frame (Same.of_below' b)) hz)
  have CI : Hid (∀ (W : World) (c : Int), Calls Tryz.prog 41 #[.int .i64 c] W fun e w' => e = .returned (.agg #[.int .i64 0, .slice none 0 0, .slice none 0 0, .int .i64 c]) ∧ Below W.heap.size W w') := Lib.hid (fun W c => l08Ill_any c W)
  have CC : Hid (∀ W : World, Below w.heap.size w W → Calls Tryz.prog 58 #[.agg #[.int .i64 n, v]] W fun e w' => (∃ p k, e = .returned (.agg #[.int .i64 n, .slice p d.length k]) ∧ SlOwn changeE (Fresh W w') w' d (.slice p d.length k)) ∧ Below W.heap.size W w') := Lib.hid (fun W b => l08Copy_any n v d W (hd.frame (Same.of_below' b)) hz)
  obtain ⟨ao, ca, rfl⟩ := hd.sl
  have HW : Hid (chsB n d = true → d.dropWhile (fun c => decide (c.1 < q)) = fromL n d q) := Lib.hid from_while
  have HR : Hid (trimR n d q = if chsB n d = true then ((n, fromL n d q), [], 0) else ((0, []), [], 1)) := Lib.hid rfl
  have hl : d.length ≤ 1048576 := by omega
  clear hd hz
  generalize trimR n d q = R at *
  generalize chsB n d = r at *
  go_enter Tryz.func28, Tryz.ntmps28
  go_wp2_with fail
  refine calls_by (fun W => Below w.heap.size w W ∧ Blk W w.heap.size [.int .i64 n, .slice ao d.length ca] ∧ Blk W (w.heap.size + 1) [.int .i64 0, .slice none 0 0, .slice none 0 0, .int .i64 0]) ⟨more' (more' (Below.refl _ _) _) _, (Blk.new _ _ _).alloc _, blk_at _ _ _ (by simp)⟩ ?_
  rintro W1 ⟨b1, t1, r1⟩
  refine (CR.out W1 b1).mono ?_
  rintro e w2 ⟨rfl, hb⟩
  have b2 := b1.trans (hb.mono b1.size); have T2 := Lib.hid (t1.below hb); have R2 := Lib.hid (r1.below hb)
  clear hb t1 r1 b1 CR
  cases r
  · have HRR : Hid (R = ((0, []), [], 1)) := Lib.hid (by rw [HR.out]; rfl)
    go_wp2_with fail
    refine (CI.out w2 1).mono ?_
    rintro e w3 ⟨rfl, hb⟩
    have b3 := b2.trans (hb.mono b2.size); have R3 := Lib.hid (R2.out.below hb)
    clear hb
    have rf0 := R3.out.soft 0; have rz0 := R3.out.cell 0 rfl
    have rf1 := R3.out.soft 1; have rz1 := R3.out.cell 1 rfl
    have rf2 := R3.out.soft 2; have rz2 := R3.out.cell 2 rfl
    have rf3 := R3.out.soft 3; have rz3 := R3.out.cell 3 rfl
    have TE := ((((R3.out.set 0 (.int .i64 0)).set 1 (.slice none 0 0)).set 2 (.slice none 0 0)).set 3 (.int .i64 1))
    have rj0 := TE.cell 0 rfl
    have rj1 := TE.cell 1 rfl
    have rj2 := TE.cell 2 rfl
    have rj3 := TE.cell 3 rfl
    clear TE
    have BE := Lib.hid ((((b3.setCell (p := ⟨w.heap.size + 1, 0, none⟩) (by show w.heap.size ≤ w.heap.size + 1; omega) (.int .i64 0)).setCell (p := ⟨w.heap.size + 1, 1, none⟩) (by show w.heap.size ≤ w.heap.size + 1; omega) (.slice none 0 0)).setCell (p := ⟨w.heap.size + 1, 2, none⟩) (by show w.heap.size ≤ w.heap.size + 1; omega) (.slice none 0 0)).setCell (p := ⟨w.heap.size + 1, 3, none⟩) (by show w.heap.size ≤ w.heap.size + 1; omega) (.int .i64 1))
    go_wp2
    refine bodyPost_ret (v := .agg #[.int .i64 0, .slice none 0 0, .slice none 0 0, .int .i64 1]) (by simp [results, Tryz.results28, go_sem, rj0, rj1, rj2, rj3]) rfl ?_
    rw [HRR.out]
    exact ⟨⟨_, _, rfl, changesOutE.ownAt (out_ill _ _ _)⟩, BE.out⟩
  have HRR : Hid (R = ((n, fromL n d q), [], 0)) := Lib.hid (by rw [HR.out, if_pos rfl])
  have HW2 := Lib.hid (HW.out rfl)
  have x0 := T2.out.cell 0 rfl; have x1 := T2.out.cell 1 rfl
  clear HR HW
  go_wp2_with fail
  refine (CC.out w2 b2).mono ?_
  rintro e w3 ⟨⟨p3, k3, rfl, ho⟩, hb⟩
  have b3 := b2.trans (hb.mono b2.size); have R3 := Lib.hid (R2.out.below hb); have HO := Lib.hid ho
  have hw2 : w.heap.size + 1 < w2.heap.size := R2.out.lt
  clear hb ho R2 T2 x0 x1 CC b2
  go_wp2_with fail
  go_loopw [] (fun wr => ∃ (l : List ChangeT) (p : Option Addr) (k : Nat), Blk wr w3.heap.size [.int .i64 n, .slice p l.length k] ∧ SlAt changeE (Fresh w2 w3) wr l (.slice p l.length k) ∧ l.dropWhile (fun c => decide (c.1 < q)) = fromL n d q ∧ l.length ≤ d.length ∧ Below w.heap.size w wr ∧ Blk wr (w.heap.size + 1) [.int .i64 0, .slice none 0 0, .slice none 0 0, .int .i64 0]) (fun wr => lenC (wr.cell? ⟨w3.heap.size, 1, none⟩))
  case atStart => exact ⟨d, p3, k3, Blk.new _ _ _, HO.out.at.frame (Same.of_below' (more' (Below.refl _ _) _)), HW2.out, Nat.le_refl _, more' b3 _, R3.out.alloc _⟩
  case round =>
    obtain ⟨l, p, k, ht, hs, hdw, hll, hbel, hr⟩ := hrel
    have T := Lib.hid ht; have HS := Lib.hid hs; have HDW := Lib.hid hdw; have RR := Lib.hid hr
    clear ht hs hdw hr HO R3 b3 HW2
    have x0 := T.out.cell 0 rfl; have x1 := T.out.cell 1 rfl
    have hlt3 : w3.heap.size < wr.heap.size := T.out.lt
    have hfin : Hid (l.dropWhile (fun c => decide (c.1 < q)) = l → ∀ Z : World, Same (Fresh w2 w3) wr Z → wr.heap.size ≤ Z.heap.size → changesOutE.At (Fresh w Z) Z R [.int .i64 n, .slice p l.length k, .slice none 0 0, .int .i64 0]) := Lib.hid (fun h Z hz hsz => by
      rw [HRR.out, ← HDW.out, h]
      exact pair_at (c := [_, _]) (pair_at (c := [_]) rfl (at_sl ((HS.out.frame hz).wide (fun b h => ⟨by have := h.1; omega, by have := h.2; omega⟩)))) (pair_at (c := [_]) (at_sl (own_nilS _ _ _).at) rfl))
    have HRc : Hid (R.1.1 = n ∧ R.2.2 = 0) := Lib.hid (by rw [HRR.out]; exact ⟨rfl, rfl⟩)
    have hdone : Hid (∀ v0 v1 v2 v3 : Value, l.dropWhile (fun c => decide (c.1 < q)) = l → Below w.heap.size w ((((wr.setCell ⟨w.heap.size + 1, 0, none⟩ v0).setCell ⟨w.heap.size + 1, 1, none⟩ v1).setCell ⟨w.heap.size + 1, 2, none⟩ v2).setCell ⟨w.heap.size + 1, 3, none⟩ v3) → (∃ u1 u2, Ending.returned (.agg #[.int .i64 n, .slice p l.length k, .slice none 0 0, .int .i64 0]) = .returned (.agg #[.int .i64 R.1.1, u1, u2, .int .i64 R.2.2]) ∧ changesOutE.At (Fresh w ((((wr.setCell ⟨w.heap.size + 1, 0, none⟩ v0).setCell ⟨w.heap.size + 1, 1, none⟩ v1).setCell ⟨w.heap.size + 1, 2, none⟩ v2).setCell ⟨w.heap.size + 1, 3, none⟩ v3)) ((((wr.setCell ⟨w.heap.size + 1, 0, none⟩ v0).setCell ⟨w.heap.size + 1, 1, none⟩ v1).setCell ⟨w.heap.size + 1, 2, none⟩ v2).setCell ⟨w.heap.size + 1, 3, none⟩ v3) R [.int .i64 R.1.1, u1, u2, .int .i64 R.2.2]) ∧ Below w.heap.size w ((((wr.setCell ⟨w.heap.size + 1, 0, none⟩ v0).setCell ⟨w.heap.size + 1, 1, none⟩ v1).setCell ⟨w.heap.size + 1, 2, none⟩ v2).setCell ⟨w.heap.size + 1, 3, none⟩ v3)) := Lib.hid (fun v0 v1 v2 v3 h hb => by
      rw [HRc.out.1, HRc.out.2]
      refine ⟨⟨_, _, rfl, hfin.out h _ (fun b hb _ => ?_) (by simp only [setCell_size]; exact Nat.le_refl _)⟩, hb⟩
      have hne : b ≠ w.heap.size + 1 := by have := hb.1; omega
      rw [Below.heap_setCell _ _ _ _ hne, Below.heap_setCell _ _ _ _ hne, Below.heap_setCell _ _ _ _ hne, Below.heap_setCell _ _ _ _ hne])
    clear hfin HRc
    rcases l with _ | ⟨c, t⟩
    · have x1 : wr.cell? ⟨w3.heap.size, 1, none⟩ = some (.slice p 0 k) := x1
      have HD2 : Hid _ := Lib.hid (fun v0 v1 v2 v3 => hdone.out v0 v1 v2 v3 rfl)
      clear hdone
      have rf0 := RR.out.soft 0; have rz0 := RR.out.cell 0 rfl
      have rf1 := RR.out.soft 1; have rz1 := RR.out.cell 1 rfl
      have rf2 := RR.out.soft 2; have rz2 := RR.out.cell 2 rfl
      have rf3 := RR.out.soft 3; have rz3 := RR.out.cell 3 rfl
      have TE := ((((RR.out.set 0 (.int .i64 n)).set 1 (.slice p 0 k)).set 2 (.slice none 0 0)).set 3 (.int .i64 0))
      have rj0 := TE.cell 0 rfl
      have rj1 := TE.cell 1 rfl
      have rj2 := TE.cell 2 rfl
      have rj3 := TE.cell 3 rfl
      clear TE
      have BE := Lib.hid ((((hbel.setCell (p := ⟨w.heap.size + 1, 0, none⟩) (by show w.heap.size ≤ w.heap.size + 1; omega) (.int .i64 n)).setCell (p := ⟨w.heap.size + 1, 1, none⟩) (by show w.heap.size ≤ w.heap.size + 1; omega) (.slice p 0 k)).setCell (p := ⟨w.heap.size + 1, 2, none⟩) (by show w.heap.size ≤ w.heap.size + 1; omega) (.slice none 0 0)).setCell (p := ⟨w.heap.size + 1, 3, none⟩) (by show w.heap.size ≤ w.heap.size + 1; omega) (.int .i64 0))
      go_wp2
      refine bodyPost_ret (v := .agg #[.int .i64 n, .slice p 0 k, .slice none 0 0, .int .i64 0]) (by simp [results, Tryz.results28, go_sem, rj0, rj1, rj2, rj3]) rfl ?_
      exact HD2.out _ _ _ _ BE.out
    · obtain ⟨b, off, a0, a1, a2, a3, a4, v3, v4, rfl, hbS, hb0, hx, ⟨hc0, hc1, hc2, hc3, hc4⟩, s3, s4, _⟩ := change_row HS.out (k := 0) (by simp)
      have hx : c = (a0, a1, a2, (a3, a4)) := hx
      have hc0 : wr.cell? ⟨b, off, none⟩ = some (.int .i64 a0) := by simpa using hc0
      subst hx
      have hlen : (((a0, a1, a2, (a3, a4)) : ChangeT) :: t).length = t.length + 1 := rfl
      rw [hlen] at x1
      have gl : (0 : Int) < ((t.length + 1 : Nat) : Int) := by omega
      by_cases hq0 : a0 < q
      · have hq1 : decide (a0 < q) = true := by simpa using hq0
        obtain ⟨ao', hcut, hdr⟩ := cutCh wr (some ⟨b, off, none⟩) ((a0, a1, a2, (a3, a4)) :: t) 1 k (by simp) (by rw [hlen]; exact HS.out)
        have hcut1 : ∀ W : World, (Instr.slice 27 (.slice (some ⟨b, off, none⟩) (t.length + 1) k) (some (.int .i64 1)) none none).run Tryz.prog W = .ok (.slice ao' t.length (k - 1)) W := hcut
        have HDR : Hid (SlAt changeE (Fresh w2 w3) wr t (.slice ao' t.length (k - 1))) := Lib.hid hdr
        have f1 := T.out.soft 1
        have T2 := Lib.hid (T.out.set 1 (.slice ao' t.length (k - 1)))
        have HDW2 : Hid (t.dropWhile (fun c => decide (c.1 < q)) = fromL n d q) := Lib.hid (by rw [← HDW.out, List.dropWhile_cons, if_pos hq1])
        have HSm : Hid (SlAt changeE (Fresh w2 w3) (wr.setCell ⟨w3.heap.size, 1, none⟩ (.slice ao' t.length (k - 1))) t (.slice ao' t.length (k - 1))) := Lib.hid (HDR.out.frame (Same.set _ (g := w3.heap.size) 1 _ (by intro h; have := h.2; omega)))
        have b4 := hbel.setCell (p := ⟨w3.heap.size, 1, none⟩) (by show w.heap.size ≤ w3.heap.size; omega) (.slice ao' t.length (k - 1))
        have RR2 := Lib.hid (RR.out.far (R := w3.heap.size) (j := 1) (by omega) (.slice ao' t.length (k - 1)))
        have hm1 := T2.out.cell 1 rfl
        have hm0 := T.out.cell 1 rfl
        have hll2 : t.length ≤ d.length := by simp at hll; omega
        clear hcut hdr hdone hc1 hc2 hc3 hc4 s3 s4
        go_wp2
        go_roundw
        case rel => exact ⟨t, ao', k - 1, T2.out, HSm.out, HDW2.out, hll2, b4, RR2.out⟩
        case measure => rw [hm0, hm1]; show t.length < t.length + 1; omega
      · have hq1 : decide (a0 < q) = false := by simpa using hq0
        have HD2 : Hid _ := Lib.hid (fun v0 v1 v2 v3 => hdone.out v0 v1 v2 v3 (by rw [List.dropWhile_cons, if_neg (by simpa using hq0)]))
        clear hdone hc1 hc2 hc3 hc4 s3 s4
        have rf0 := RR.out.soft 0; have rz0 := RR.out.cell 0 rfl
        have rf1 := RR.out.soft 1; have rz1 := RR.out.cell 1 rfl
        have rf2 := RR.out.soft 2; have rz2 := RR.out.cell 2 rfl
        have rf3 := RR.out.soft 3; have rz3 := RR.out.cell 3 rfl
        have TE := ((((RR.out.set 0 (.int .i64 n)).set 1 (.slice (some ⟨b, off, none⟩) (t.length + 1) k)).set 2 (.slice none 0 0)).set 3 (.int .i64 0))
        have rj0 := TE.cell 0 rfl
        have rj1 := TE.cell 1 rfl
        have rj2 := TE.cell 2 rfl
        have rj3 := TE.cell 3 rfl
        clear TE
        have BE := Lib.hid ((((hbel.setCell (p := ⟨w.heap.size + 1, 0, none⟩) (by show w.heap.size ≤ w.heap.size + 1; omega) (.int .i64 n)).setCell (p := ⟨w.heap.size + 1, 1, none⟩) (by show w.heap.size ≤ w.heap.size + 1; omega) (.slice (some ⟨b, off, none⟩) (t.length + 1) k)).setCell (p := ⟨w.heap.size + 1, 2, none⟩) (by show w.heap.size ≤ w.heap.size + 1; omega) (.slice none 0 0)).setCell (p := ⟨w.heap.size + 1, 3, none⟩) (by show w.heap.size ≤ w.heap.size + 1; omega) (.int .i64 0))
        go_wp2
        refine bodyPost_ret (v := .agg #[.int .i64 n, .slice (some ⟨b, off, none⟩) (t.length + 1) k, .slice none 0 0, .int .i64 0]) (by simp [results, Tryz.results28, go_sem, rj0, rj1, rj2, rj3]) rfl ?_
        exact HD2.out _ _ _ _ BE.out
end Go.Proofs.YtmanlnlhpgdbpaaGreat
