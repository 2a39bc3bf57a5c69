/- Merged texts: ChI1, ChI2, EntR3. -/
import Derived.Test.YtmanlnlhpgdbpaaGreatM5
/- Change logs: the program's small functions. -/
namespace Go.Proofs.YtmanlnlhpgdbpaaGreat
open Go.RowKit
attribute [local go_sem ↓] Go.wp_at_zero Go.wp_at_succ

theorem fieldDn (v : Value) (c : Int) (w : World) : (Instr.field 101 (.agg #[v, .int .i64 c]) 0).run Tryz.prog w = .ok v w := by kernel_rfl
theorem len_zero (n : Nat) : ((n : Int) == 0) = decide (n = 0) := by rw [Bool.eq_iff_iff]; simp
set_option maxRecDepth 100000 in
set_option maxHeartbeats 1000000 in
theorem isZero_any (o3 o4 : Option Addr) (n3 n4 k3 k4 : Nat) (w : World) :
    Calls Tryz.prog 88 #[.agg #[.slice o3 n3 k3, .slice o4 n4 k4]] w fun e w' => e = .returned (.bool (decide (n3 = 0) && decide (n4 = 0))) ∧ Below w.heap.size w w' := by
  have e3 := len_zero n3
  have e4 := len_zero n4
  generalize decide (n3 = 0) = r3 at *
  generalize decide (n4 = 0) = r4 at *
  go_enter Tryz.func88, Tryz.ntmps88
  cases r3
  · go_wp2
    go_ret
    exact ⟨rfl, more' (Below.refl _ _) _⟩
  · go_wp2
    go_ret
    exact ⟨rfl, more' (Below.refl _ _) _⟩
set_option maxRecDepth 100000 in
set_option maxHeartbeats 1000000 in
theorem mayLeave_any (k : Int) (o3 o4 : Option Addr) (a3 : RdnL) (a4 : List AttrV) (k3 k4 : Nat) (w : World) (h3 : DnAt w o3 a3) (h4 : AttrsAt w o4 a4) (f3 : Fits a3) (f4 : FitsA a4) :
    Calls Tryz.prog 68 #[.int .i64 k, .agg #[.slice o3 a3.length k3, .slice o4 a4.length k4]] w fun e w' => e = .returned (.bool (mayB k a3 a4)) ∧ Below w.heap.size w w' := by
  have CR : Hid (∀ W : World, Below w.heap.size w W → Calls Tryz.prog 87 #[.agg #[.slice o3 a3.length k3, .slice o4 a4.length k4]] W fun e w' => e = .returned (.bool (rightB a3 a4)) ∧ Below W.heap.size W w') := Lib.hid (fun W b => EntryRight_any o3 o4 a3 a4 k3 k4 W (h3.below b) (h4.below b) f3 f4)
  have CZ : Hid (∀ W : World, Calls Tryz.prog 88 #[.agg #[.slice o3 a3.length k3, .slice o4 a4.length k4]] W fun e w' => e = .returned (.bool (noneB a3 a4)) ∧ Below W.heap.size W w') := Lib.hid (fun W => isZero_any o3 o4 _ _ k3 k4 W)
  have M1 : Hid (k = 1 ∨ k = 3 ∨ k = 4 → mayB k a3 a4 = rightB a3 a4) := Lib.hid (fun h => by rcases h with rfl | rfl | rfl <;> simp [mayB])
  have M2 : Hid (k = 2 → mayB k a3 a4 = noneB a3 a4) := Lib.hid (fun h => by subst h; simp [mayB])
  have M3 : Hid (k ≠ 1 → k ≠ 2 → k ≠ 3 → k ≠ 4 → mayB k a3 a4 = false) := Lib.hid (fun h1 h2 h3 h4 => by simp [mayB, h1, h2, h3, h4])
  clear h3 h4 f3 f4
  generalize rightB a3 a4 = r at *
  generalize noneB a3 a4 = z at *
  generalize mayB k a3 a4 = m at *
  by_cases c1 : k = 1
  · have HR := Lib.hid (M1.out (.inl c1)); subst c1
    go_enter Tryz.func68, Tryz.ntmps68
    go_wp2_with fail
    refine calls_by (fun W => Below w.heap.size w W) (more' (Below.refl _ _) _) ?_
    intro W b1
    refine (CR.out W b1).mono ?_
    rintro e w2 ⟨rfl, hb⟩
    go_wp2
    go_ret
    exact ⟨ret_bool HR.out.symm, b1.trans (hb.mono b1.size)⟩
  have c1' : (k == 1) = false := by simpa using c1
  by_cases c3 : k = 3
  · have HR := Lib.hid (M1.out (.inr (.inl c3))); subst c3
    go_enter Tryz.func68, Tryz.ntmps68
    go_wp2_with fail
    refine calls_by (fun W => Below w.heap.size w W) (more' (Below.refl _ _) _) ?_
    intro W b1
    refine (CR.out W b1).mono ?_
    rintro e w2 ⟨rfl, hb⟩
    go_wp2
    go_ret
    exact ⟨ret_bool HR.out.symm, b1.trans (hb.mono b1.size)⟩
  have c3' : (k == 3) = false := by simpa using c3
  by_cases c4 : k = 4
  · have HR := Lib.hid (M1.out (.inr (.inr c4))); subst c4
    go_enter Tryz.func68, Tryz.ntmps68
    go_wp2_with fail
    refine calls_by (fun W => Below w.heap.size w W) (more' (Below.refl _ _) _) ?_
    intro W b1
    refine (CR.out W b1).mono ?_
    rintro e w2 ⟨rfl, hb⟩
    go_wp2
    go_ret
    exact ⟨ret_bool HR.out.symm, b1.trans (hb.mono b1.size)⟩
  have c4' : (k == 4) = false := by simpa using c4
  by_cases c2 : k = 2
  · have HR := Lib.hid (M2.out c2); subst c2
    go_enter Tryz.func68, Tryz.ntmps68
    go_wp2_with fail
    refine calls_by (fun W => Below w.heap.size w W) (more' (Below.refl _ _) _) ?_
    intro W b1
    refine (CZ.out W).mono ?_
    rintro e w2 ⟨rfl, hb⟩
    go_wp2
    go_ret
    exact ⟨ret_bool HR.out.symm, b1.trans (hb.mono b1.size)⟩
  have c2' : (k == 2) = false := by simpa using c2
  have HR := Lib.hid (M3.out c1 c2 c3 c4)
  go_enter Tryz.func68, Tryz.ntmps68
  go_wp2
  go_ret
  exact ⟨ret_bool HR.out.symm, more' (Below.refl _ _) _⟩
set_option maxRecDepth 100000 in
set_option maxHeartbeats 1000000 in
theorem changeRight_any {S : Bs} (a0 a1 : Int) (a2 : ByteArray) (a3 : List RdnT) (a4 : List AttrT) (v3 v4 : Value) (w : World) (h3 : SlAt rdnE S w a3 v3) (h4 : SlAt attrE S w a4 v4) (hz : changeE.sz (a0, a1, a2, (a3, a4)) ≤ 1048576) :
    Calls Tryz.prog 37 #[.agg #[.int .i64 a0, .int .i64 a1, .string a2, v3, v4]] w fun e w' => e = .returned (.bool (chgB (a0, a1, a2, (a3, a4)))) ∧ Below w.heap.size w w' := by
  have HE : changeE.sz (a0, a1, a2, (a3, a4)) = 0 + (0 + (a2.size + ((a3.length + szL rdnE a3) + (a4.length + szL attrE a4)))) := rfl
  rw [HE] at hz
  obtain ⟨o3, k3, rfl⟩ := h3.sl
  obtain ⟨o4, k4, rfl⟩ := h4.sl
  have hs : a2.size ≤ maxLen := by unfold maxLen; omega
  have CM : Hid (∀ W : World, Below w.heap.size w W → Calls Tryz.prog 68 #[.int .i64 a1, .agg #[.slice o3 a3.length k3, .slice o4 a4.length k4]] W fun e w' => e = .returned (.bool (mayB a1 a3 a4)) ∧ Below W.heap.size W w') := Lib.hid (fun W b => mayLeave_any a1 o3 o4 a3 a4 k3 k4 W ((dn_of h3).below b) ((attrs_of h4).below b) (fits_dn (by omega)) (fits_attrs (by omega)))
  have HD : Hid (chgB (a0, a1, a2, (a3, a4)) = (decide (0 < (readD a2).length) && mayB a1 a3 a4)) := Lib.hid rfl
  have CD : Hid (∀ W : World, Calls Tryz.prog 67 #[.string a2] W fun e w' => (∃ o k, e = .returned (.agg #[.slice o (readD a2).length k, .int .i64 (readC a2)])) ∧ Below W.heap.size W w') := Lib.hid (fun W => (DnRead_any a2 W hs).mono fun e w' ⟨⟨v, he, ho⟩, hb⟩ => ⟨by obtain ⟨o, k, rfl⟩ := own_slice ho; exact ⟨o, k, he⟩, hb⟩)
  clear h3 h4 hz HE hs
  generalize readC a2 = rc at *
  generalize chgB (a0, a1, a2, (a3, a4)) = R at *
  generalize mayB a1 a3 a4 = m at *
  generalize (readD a2).length = n at *
  go_enter Tryz.func37, Tryz.ntmps37
  go_wp2_with fail
  refine calls_by (fun W => Below w.heap.size w W ∧ Blk W w.heap.size [.int .i64 a0, .int .i64 a1, .string a2, .slice o3 a3.length k3, .slice o4 a4.length k4]) ⟨more' (Below.refl _ _) _, Blk.new _ _ _⟩ ?_
  rintro W1 ⟨b1, t1⟩
  refine (CD.out W1).mono ?_
  rintro e w2 ⟨⟨o, k, rfl⟩, hb⟩
  have b2 := b1.trans (hb.mono b1.size); have T2 := Lib.hid (t1.below hb)
  clear hb t1 b1
  have x1 := T2.out.cell 1 rfl; have x3 := T2.out.cell 3 rfl; have x4 := T2.out.cell 4 rfl
  have hf0 := fieldDn
  by_cases hn : 0 < n
  · have hn1 : (0 : Int) < (n : Int) := by omega
    have HR := Lib.hid HD.out
    go_wp2_with fail
    refine (CM.out w2 b2).mono ?_
    rintro e w3 ⟨rfl, hb⟩
    go_wp2
    go_ret
    exact ⟨ret_bool (by rw [HR.out]; simp [hn]), b2.trans (hb.mono b2.size)⟩
  · have hn1 : ¬ (0 : Int) < (n : Int) := by omega
    have HR := Lib.hid HD.out
    go_wp2
    go_ret
    exact ⟨ret_bool (by rw [HR.out]; simp [hn]), b2⟩
end Go.Proofs.YtmanlnlhpgdbpaaGreat
/- Change logs: what the program's ChangesRight returns. -/
namespace Go.Proofs.YtmanlnlhpgdbpaaGreat
open Go.RowKit
attribute [local go_sem ↓] Go.wp_at_zero Go.wp_at_succ

set_option maxRecDepth 100000 in
set_option maxHeartbeats 1000000 in
theorem sequenceOf_any (n : Int) (o : Option Addr) (l k : Nat) (w : World) :
    Calls Tryz.prog 35 #[.agg #[.int .i64 n, .slice o l k]] w fun e w' => e = .returned (.agg #[.int .i64 n, .slice o l k]) ∧ Below w.heap.size w w' := by
  go_enter Tryz.func35, Tryz.ntmps35
  go_wp2
  refine bodyPost_ret (v := .agg #[.int .i64 n, .slice o l k]) (by simp [results, Tryz.results35, go_sem]) rfl ⟨rfl, more' (more' (Below.refl _ _) _) _⟩
set_option maxRecDepth 100000 in
set_option maxHeartbeats 1000000 in
theorem first_any (n : Int) (o : Option Addr) (l k : Nat) (w : World) (h1 : 0 ≤ n) (h2 : n ≤ 1000000) (h3 : l ≤ 1048576) :
    Calls Tryz.prog 36 #[.agg #[.int .i64 n, .slice o l k]] w fun e w' => e = .returned (.int .i64 (n - l)) ∧ Below w.heap.size w w' := by
  go_enter Tryz.func36, Tryz.ntmps36
  go_wp2
  go_ret
  exact ⟨rfl, more' (Below.refl _ _) _⟩
set_option maxRecDepth 100000 in
set_option maxHeartbeats 1000000 in
theorem ChangesRight_any {S : Bs} (n : Int) (v : Value) (d : List ChangeT) (w : World) (hd : SlAt changeE S w d v) (hz : d.length + szL changeE d ≤ 1048576) :
    Calls Tryz.prog 10 #[.agg #[.int .i64 n, v]] w fun e w' => e = .returned (.bool (chsB n d)) ∧ Below w.heap.size w w' := by
  obtain ⟨ao, ca, rfl⟩ := hd.sl
  have HA := Lib.hid hd
  have HZ : Hid (∀ x ∈ d, changeE.sz x ≤ 1048576) := Lib.hid (fun x h => by have h1 := szL_mem changeE h; omega)
  have hl : d.length ≤ 1048576 := by omega
  have HB := Lib.hid (@chsB_bad n d)
  have HG := Lib.hid (@chsB_good n d)
  clear hd hz
  generalize chsB n d = R at *
  by_cases c1 : n < 1
  · have HR := Lib.hid (HB.out (by omega))
    go_enter Tryz.func10, Tryz.ntmps10
    go_wp2
    go_ret
    exact ⟨ret_bool HR.out.symm, more' (Below.refl _ _) _⟩
  by_cases c2 : 1000000 < n
  · have HR := Lib.hid (HB.out (by omega))
    go_enter Tryz.func10, Tryz.ntmps10
    go_wp2
    go_ret
    exact ⟨ret_bool HR.out.symm, more' (Below.refl _ _) _⟩
  by_cases c3 : 40 < d.length
  · have HR := Lib.hid (HB.out (by omega))
    have c3' : (40 : Int) < (d.length : Int) := by omega
    go_enter Tryz.func10, Tryz.ntmps10
    go_wp2
    go_ret
    exact ⟨ret_bool HR.out.symm, more' (Below.refl _ _) _⟩
  have c3' : ¬ (40 : Int) < (d.length : Int) := by omega
  have HG' : Hid (1 ≤ n - (d.length : Int) → numsB (n - d.length) d = true → R = true) := Lib.hid (fun h1 h2 => HG.out (by omega) (by omega) (by omega) h1 h2)
  have HB' : Hid (¬ (1 ≤ n - (d.length : Int) ∧ numsB (n - d.length) d = true) → R = false) := Lib.hid (fun h => HB.out (fun x => h ⟨x.2.2.2.1, x.2.2.2.2⟩))
  clear HG HB
  go_enter Tryz.func10, Tryz.ntmps10
  go_wp2_with fail
  refine calls_by (fun W => Below w.heap.size w W ∧ Blk W w.heap.size [.int .i64 n, .slice ao d.length ca]) ⟨more' (Below.refl _ _) _, Blk.new _ _ _⟩ ?_
  rintro W1 ⟨b1, t1⟩
  refine (sequenceOf_any n ao d.length ca W1).mono ?_
  rintro e w2 ⟨rfl, hb⟩
  have b2 := b1.trans (hb.mono b1.size); have T2 := Lib.hid (t1.below hb)
  clear hb t1 b1
  go_wp2_with fail
  refine (first_any n ao d.length ca _ (by omega) (by omega) hl).mono ?_
  rintro e w3 ⟨rfl, hb⟩
  have b3 := b2.trans (hb.mono b2.size); have T3 := Lib.hid (T2.out.below hb)
  clear hb T2 b2
  have x1 := T3.out.cell 1 rfl
  have CR : Hid (∀ (W : World) (a0 a1 : Int) (a2 : ByteArray) (a3 : List RdnT) (a4 : List AttrT) (v3 v4 : Value) (S' : Bs), SlAt rdnE S' W a3 v3 → SlAt attrE S' W a4 v4 → changeE.sz (a0, a1, a2, (a3, a4)) ≤ 1048576 → Calls Tryz.prog 37 #[.agg #[.int .i64 a0, .int .i64 a1, .string a2, v3, v4]] W fun e w' => e = .returned (.bool (chgB (a0, a1, a2, (a3, a4)))) ∧ Below W.heap.size W w') := Lib.hid (fun W a0 a1 a2 a3 a4 v3 v4 S' h3 h4 hz => changeRight_any a0 a1 a2 a3 a4 v3 v4 W h3 h4 hz)
  have hf1 : 1 ≤ n := by omega
  have hf2 : n ≤ 1000000 := by omega
  generalize hf : n - (d.length : Int) = f at *
  have hf3 : -1000000 ≤ f ∧ f ≤ 1000000 := by omega
  have hd40 : d.length ≤ 40 := by omega
  clear hf T3
  go_wp2_with fail
  go_loopw [26] (fun i wr => ∃ k : Nat, k ≤ d.length ∧ i = .int .i64 k ∧ numsB f (d.take k) = true ∧ Below w.heap.size w wr) (fun i _ => d.length - (intOf i).toNat)
  case atStart => exact ⟨0, Nat.zero_le _, rfl, by simp [numsB], b3⟩
  case round =>
    clear b3 x1
    obtain ⟨k, hk, rfl, hgood, hbel⟩ := hrel
    have HGood := Lib.hid hgood; clear hgood
    by_cases hlt : k < d.length
    · obtain ⟨b, off, a0, a1, a2, a3, a4, v3, v4, rfl, _, hb0, hx, ⟨hc0, hc1, hc2, hc3, hc4⟩, s3, s4, _⟩ := change_row (HA.out.frame (Same.of_below' hbel)) hlt
      have HZ1 : Hid (changeE.sz (a0, a1, a2, (a3, a4)) ≤ 1048576) := Lib.hid (by have := HZ.out _ (List.getElem_mem hlt); rw [hx] at this; exact this)
      have HT : Hid (numsB f (d.take (k + 1)) = (numsB f (d.take k) && (decide (a0 = f + k) && chgB (a0, a1, a2, (a3, a4))))) := Lib.hid (by rw [numsB_take f d k hlt, hx])
      have HN : Hid ((decide (a0 = f + k) && chgB (a0, a1, a2, (a3, a4))) = false → numsB f d = false) := Lib.hid (fun h => numsB_bad f d k hlt (by rw [hx]; exact h))
      obtain ⟨o3, k3, rfl⟩ := s3.sl
      obtain ⟨o4, k4, rfl⟩ := s4.sl
      have CK : Hid (∀ W : World, Below wr.heap.size wr W → Calls Tryz.prog 37 #[.agg #[.int .i64 a0, .int .i64 a1, .string a2, .slice o3 a3.length k3, .slice o4 a4.length k4]] W fun e w' => e = .returned (.bool (chgB (a0, a1, a2, (a3, a4)))) ∧ Below W.heap.size W w') := Lib.hid (fun W b => CR.out W a0 a1 a2 a3 a4 _ _ _ (s3.frame (Same.of_below' b)) (s4.frame (Same.of_below' b)) HZ1.out)
      clear s3 s4 hx HZ1
      generalize chgB (a0, a1, a2, (a3, a4)) = rr at *
      have g1 : (0 : Int) ≤ (k : Int) := by omega
      have g2 : (k : Int) < (d.length : Int) := by omega
      by_cases hnum : a0 = f + k
      · subst hnum
        have hnn : (f + (k : Int) != f + (k : Int)) = false := by simp
        go_wp2_with fail
        refine calls_by (fun W => Below wr.heap.size wr W) (more' (Below.refl _ _) _) ?_
        intro W1 d1
        refine (CK.out W1 d1).mono ?_
        clear hc0 hc1 hc2 hc3 hc4
        rintro e w2 ⟨rfl, hb⟩
        have b2 := hbel.trans ((d1.trans (hb.mono d1.size)).mono hbel.size)
        clear hb d1
        cases rr
        · have HR := Lib.hid (HB'.out (fun h => by rw [HN.out (by simp)] at h; exact Bool.noConfusion h.2))
          go_wp2
          go_ret
          exact ⟨ret_bool HR.out.symm, b2⟩
        · have HT2 : Hid (numsB f (d.take (k + 1)) = true) := Lib.hid (by rw [HT.out, HGood.out]; simp)
          go_wp2
          go_roundw
          case rel => exact ⟨k + 1, by omega, by go_num, HT2.out, b2⟩
          case measure => simp [intOf]; omega
      · have hnn : (a0 != f + (k : Int)) = true := by simpa using hnum
        have HR := Lib.hid (HB'.out (fun h => by rw [HN.out (by simp [hnum])] at h; exact Bool.noConfusion h.2))
        go_wp2
        go_ret
        exact ⟨ret_bool HR.out.symm, more' hbel _⟩
    · have e : d.take k = d := List.take_of_length_le (by omega)
      have HO : Hid (numsB f d = true) := Lib.hid (by have := HGood.out; rw [e] at this; exact this)
      clear e
      by_cases h1 : 1 ≤ f
      · have HR := Lib.hid (HG'.out h1 HO.out)
        go_wp2
        go_ret
        exact ⟨ret_bool (by rw [HR.out]; first | done | simpa using h1), hbel⟩
      · have HR := Lib.hid (HB'.out (fun h => h1 h.1))
        have h1' : f < 1 := by omega
        go_wp2
        go_ret
        exact ⟨ret_bool (by rw [HR.out]; first | done | simpa using h1'), hbel⟩
end Go.Proofs.YtmanlnlhpgdbpaaGreat
/- EntryRight: what the specification returns. -/
namespace Go.Proofs.YtmanlnlhpgdbpaaGreat
open Go.RowKit
attribute [local go_sem ↓] Go.wp_at_zero Go.wp_at_succ

theorem valsB_bad {l : List ByteArray} {k : Nat} (h : k < l.length) (hb : valB l[k] = false) : valsB l = false := by unfold valsB; rw [all_bad valB l k h hb]; simp
theorem valsB_inc {l : List ByteArray} {m : Nat} (h : m + 1 < l.length) (hb : normLt l[m] l[m + 1] = false) : valsB l = false := by unfold valsB; rw [incB_no h hb]; simp
theorem valsB_all {l : List ByteArray} (h : l.all valB = true) (hi : ∀ j (h : j + 1 < l.length), normLt l[j] l[j + 1] = true) : valsB l = (decide (1 ≤ l.length) && decide (l.length ≤ 4)) := by
  unfold valsB; rw [h, incB_yes hi]; simp
set_option maxRecDepth 100000 in
set_option maxHeartbeats 2000000 in
theorem l03Values_any (ao : Option Addr) (l : List ByteArray) (cap : Nat) (w : World) (hd : StrsAt w ao l) (hf : FitsV l) :
    Calls Tryz.prog 103 #[.slice ao l.length cap] w fun e w' => e = .returned (.bool (valsB l)) ∧ Below w.heap.size w w' := by
  have hl := hf.1
  have HD := Lib.hid hd; have HF := Lib.hid hf; clear hd hf
  go_enter Tryz.func103, Tryz.ntmps103
  go_wp2
  go_loopw [3] (fun i wr => ∃ k : Nat, k ≤ l.length ∧ i = .int .i64 k ∧ (l.take k).all valB = true ∧ (∀ j (h : j + 1 < l.length), j + 1 < k → normLt l[j] l[j + 1] = true) ∧ Below w.heap.size w wr) (fun i _ => l.length - (intOf i).toNat)
  case atStart => exact ⟨0, Nat.zero_le _, rfl, rfl, fun j _ h => absurd h (Nat.not_lt_zero _), Below.refl _ _⟩
  case round =>
    obtain ⟨k, hk, rfl, ha, hj, hbel⟩ := hrel
    have Ha := Lib.hid ha; have Hj := Lib.hid hj; clear ha hj
    have hsz := hbel.size
    by_cases hlt : k < l.length
    · have hz := HF.out.max hlt
      have hbd := hbel.drew
      have g1 : (0 : Int) ≤ (k : Int) := by omega
      have g2 : (k : Int) < (l.length : Int) := by omega
      have HBad : Hid (valB l[k] = false → valsB l = false) := Lib.hid (fun h => valsB_bad hlt h)
      have HT : Hid (valB l[k] = true → (l.take (k + 1)).all valB = true) := Lib.hid (fun h => by rw [all_take valB l k hlt, Ha.out, h]; rfl)
      obtain ⟨b, off, rfl, hw0, hd1⟩ := HD.out.at hlt
      rcases k with _ | m
      · generalize hx : l[0] = X at *
        clear hx
        have H51 : Hid (∀ W, Below w.heap.size w W → Calls Tryz.prog 84 #[.string X] W fun e w' => e = .returned (.bool (valB X)) ∧ Below w.heap.size w w') :=
          Lib.hid (fun W h => (l02Value_any X W hz).mono fun _ _ g => ⟨g.1, h.trans (g.2.mono h.size)⟩)
        have SK : Hid (∀ W : World, Below w.heap.size w W → (Below w.heap.size w W ∧ W.cell? ⟨b, off, none⟩ = some (.string X))) :=
          Lib.hid (fun W h => ⟨h, (h.cell (p := ⟨b, _, none⟩) hw0).trans hd1⟩)
        clear hd1
        cases hv : valB X
        · have HB' := Lib.hid (HBad.out hv)
          rw [hv] at H51
          go_wp2_with fail
          refine wp_region_held_drew (S := (fun W => Below w.heap.size w W ∧ W.cell? ⟨b, off, none⟩ = some (.string X))) (by kernel_rfl) ?_ (fun hHeld => ?_)
          · (try dsimp only)
            exact SK.out _ (by assumption)
          refine wpAnyH_take (i := 0) (oi := { dst := some 10, op := Op.move (Operand.tmp 0), type := 94, pos := "l03_entry.go:8", after := #[], guard := none }) (v := ?_) rfl (by kernel_rfl) (by kernel_rfl) (by kernel_rfl) (fun _ _ _ h => h) (Or.inl ⟨by rfl, ?_⟩) (by assumption) ?_
          rotate_left
          · intro w hSw; (try dsimp only at hSw); go_simp; (try with_reducible rfl)
          (try simp only [Act.put, List.setIfInBounds_toArray, List.set_cons_zero, List.set_cons_succ])
          refine wpAnyH_take (i := 1) (oi := { dst := some 11, op := Op.move (Operand.tmp 3), type := 3, pos := "l03_entry.go:8", after := #[], guard := none }) (v := ?_) rfl (by kernel_rfl) (by kernel_rfl) (by kernel_rfl) (fun _ _ _ h => h) (Or.inl ⟨by rfl, ?_⟩) (by assumption) ?_
          rotate_left
          · intro w hSw; (try dsimp only at hSw); go_simp; (try with_reducible rfl)
          (try simp only [Act.put, List.setIfInBounds_toArray, List.set_cons_zero, List.set_cons_succ])
          refine wpAnyH_take (i := 2) (oi := { dst := some 12, op := Op.indexAddr 94 (Operand.tmp 10) (Operand.tmp 11), type := 0, pos := "l03_entry.go:8", after := #[{ on := 0, ground := Ground.data }, { on := 1, ground := Ground.data }], guard := none }) (v := ?_) rfl (by kernel_rfl) (by kernel_rfl) (by kernel_rfl) (fun _ _ _ h => h) (Or.inl ⟨by rfl, ?_⟩) (by assumption) ?_
          rotate_left
          · intro w hSw; (try dsimp only at hSw); go_simp; (try with_reducible rfl)
          (try simp only [Act.put, List.setIfInBounds_toArray, List.set_cons_zero, List.set_cons_succ])
          refine wpAnyH_take (i := 3) (oi := { dst := some 13, op := Op.load 9 (Operand.tmp 12), type := 9, pos := "l03_entry.go:8", after := #[{ on := 2, ground := Ground.data }], guard := none }) (v := ?_) rfl (by kernel_rfl) (by kernel_rfl) (by kernel_rfl) (fun _ _ _ h => h) (Or.inl ⟨by rfl, ?_⟩) (by assumption) ?_
          rotate_left
          · intro w hSw; (try dsimp only at hSw); go_simp; (try with_reducible rfl)
          (try simp only [Act.put, List.setIfInBounds_toArray, List.set_cons_zero, List.set_cons_succ])
          refine wpAnyH_ready (rs := [4]) (by kernel_rfl) (by simp) ?_
          refine AllReadyH.cons (o := { dst := some 14, op := Op.call { callee := Callee.value (Operand.func 84), args := #[Operand.tmp 13], argTypes := #[9] }, type := 4, pos := "l03_entry.go:8", after := #[{ on := 3, ground := Ground.data }], guard := none }) rfl (fun K hK => ?_) AllReadyH.nil
          go_simp
          (refine (H51.out _ (by assumption)).mono ?_; rintro e w1 ⟨rfl, hb1⟩; go_wp2_with fail)
          clear hHeld
          refine hK.out _ _ ?_ (fun hHeld => ?_)
          · (try dsimp only)
            exact SK.out _ (by assumption)
          clear hK K
          (try simp only [Act.put, List.setIfInBounds_toArray, List.set_cons_zero, List.set_cons_succ])
          refine wpAnyH_take (i := 5) (oi := { dst := some 15, op := Op.unOp UnOp.not 4 (Operand.tmp 14), type := 4, pos := "l03_entry.go:8", after := #[{ on := 4, ground := Ground.data }], guard := none }) (v := ?_) rfl (by kernel_rfl) (by kernel_rfl) (by kernel_rfl) (fun _ _ _ h => h) (Or.inl ⟨by rfl, ?_⟩) (by assumption) ?_
          rotate_left
          · intro w hSw; (try dsimp only at hSw); go_simp; (try with_reducible rfl)
          (try simp only [Act.put, List.setIfInBounds_toArray, List.set_cons_zero, List.set_cons_succ])
          refine wpAnyH_take (i := 6) (oi := { dst := some 16, op := Op.move (Operand.tmp 15), type := 4, pos := "l03_entry.go:8", after := #[{ on := 5, ground := Ground.data }, { on := 4, ground := Ground.chain }], guard := none }) (v := ?_) rfl (by kernel_rfl) (by kernel_rfl) (by kernel_rfl) (fun _ _ _ h => h) (Or.inl ⟨by rfl, ?_⟩) (by assumption) ?_
          rotate_left
          · intro w hSw; (try dsimp only at hSw); go_simp; (try with_reducible rfl)
          (try simp only [Act.put, List.setIfInBounds_toArray, List.set_cons_zero, List.set_cons_succ])
          refine wpAnyH_take (i := 7) (oi := { dst := some 17, op := Op.move (Operand.tmp 3), type := 3, pos := "l03_entry.go:8", after := #[{ on := 6, ground := Ground.guard }], guard := some (6, false) }) (v := undef) rfl (by kernel_rfl) (by kernel_rfl) (by kernel_rfl) (fun _ _ _ h => h) (Or.inr ⟨by rfl, rfl⟩) (by assumption) ?_
          (try simp only [Act.put, List.setIfInBounds_toArray, List.set_cons_zero, List.set_cons_succ])
          refine wpAnyH_take (i := 8) (oi := { dst := some 18, op := Op.binOp BinOp.gtr 3 (Operand.tmp 17) (Operand.const (Value.int IntKind.i64 0)) 3, type := 4, pos := "l03_entry.go:8", after := #[{ on := 7, ground := Ground.data }, { on := 6, ground := Ground.guard }], guard := some (6, false) }) (v := undef) rfl (by kernel_rfl) (by kernel_rfl) (by kernel_rfl) (fun _ _ _ h => h) (Or.inr ⟨by rfl, rfl⟩) (by assumption) ?_
          (try simp only [Act.put, List.setIfInBounds_toArray, List.set_cons_zero, List.set_cons_succ])
          refine wpAnyH_take (i := 9) (oi := { dst := some 19, op := Op.move (Operand.tmp 18), type := 4, pos := "l03_entry.go:8", after := #[{ on := 8, ground := Ground.data }, { on := 6, ground := Ground.chain }, { on := 6, ground := Ground.guard }], guard := some (6, false) }) (v := undef) rfl (by kernel_rfl) (by kernel_rfl) (by kernel_rfl) (fun _ _ _ h => h) (Or.inr ⟨by rfl, rfl⟩) (by assumption) ?_
          (try simp only [Act.put, List.setIfInBounds_toArray, List.set_cons_zero, List.set_cons_succ])
          refine wpAnyH_take (i := 10) (oi := { dst := some 20, op := Op.move (Operand.tmp 0), type := 94, pos := "l03_entry.go:8", after := #[{ on := 9, ground := Ground.guard }], guard := some (9, true) }) (v := undef) rfl (by kernel_rfl) (by kernel_rfl) (by kernel_rfl) (fun _ _ _ h => h) (Or.inr ⟨by rfl, rfl⟩) (by assumption) ?_
          (try simp only [Act.put, List.setIfInBounds_toArray, List.set_cons_zero, List.set_cons_succ])
          refine wpAnyH_take (i := 11) (oi := { dst := some 21, op := Op.move (Operand.tmp 3), type := 3, pos := "l03_entry.go:8", after := #[{ on := 9, ground := Ground.guard }], guard := some (9, true) }) (v := undef) rfl (by kernel_rfl) (by kernel_rfl) (by kernel_rfl) (fun _ _ _ h => h) (Or.inr ⟨by rfl, rfl⟩) (by assumption) ?_
          (try simp only [Act.put, List.setIfInBounds_toArray, List.set_cons_zero, List.set_cons_succ])
          refine wpAnyH_take (i := 12) (oi := { dst := some 22, op := Op.binOp BinOp.sub 3 (Operand.tmp 21) (Operand.const (Value.int IntKind.i64 1)) 3, type := 3, pos := "l03_entry.go:8", after := #[{ on := 11, ground := Ground.data }, { on := 9, ground := Ground.guard }], guard := some (9, true) }) (v := undef) rfl (by kernel_rfl) (by kernel_rfl) (by kernel_rfl) (fun _ _ _ h => h) (Or.inr ⟨by rfl, rfl⟩) (by assumption) ?_
          (try simp only [Act.put, List.setIfInBounds_toArray, List.set_cons_zero, List.set_cons_succ])
          refine wpAnyH_take (i := 13) (oi := { dst := some 23, op := Op.indexAddr 94 (Operand.tmp 20) (Operand.tmp 22), type := 0, pos := "l03_entry.go:8", after := #[{ on := 10, ground := Ground.data }, { on := 12, ground := Ground.data }, { on := 9, ground := Ground.guard }], guard := some (9, true) }) (v := undef) rfl (by kernel_rfl) (by kernel_rfl) (by kernel_rfl) (fun _ _ _ h => h) (Or.inr ⟨by rfl, rfl⟩) (by assumption) ?_
          (try simp only [Act.put, List.setIfInBounds_toArray, List.set_cons_zero, List.set_cons_succ])
          refine wpAnyH_take (i := 14) (oi := { dst := some 24, op := Op.load 9 (Operand.tmp 23), type := 9, pos := "l03_entry.go:8", after := #[{ on := 13, ground := Ground.data }, { on := 9, ground := Ground.guard }], guard := some (9, true) }) (v := undef) rfl (by kernel_rfl) (by kernel_rfl) (by kernel_rfl) (fun _ _ _ h => h) (Or.inr ⟨by rfl, rfl⟩) (by assumption) ?_
          (try simp only [Act.put, List.setIfInBounds_toArray, List.set_cons_zero, List.set_cons_succ])
          refine wpAnyH_take (i := 15) (oi := { dst := some 25, op := Op.call { callee := Callee.value (Operand.func 102), args := #[Operand.tmp 24], argTypes := #[9] }, type := 9, pos := "l03_entry.go:8", after := #[{ on := 14, ground := Ground.data }, { on := 9, ground := Ground.chain }, { on := 9, ground := Ground.guard }], guard := some (9, true) }) (v := undef) rfl (by kernel_rfl) (by kernel_rfl) (by kernel_rfl) (fun _ _ _ h => h) (Or.inr ⟨by rfl, rfl⟩) (by assumption) ?_
          (try simp only [Act.put, List.setIfInBounds_toArray, List.set_cons_zero, List.set_cons_succ])
          refine wpAnyH_take (i := 16) (oi := { dst := some 26, op := Op.move (Operand.tmp 0), type := 94, pos := "l03_entry.go:8", after := #[{ on := 9, ground := Ground.guard }], guard := some (9, true) }) (v := undef) rfl (by kernel_rfl) (by kernel_rfl) (by kernel_rfl) (fun _ _ _ h => h) (Or.inr ⟨by rfl, rfl⟩) (by assumption) ?_
          (try simp only [Act.put, List.setIfInBounds_toArray, List.set_cons_zero, List.set_cons_succ])
          refine wpAnyH_take (i := 17) (oi := { dst := some 27, op := Op.move (Operand.tmp 3), type := 3, pos := "l03_entry.go:8", after := #[{ on := 9, ground := Ground.guard }], guard := some (9, true) }) (v := undef) rfl (by kernel_rfl) (by kernel_rfl) (by kernel_rfl) (fun _ _ _ h => h) (Or.inr ⟨by rfl, rfl⟩) (by assumption) ?_
          (try simp only [Act.put, List.setIfInBounds_toArray, List.set_cons_zero, List.set_cons_succ])
          refine wpAnyH_take (i := 18) (oi := { dst := some 28, op := Op.indexAddr 94 (Operand.tmp 26) (Operand.tmp 27), type := 0, pos := "l03_entry.go:8", after := #[{ on := 16, ground := Ground.data }, { on := 17, ground := Ground.data }, { on := 9, ground := Ground.guard }], guard := some (9, true) }) (v := undef) rfl (by kernel_rfl) (by kernel_rfl) (by kernel_rfl) (fun _ _ _ h => h) (Or.inr ⟨by rfl, rfl⟩) (by assumption) ?_
          (try simp only [Act.put, List.setIfInBounds_toArray, List.set_cons_zero, List.set_cons_succ])
          refine wpAnyH_take (i := 19) (oi := { dst := some 29, op := Op.load 9 (Operand.tmp 28), type := 9, pos := "l03_entry.go:8", after := #[{ on := 18, ground := Ground.data }, { on := 9, ground := Ground.guard }], guard := some (9, true) }) (v := undef) rfl (by kernel_rfl) (by kernel_rfl) (by kernel_rfl) (fun _ _ _ h => h) (Or.inr ⟨by rfl, rfl⟩) (by assumption) ?_
          (try simp only [Act.put, List.setIfInBounds_toArray, List.set_cons_zero, List.set_cons_succ])
          refine wpAnyH_take (i := 20) (oi := { dst := some 30, op := Op.call { callee := Callee.value (Operand.func 102), args := #[Operand.tmp 29], argTypes := #[9] }, type := 9, pos := "l03_entry.go:8", after := #[{ on := 19, ground := Ground.data }, { on := 15, ground := Ground.chain }, { on := 9, ground := Ground.guard }], guard := some (9, true) }) (v := undef) rfl (by kernel_rfl) (by kernel_rfl) (by kernel_rfl) (fun _ _ _ h => h) (Or.inr ⟨by rfl, rfl⟩) (by assumption) ?_
          (try simp only [Act.put, List.setIfInBounds_toArray, List.set_cons_zero, List.set_cons_succ])
          refine wpAnyH_take (i := 21) (oi := { dst := some 31, op := Op.binOp BinOp.geq 9 (Operand.tmp 25) (Operand.tmp 30) 9, type := 4, pos := "l03_entry.go:8", after := #[{ on := 15, ground := Ground.data }, { on := 20, ground := Ground.data }, { on := 9, ground := Ground.guard }], guard := some (9, true) }) (v := undef) rfl (by kernel_rfl) (by kernel_rfl) (by kernel_rfl) (fun _ _ _ h => h) (Or.inr ⟨by rfl, rfl⟩) (by assumption) ?_
          (try simp only [Act.put, List.setIfInBounds_toArray, List.set_cons_zero, List.set_cons_succ])
          refine wpAnyH_take (i := 22) (oi := { dst := some 32, op := Op.pick (Operand.tmp 19) (Operand.tmp 31) (Operand.const (Value.bool false)), type := 4, pos := "l03_entry.go:8", after := #[{ on := 9, ground := Ground.data }, { on := 21, ground := Ground.data }, { on := 6, ground := Ground.guard }], guard := some (6, false) }) (v := undef) rfl (by kernel_rfl) (by kernel_rfl) (by kernel_rfl) (fun _ _ _ h => h) (Or.inr ⟨by rfl, rfl⟩) (by assumption) ?_
          (try simp only [Act.put, List.setIfInBounds_toArray, List.set_cons_zero, List.set_cons_succ])
          refine wpAnyH_take (i := 23) (oi := { dst := some 33, op := Op.pick (Operand.tmp 16) (Operand.const (Value.bool true)) (Operand.tmp 32), type := 4, pos := "l03_entry.go:8", after := #[{ on := 6, ground := Ground.data }, { on := 22, ground := Ground.data }], guard := none }) (v := ?_) rfl (by kernel_rfl) (by kernel_rfl) (by kernel_rfl) (fun _ _ _ h => h) (Or.inl ⟨by rfl, ?_⟩) (by assumption) ?_
          rotate_left
          · intro w hSw; (try dsimp only at hSw); go_simp; (try with_reducible rfl)
          (try simp only [Act.put, List.setIfInBounds_toArray, List.set_cons_zero, List.set_cons_succ])
          refine wpAnyH_done (by kernel_rfl) ?_ _
          go_wp2
          go_ret
          exact ⟨ret_bool HB'.out.symm, by assumption⟩
        · have HT' := Lib.hid (HT.out hv)
          rw [hv] at H51
          go_wp2_with fail
          refine wp_region_held_drew (S := (fun W => Below w.heap.size w W ∧ W.cell? ⟨b, off, none⟩ = some (.string X))) (by kernel_rfl) ?_ (fun hHeld => ?_)
          · (try dsimp only)
            exact SK.out _ (by assumption)
          refine wpAnyH_take (i := 0) (oi := { dst := some 10, op := Op.move (Operand.tmp 0), type := 94, pos := "l03_entry.go:8", after := #[], guard := none }) (v := ?_) rfl (by kernel_rfl) (by kernel_rfl) (by kernel_rfl) (fun _ _ _ h => h) (Or.inl ⟨by rfl, ?_⟩) (by assumption) ?_
          rotate_left
          · intro w hSw; (try dsimp only at hSw); go_simp; (try with_reducible rfl)
          (try simp only [Act.put, List.setIfInBounds_toArray, List.set_cons_zero, List.set_cons_succ])
          refine wpAnyH_take (i := 1) (oi := { dst := some 11, op := Op.move (Operand.tmp 3), type := 3, pos := "l03_entry.go:8", after := #[], guard := none }) (v := ?_) rfl (by kernel_rfl) (by kernel_rfl) (by kernel_rfl) (fun _ _ _ h => h) (Or.inl ⟨by rfl, ?_⟩) (by assumption) ?_
          rotate_left
          · intro w hSw; (try dsimp only at hSw); go_simp; (try with_reducible rfl)
          (try simp only [Act.put, List.setIfInBounds_toArray, List.set_cons_zero, List.set_cons_succ])
          refine wpAnyH_take (i := 2) (oi := { dst := some 12, op := Op.indexAddr 94 (Operand.tmp 10) (Operand.tmp 11), type := 0, pos := "l03_entry.go:8", after := #[{ on := 0, ground := Ground.data }, { on := 1, ground := Ground.data }], guard := none }) (v := ?_) rfl (by kernel_rfl) (by kernel_rfl) (by kernel_rfl) (fun _ _ _ h => h) (Or.inl ⟨by rfl, ?_⟩) (by assumption) ?_
          rotate_left
          · intro w hSw; (try dsimp only at hSw); go_simp; (try with_reducible rfl)
          (try simp only [Act.put, List.setIfInBounds_toArray, List.set_cons_zero, List.set_cons_succ])
          refine wpAnyH_take (i := 3) (oi := { dst := some 13, op := Op.load 9 (Operand.tmp 12), type := 9, pos := "l03_entry.go:8", after := #[{ on := 2, ground := Ground.data }], guard := none }) (v := ?_) rfl (by kernel_rfl) (by kernel_rfl) (by kernel_rfl) (fun _ _ _ h => h) (Or.inl ⟨by rfl, ?_⟩) (by assumption) ?_
          rotate_left
          · intro w hSw; (try dsimp only at hSw); go_simp; (try with_reducible rfl)
          (try simp only [Act.put, List.setIfInBounds_toArray, List.set_cons_zero, List.set_cons_succ])
          refine wpAnyH_ready (rs := [4]) (by kernel_rfl) (by simp) ?_
          refine AllReadyH.cons (o := { dst := some 14, op := Op.call { callee := Callee.value (Operand.func 84), args := #[Operand.tmp 13], argTypes := #[9] }, type := 4, pos := "l03_entry.go:8", after := #[{ on := 3, ground := Ground.data }], guard := none }) rfl (fun K hK => ?_) AllReadyH.nil
          go_simp
          (refine (H51.out _ (by assumption)).mono ?_; rintro e w1 ⟨rfl, hb1⟩; go_wp2_with fail)
          clear hHeld
          refine hK.out _ _ ?_ (fun hHeld => ?_)
          · (try dsimp only)
            exact SK.out _ (by assumption)
          clear hK K
          (try simp only [Act.put, List.setIfInBounds_toArray, List.set_cons_zero, List.set_cons_succ])
          refine wpAnyH_take (i := 5) (oi := { dst := some 15, op := Op.unOp UnOp.not 4 (Operand.tmp 14), type := 4, pos := "l03_entry.go:8", after := #[{ on := 4, ground := Ground.data }], guard := none }) (v := ?_) rfl (by kernel_rfl) (by kernel_rfl) (by kernel_rfl) (fun _ _ _ h => h) (Or.inl ⟨by rfl, ?_⟩) (by assumption) ?_
          rotate_left
          · intro w hSw; (try dsimp only at hSw); go_simp; (try with_reducible rfl)
          (try simp only [Act.put, List.setIfInBounds_toArray, List.set_cons_zero, List.set_cons_succ])
          refine wpAnyH_take (i := 6) (oi := { dst := some 16, op := Op.move (Operand.tmp 15), type := 4, pos := "l03_entry.go:8", after := #[{ on := 5, ground := Ground.data }, { on := 4, ground := Ground.chain }], guard := none }) (v := ?_) rfl (by kernel_rfl) (by kernel_rfl) (by kernel_rfl) (fun _ _ _ h => h) (Or.inl ⟨by rfl, ?_⟩) (by assumption) ?_
          rotate_left
          · intro w hSw; (try dsimp only at hSw); go_simp; (try with_reducible rfl)
          (try simp only [Act.put, List.setIfInBounds_toArray, List.set_cons_zero, List.set_cons_succ])
          refine wpAnyH_take (i := 7) (oi := { dst := some 17, op := Op.move (Operand.tmp 3), type := 3, pos := "l03_entry.go:8", after := #[{ on := 6, ground := Ground.guard }], guard := some (6, false) }) (v := ?_) rfl (by kernel_rfl) (by kernel_rfl) (by kernel_rfl) (fun _ _ _ h => h) (Or.inl ⟨by rfl, ?_⟩) (by assumption) ?_
          rotate_left
          · intro w hSw; (try dsimp only at hSw); go_simp; (try with_reducible rfl)
          (try simp only [Act.put, List.setIfInBounds_toArray, List.set_cons_zero, List.set_cons_succ])
          refine wpAnyH_take (i := 8) (oi := { dst := some 18, op := Op.binOp BinOp.gtr 3 (Operand.tmp 17) (Operand.const (Value.int IntKind.i64 0)) 3, type := 4, pos := "l03_entry.go:8", after := #[{ on := 7, ground := Ground.data }, { on := 6, ground := Ground.guard }], guard := some (6, false) }) (v := ?_) rfl (by kernel_rfl) (by kernel_rfl) (by kernel_rfl) (fun _ _ _ h => h) (Or.inl ⟨by rfl, ?_⟩) (by assumption) ?_
          rotate_left
          · intro w hSw; (try dsimp only at hSw); go_simp; (try with_reducible rfl)
          (try simp only [Act.put, List.setIfInBounds_toArray, List.set_cons_zero, List.set_cons_succ])
          refine wpAnyH_take (i := 9) (oi := { dst := some 19, op := Op.move (Operand.tmp 18), type := 4, pos := "l03_entry.go:8", after := #[{ on := 8, ground := Ground.data }, { on := 6, ground := Ground.chain }, { on := 6, ground := Ground.guard }], guard := some (6, false) }) (v := ?_) rfl (by kernel_rfl) (by kernel_rfl) (by kernel_rfl) (fun _ _ _ h => h) (Or.inl ⟨by rfl, ?_⟩) (by assumption) ?_
          rotate_left
          · intro w hSw; (try dsimp only at hSw); go_simp; (try with_reducible rfl)
          (try simp only [Act.put, List.setIfInBounds_toArray, List.set_cons_zero, List.set_cons_succ])
          refine wpAnyH_take (i := 10) (oi := { dst := some 20, op := Op.move (Operand.tmp 0), type := 94, pos := "l03_entry.go:8", after := #[{ on := 9, ground := Ground.guard }], guard := some (9, true) }) (v := undef) rfl (by kernel_rfl) (by kernel_rfl) (by kernel_rfl) (fun _ _ _ h => h) (Or.inr ⟨by rfl, rfl⟩) (by assumption) ?_
          (try simp only [Act.put, List.setIfInBounds_toArray, List.set_cons_zero, List.set_cons_succ])
          refine wpAnyH_take (i := 11) (oi := { dst := some 21, op := Op.move (Operand.tmp 3), type := 3, pos := "l03_entry.go:8", after := #[{ on := 9, ground := Ground.guard }], guard := some (9, true) }) (v := undef) rfl (by kernel_rfl) (by kernel_rfl) (by kernel_rfl) (fun _ _ _ h => h) (Or.inr ⟨by rfl, rfl⟩) (by assumption) ?_
          (try simp only [Act.put, List.setIfInBounds_toArray, List.set_cons_zero, List.set_cons_succ])
          refine wpAnyH_take (i := 12) (oi := { dst := some 22, op := Op.binOp BinOp.sub 3 (Operand.tmp 21) (Operand.const (Value.int IntKind.i64 1)) 3, type := 3, pos := "l03_entry.go:8", after := #[{ on := 11, ground := Ground.data }, { on := 9, ground := Ground.guard }], guard := some (9, true) }) (v := undef) rfl (by kernel_rfl) (by kernel_rfl) (by kernel_rfl) (fun _ _ _ h => h) (Or.inr ⟨by rfl, rfl⟩) (by assumption) ?_
          (try simp only [Act.put, List.setIfInBounds_toArray, List.set_cons_zero, List.set_cons_succ])
          refine wpAnyH_take (i := 13) (oi := { dst := some 23, op := Op.indexAddr 94 (Operand.tmp 20) (Operand.tmp 22), type := 0, pos := "l03_entry.go:8", after := #[{ on := 10, ground := Ground.data }, { on := 12, ground := Ground.data }, { on := 9, ground := Ground.guard }], guard := some (9, true) }) (v := undef) rfl (by kernel_rfl) (by kernel_rfl) (by kernel_rfl) (fun _ _ _ h => h) (Or.inr ⟨by rfl, rfl⟩) (by assumption) ?_
          (try simp only [Act.put, List.setIfInBounds_toArray, List.set_cons_zero, List.set_cons_succ])
          refine wpAnyH_take (i := 14) (oi := { dst := some 24, op := Op.load 9 (Operand.tmp 23), type := 9, pos := "l03_entry.go:8", after := #[{ on := 13, ground := Ground.data }, { on := 9, ground := Ground.guard }], guard := some (9, true) }) (v := undef) rfl (by kernel_rfl) (by kernel_rfl) (by kernel_rfl) (fun _ _ _ h => h) (Or.inr ⟨by rfl, rfl⟩) (by assumption) ?_
          (try simp only [Act.put, List.setIfInBounds_toArray, List.set_cons_zero, List.set_cons_succ])
          refine wpAnyH_take (i := 15) (oi := { dst := some 25, op := Op.call { callee := Callee.value (Operand.func 102), args := #[Operand.tmp 24], argTypes := #[9] }, type := 9, pos := "l03_entry.go:8", after := #[{ on := 14, ground := Ground.data }, { on := 9, ground := Ground.chain }, { on := 9, ground := Ground.guard }], guard := some (9, true) }) (v := undef) rfl (by kernel_rfl) (by kernel_rfl) (by kernel_rfl) (fun _ _ _ h => h) (Or.inr ⟨by rfl, rfl⟩) (by assumption) ?_
          (try simp only [Act.put, List.setIfInBounds_toArray, List.set_cons_zero, List.set_cons_succ])
          refine wpAnyH_take (i := 16) (oi := { dst := some 26, op := Op.move (Operand.tmp 0), type := 94, pos := "l03_entry.go:8", after := #[{ on := 9, ground := Ground.guard }], guard := some (9, true) }) (v := undef) rfl (by kernel_rfl) (by kernel_rfl) (by kernel_rfl) (fun _ _ _ h => h) (Or.inr ⟨by rfl, rfl⟩) (by assumption) ?_
          (try simp only [Act.put, List.setIfInBounds_toArray, List.set_cons_zero, List.set_cons_succ])
          refine wpAnyH_take (i := 17) (oi := { dst := some 27, op := Op.move (Operand.tmp 3), type := 3, pos := "l03_entry.go:8", after := #[{ on := 9, ground := Ground.guard }], guard := some (9, true) }) (v := undef) rfl (by kernel_rfl) (by kernel_rfl) (by kernel_rfl) (fun _ _ _ h => h) (Or.inr ⟨by rfl, rfl⟩) (by assumption) ?_
          (try simp only [Act.put, List.setIfInBounds_toArray, List.set_cons_zero, List.set_cons_succ])
          refine wpAnyH_take (i := 18) (oi := { dst := some 28, op := Op.indexAddr 94 (Operand.tmp 26) (Operand.tmp 27), type := 0, pos := "l03_entry.go:8", after := #[{ on := 16, ground := Ground.data }, { on := 17, ground := Ground.data }, { on := 9, ground := Ground.guard }], guard := some (9, true) }) (v := undef) rfl (by kernel_rfl) (by kernel_rfl) (by kernel_rfl) (fun _ _ _ h => h) (Or.inr ⟨by rfl, rfl⟩) (by assumption) ?_
          (try simp only [Act.put, List.setIfInBounds_toArray, List.set_cons_zero, List.set_cons_succ])
          refine wpAnyH_take (i := 19) (oi := { dst := some 29, op := Op.load 9 (Operand.tmp 28), type := 9, pos := "l03_entry.go:8", after := #[{ on := 18, ground := Ground.data }, { on := 9, ground := Ground.guard }], guard := some (9, true) }) (v := undef) rfl (by kernel_rfl) (by kernel_rfl) (by kernel_rfl) (fun _ _ _ h => h) (Or.inr ⟨by rfl, rfl⟩) (by assumption) ?_
          (try simp only [Act.put, List.setIfInBounds_toArray, List.set_cons_zero, List.set_cons_succ])
          refine wpAnyH_take (i := 20) (oi := { dst := some 30, op := Op.call { callee := Callee.value (Operand.func 102), args := #[Operand.tmp 29], argTypes := #[9] }, type := 9, pos := "l03_entry.go:8", after := #[{ on := 19, ground := Ground.data }, { on := 15, ground := Ground.chain }, { on := 9, ground := Ground.guard }], guard := some (9, true) }) (v := undef) rfl (by kernel_rfl) (by kernel_rfl) (by kernel_rfl) (fun _ _ _ h => h) (Or.inr ⟨by rfl, rfl⟩) (by assumption) ?_
          (try simp only [Act.put, List.setIfInBounds_toArray, List.set_cons_zero, List.set_cons_succ])
          refine wpAnyH_take (i := 21) (oi := { dst := some 31, op := Op.binOp BinOp.geq 9 (Operand.tmp 25) (Operand.tmp 30) 9, type := 4, pos := "l03_entry.go:8", after := #[{ on := 15, ground := Ground.data }, { on := 20, ground := Ground.data }, { on := 9, ground := Ground.guard }], guard := some (9, true) }) (v := undef) rfl (by kernel_rfl) (by kernel_rfl) (by kernel_rfl) (fun _ _ _ h => h) (Or.inr ⟨by rfl, rfl⟩) (by assumption) ?_
          (try simp only [Act.put, List.setIfInBounds_toArray, List.set_cons_zero, List.set_cons_succ])
          refine wpAnyH_take (i := 22) (oi := { dst := some 32, op := Op.pick (Operand.tmp 19) (Operand.tmp 31) (Operand.const (Value.bool false)), type := 4, pos := "l03_entry.go:8", after := #[{ on := 9, ground := Ground.data }, { on := 21, ground := Ground.data }, { on := 6, ground := Ground.guard }], guard := some (6, false) }) (v := ?_) rfl (by kernel_rfl) (by kernel_rfl) (by kernel_rfl) (fun _ _ _ h => h) (Or.inl ⟨by rfl, ?_⟩) (by assumption) ?_
          rotate_left
          · intro w hSw; (try dsimp only at hSw); go_simp; (try with_reducible rfl)
          (try simp only [Act.put, List.setIfInBounds_toArray, List.set_cons_zero, List.set_cons_succ])
          refine wpAnyH_take (i := 23) (oi := { dst := some 33, op := Op.pick (Operand.tmp 16) (Operand.const (Value.bool true)) (Operand.tmp 32), type := 4, pos := "l03_entry.go:8", after := #[{ on := 6, ground := Ground.data }, { on := 22, ground := Ground.data }], guard := none }) (v := ?_) rfl (by kernel_rfl) (by kernel_rfl) (by kernel_rfl) (fun _ _ _ h => h) (Or.inl ⟨by rfl, ?_⟩) (by assumption) ?_
          rotate_left
          · intro w hSw; (try dsimp only at hSw); go_simp; (try with_reducible rfl)
          (try simp only [Act.put, List.setIfInBounds_toArray, List.set_cons_zero, List.set_cons_succ])
          refine wpAnyH_done (by kernel_rfl) ?_ _
          go_wp2
          go_roundw
          case rel => exact ⟨1, by omega, by go_num, HT'.out, fun j _ h => by omega, by assumption⟩
          case measure => simp [intOf]; omega
      · have hm0 : m < l.length := by omega
        obtain ⟨b', off', e, _, hd2⟩ := HD.out.at hm0
        have g3 : (0 : Int) < (m : Int) + 1 := by omega
        have g4 : (0 : Int) ≤ (m : Int) := by omega
        have g5 : (m : Int) < (l.length : Int) := by omega
        have g6 : (m : Int) + 1 < (l.length : Int) := by omega
        have g7 : (0 : Int) ≤ (m : Int) + 1 := by omega
        cases e
        have hz2 := HF.out.max hm0
        have HInc : Hid (normLt l[m] l[m + 1] = false → valsB l = false) := Lib.hid (fun h => valsB_inc hlt h)
        have HN : Hid (normLt l[m] l[m + 1] = true → ∀ j (h : j + 1 < l.length), j + 1 < m + 1 + 1 → normLt l[j] l[j + 1] = true) := Lib.hid (fun hn j h hj => by
          by_cases e : j = m
          · subst e; exact hn
          · exact Hj.out j h (by omega))
        have HLt : Hid (∀ x y, normLt x y = Op.bytesLess (normS x).toList (normS y).toList) := Lib.hid (fun _ _ => rfl)
        generalize hx : l[m + 1] = X at *
        generalize hy : l[m] = Y at *
        clear hx hy
        have H51 : Hid (∀ W, Below w.heap.size w W → Calls Tryz.prog 84 #[.string X] W fun e w' => e = .returned (.bool (valB X)) ∧ Below w.heap.size w w') :=
          Lib.hid (fun W h => (l02Value_any X W hz).mono fun _ _ g => ⟨g.1, h.trans (g.2.mono h.size)⟩)
        cases hv : valB X
        · have HB' := Lib.hid (HBad.out hv)
          rw [hv] at H51
          have SK : Hid (∀ W : World, Below w.heap.size w W → (Below w.heap.size w W ∧ W.cell? ⟨b, off + (m + 1), none⟩ = some (.string X))) :=
            Lib.hid (fun W h => ⟨h, (h.cell (p := ⟨b, _, none⟩) hw0).trans hd1⟩)
          clear hd1 hd2
          go_wp2_with fail
          refine wp_region_held_drew (S := (fun W => Below w.heap.size w W ∧ W.cell? ⟨b, off + (m + 1), none⟩ = some (.string X))) (by kernel_rfl) ?_ (fun hHeld => ?_)
          · (try dsimp only)
            exact SK.out _ (by assumption)
          refine wpAnyH_take (i := 0) (oi := { dst := some 10, op := Op.move (Operand.tmp 0), type := 94, pos := "l03_entry.go:8", after := #[], guard := none }) (v := ?_) rfl (by kernel_rfl) (by kernel_rfl) (by kernel_rfl) (fun _ _ _ h => h) (Or.inl ⟨by rfl, ?_⟩) (by assumption) ?_
          rotate_left
          · intro w hSw; (try dsimp only at hSw); go_simp; (try with_reducible rfl)
          (try simp only [Act.put, List.setIfInBounds_toArray, List.set_cons_zero, List.set_cons_succ])
          refine wpAnyH_take (i := 1) (oi := { dst := some 11, op := Op.move (Operand.tmp 3), type := 3, pos := "l03_entry.go:8", after := #[], guard := none }) (v := ?_) rfl (by kernel_rfl) (by kernel_rfl) (by kernel_rfl) (fun _ _ _ h => h) (Or.inl ⟨by rfl, ?_⟩) (by assumption) ?_
          rotate_left
          · intro w hSw; (try dsimp only at hSw); go_simp; (try with_reducible rfl)
          (try simp only [Act.put, List.setIfInBounds_toArray, List.set_cons_zero, List.set_cons_succ])
          refine wpAnyH_take (i := 2) (oi := { dst := some 12, op := Op.indexAddr 94 (Operand.tmp 10) (Operand.tmp 11), type := 0, pos := "l03_entry.go:8", after := #[{ on := 0, ground := Ground.data }, { on := 1, ground := Ground.data }], guard := none }) (v := ?_) rfl (by kernel_rfl) (by kernel_rfl) (by kernel_rfl) (fun _ _ _ h => h) (Or.inl ⟨by rfl, ?_⟩) (by assumption) ?_
          rotate_left
          · intro w hSw; (try dsimp only at hSw); go_simp; (try with_reducible rfl)
          (try simp only [Act.put, List.setIfInBounds_toArray, List.set_cons_zero, List.set_cons_succ])
          refine wpAnyH_take (i := 3) (oi := { dst := some 13, op := Op.load 9 (Operand.tmp 12), type := 9, pos := "l03_entry.go:8", after := #[{ on := 2, ground := Ground.data }], guard := none }) (v := ?_) rfl (by kernel_rfl) (by kernel_rfl) (by kernel_rfl) (fun _ _ _ h => h) (Or.inl ⟨by rfl, ?_⟩) (by assumption) ?_
          rotate_left
          · intro w hSw; (try dsimp only at hSw); go_simp; (try with_reducible rfl)
          (try simp only [Act.put, List.setIfInBounds_toArray, List.set_cons_zero, List.set_cons_succ])
          refine wpAnyH_ready (rs := [4]) (by kernel_rfl) (by simp) ?_
          refine AllReadyH.cons (o := { dst := some 14, op := Op.call { callee := Callee.value (Operand.func 84), args := #[Operand.tmp 13], argTypes := #[9] }, type := 4, pos := "l03_entry.go:8", after := #[{ on := 3, ground := Ground.data }], guard := none }) rfl (fun K hK => ?_) AllReadyH.nil
          go_simp
          (refine (H51.out _ (by assumption)).mono ?_; rintro e w1 ⟨rfl, hb1⟩; go_wp2_with fail)
          clear hHeld
          refine hK.out _ _ ?_ (fun hHeld => ?_)
          · (try dsimp only)
            exact SK.out _ (by assumption)
          clear hK K
          (try simp only [Act.put, List.setIfInBounds_toArray, List.set_cons_zero, List.set_cons_succ])
          refine wpAnyH_take (i := 5) (oi := { dst := some 15, op := Op.unOp UnOp.not 4 (Operand.tmp 14), type := 4, pos := "l03_entry.go:8", after := #[{ on := 4, ground := Ground.data }], guard := none }) (v := ?_) rfl (by kernel_rfl) (by kernel_rfl) (by kernel_rfl) (fun _ _ _ h => h) (Or.inl ⟨by rfl, ?_⟩) (by assumption) ?_
          rotate_left
          · intro w hSw; (try dsimp only at hSw); go_simp; (try with_reducible rfl)
          (try simp only [Act.put, List.setIfInBounds_toArray, List.set_cons_zero, List.set_cons_succ])
          refine wpAnyH_take (i := 6) (oi := { dst := some 16, op := Op.move (Operand.tmp 15), type := 4, pos := "l03_entry.go:8", after := #[{ on := 5, ground := Ground.data }, { on := 4, ground := Ground.chain }], guard := none }) (v := ?_) rfl (by kernel_rfl) (by kernel_rfl) (by kernel_rfl) (fun _ _ _ h => h) (Or.inl ⟨by rfl, ?_⟩) (by assumption) ?_
          rotate_left
          · intro w hSw; (try dsimp only at hSw); go_simp; (try with_reducible rfl)
          (try simp only [Act.put, List.setIfInBounds_toArray, List.set_cons_zero, List.set_cons_succ])
          refine wpAnyH_take (i := 7) (oi := { dst := some 17, op := Op.move (Operand.tmp 3), type := 3, pos := "l03_entry.go:8", after := #[{ on := 6, ground := Ground.guard }], guard := some (6, false) }) (v := undef) rfl (by kernel_rfl) (by kernel_rfl) (by kernel_rfl) (fun _ _ _ h => h) (Or.inr ⟨by rfl, rfl⟩) (by assumption) ?_
          (try simp only [Act.put, List.setIfInBounds_toArray, List.set_cons_zero, List.set_cons_succ])
          refine wpAnyH_take (i := 8) (oi := { dst := some 18, op := Op.binOp BinOp.gtr 3 (Operand.tmp 17) (Operand.const (Value.int IntKind.i64 0)) 3, type := 4, pos := "l03_entry.go:8", after := #[{ on := 7, ground := Ground.data }, { on := 6, ground := Ground.guard }], guard := some (6, false) }) (v := undef) rfl (by kernel_rfl) (by kernel_rfl) (by kernel_rfl) (fun _ _ _ h => h) (Or.inr ⟨by rfl, rfl⟩) (by assumption) ?_
          (try simp only [Act.put, List.setIfInBounds_toArray, List.set_cons_zero, List.set_cons_succ])
          refine wpAnyH_take (i := 9) (oi := { dst := some 19, op := Op.move (Operand.tmp 18), type := 4, pos := "l03_entry.go:8", after := #[{ on := 8, ground := Ground.data }, { on := 6, ground := Ground.chain }, { on := 6, ground := Ground.guard }], guard := some (6, false) }) (v := undef) rfl (by kernel_rfl) (by kernel_rfl) (by kernel_rfl) (fun _ _ _ h => h) (Or.inr ⟨by rfl, rfl⟩) (by assumption) ?_
          (try simp only [Act.put, List.setIfInBounds_toArray, List.set_cons_zero, List.set_cons_succ])
          refine wpAnyH_take (i := 10) (oi := { dst := some 20, op := Op.move (Operand.tmp 0), type := 94, pos := "l03_entry.go:8", after := #[{ on := 9, ground := Ground.guard }], guard := some (9, true) }) (v := undef) rfl (by kernel_rfl) (by kernel_rfl) (by kernel_rfl) (fun _ _ _ h => h) (Or.inr ⟨by rfl, rfl⟩) (by assumption) ?_
          (try simp only [Act.put, List.setIfInBounds_toArray, List.set_cons_zero, List.set_cons_succ])
          refine wpAnyH_take (i := 11) (oi := { dst := some 21, op := Op.move (Operand.tmp 3), type := 3, pos := "l03_entry.go:8", after := #[{ on := 9, ground := Ground.guard }], guard := some (9, true) }) (v := undef) rfl (by kernel_rfl) (by kernel_rfl) (by kernel_rfl) (fun _ _ _ h => h) (Or.inr ⟨by rfl, rfl⟩) (by assumption) ?_
          (try simp only [Act.put, List.setIfInBounds_toArray, List.set_cons_zero, List.set_cons_succ])
          refine wpAnyH_take (i := 12) (oi := { dst := some 22, op := Op.binOp BinOp.sub 3 (Operand.tmp 21) (Operand.const (Value.int IntKind.i64 1)) 3, type := 3, pos := "l03_entry.go:8", after := #[{ on := 11, ground := Ground.data }, { on := 9, ground := Ground.guard }], guard := some (9, true) }) (v := undef) rfl (by kernel_rfl) (by kernel_rfl) (by kernel_rfl) (fun _ _ _ h => h) (Or.inr ⟨by rfl, rfl⟩) (by assumption) ?_
          (try simp only [Act.put, List.setIfInBounds_toArray, List.set_cons_zero, List.set_cons_succ])
          refine wpAnyH_take (i := 13) (oi := { dst := some 23, op := Op.indexAddr 94 (Operand.tmp 20) (Operand.tmp 22), type := 0, pos := "l03_entry.go:8", after := #[{ on := 10, ground := Ground.data }, { on := 12, ground := Ground.data }, { on := 9, ground := Ground.guard }], guard := some (9, true) }) (v := undef) rfl (by kernel_rfl) (by kernel_rfl) (by kernel_rfl) (fun _ _ _ h => h) (Or.inr ⟨by rfl, rfl⟩) (by assumption) ?_
          (try simp only [Act.put, List.setIfInBounds_toArray, List.set_cons_zero, List.set_cons_succ])
          refine wpAnyH_take (i := 14) (oi := { dst := some 24, op := Op.load 9 (Operand.tmp 23), type := 9, pos := "l03_entry.go:8", after := #[{ on := 13, ground := Ground.data }, { on := 9, ground := Ground.guard }], guard := some (9, true) }) (v := undef) rfl (by kernel_rfl) (by kernel_rfl) (by kernel_rfl) (fun _ _ _ h => h) (Or.inr ⟨by rfl, rfl⟩) (by assumption) ?_
          (try simp only [Act.put, List.setIfInBounds_toArray, List.set_cons_zero, List.set_cons_succ])
          refine wpAnyH_take (i := 15) (oi := { dst := some 25, op := Op.call { callee := Callee.value (Operand.func 102), args := #[Operand.tmp 24], argTypes := #[9] }, type := 9, pos := "l03_entry.go:8", after := #[{ on := 14, ground := Ground.data }, { on := 9, ground := Ground.chain }, { on := 9, ground := Ground.guard }], guard := some (9, true) }) (v := undef) rfl (by kernel_rfl) (by kernel_rfl) (by kernel_rfl) (fun _ _ _ h => h) (Or.inr ⟨by rfl, rfl⟩) (by assumption) ?_
          (try simp only [Act.put, List.setIfInBounds_toArray, List.set_cons_zero, List.set_cons_succ])
          refine wpAnyH_take (i := 16) (oi := { dst := some 26, op := Op.move (Operand.tmp 0), type := 94, pos := "l03_entry.go:8", after := #[{ on := 9, ground := Ground.guard }], guard := some (9, true) }) (v := undef) rfl (by kernel_rfl) (by kernel_rfl) (by kernel_rfl) (fun _ _ _ h => h) (Or.inr ⟨by rfl, rfl⟩) (by assumption) ?_
          (try simp only [Act.put, List.setIfInBounds_toArray, List.set_cons_zero, List.set_cons_succ])
          refine wpAnyH_take (i := 17) (oi := { dst := some 27, op := Op.move (Operand.tmp 3), type := 3, pos := "l03_entry.go:8", after := #[{ on := 9, ground := Ground.guard }], guard := some (9, true) }) (v := undef) rfl (by kernel_rfl) (by kernel_rfl) (by kernel_rfl) (fun _ _ _ h => h) (Or.inr ⟨by rfl, rfl⟩) (by assumption) ?_
          (try simp only [Act.put, List.setIfInBounds_toArray, List.set_cons_zero, List.set_cons_succ])
          refine wpAnyH_take (i := 18) (oi := { dst := some 28, op := Op.indexAddr 94 (Operand.tmp 26) (Operand.tmp 27), type := 0, pos := "l03_entry.go:8", after := #[{ on := 16, ground := Ground.data }, { on := 17, ground := Ground.data }, { on := 9, ground := Ground.guard }], guard := some (9, true) }) (v := undef) rfl (by kernel_rfl) (by kernel_rfl) (by kernel_rfl) (fun _ _ _ h => h) (Or.inr ⟨by rfl, rfl⟩) (by assumption) ?_
          (try simp only [Act.put, List.setIfInBounds_toArray, List.set_cons_zero, List.set_cons_succ])
          refine wpAnyH_take (i := 19) (oi := { dst := some 29, op := Op.load 9 (Operand.tmp 28), type := 9, pos := "l03_entry.go:8", after := #[{ on := 18, ground := Ground.data }, { on := 9, ground := Ground.guard }], guard := some (9, true) }) (v := undef) rfl (by kernel_rfl) (by kernel_rfl) (by kernel_rfl) (fun _ _ _ h => h) (Or.inr ⟨by rfl, rfl⟩) (by assumption) ?_
          (try simp only [Act.put, List.setIfInBounds_toArray, List.set_cons_zero, List.set_cons_succ])
          refine wpAnyH_take (i := 20) (oi := { dst := some 30, op := Op.call { callee := Callee.value (Operand.func 102), args := #[Operand.tmp 29], argTypes := #[9] }, type := 9, pos := "l03_entry.go:8", after := #[{ on := 19, ground := Ground.data }, { on := 15, ground := Ground.chain }, { on := 9, ground := Ground.guard }], guard := some (9, true) }) (v := undef) rfl (by kernel_rfl) (by kernel_rfl) (by kernel_rfl) (fun _ _ _ h => h) (Or.inr ⟨by rfl, rfl⟩) (by assumption) ?_
          (try simp only [Act.put, List.setIfInBounds_toArray, List.set_cons_zero, List.set_cons_succ])
          refine wpAnyH_take (i := 21) (oi := { dst := some 31, op := Op.binOp BinOp.geq 9 (Operand.tmp 25) (Operand.tmp 30) 9, type := 4, pos := "l03_entry.go:8", after := #[{ on := 15, ground := Ground.data }, { on := 20, ground := Ground.data }, { on := 9, ground := Ground.guard }], guard := some (9, true) }) (v := undef) rfl (by kernel_rfl) (by kernel_rfl) (by kernel_rfl) (fun _ _ _ h => h) (Or.inr ⟨by rfl, rfl⟩) (by assumption) ?_
          (try simp only [Act.put, List.setIfInBounds_toArray, List.set_cons_zero, List.set_cons_succ])
          refine wpAnyH_take (i := 22) (oi := { dst := some 32, op := Op.pick (Operand.tmp 19) (Operand.tmp 31) (Operand.const (Value.bool false)), type := 4, pos := "l03_entry.go:8", after := #[{ on := 9, ground := Ground.data }, { on := 21, ground := Ground.data }, { on := 6, ground := Ground.guard }], guard := some (6, false) }) (v := undef) rfl (by kernel_rfl) (by kernel_rfl) (by kernel_rfl) (fun _ _ _ h => h) (Or.inr ⟨by rfl, rfl⟩) (by assumption) ?_
          (try simp only [Act.put, List.setIfInBounds_toArray, List.set_cons_zero, List.set_cons_succ])
          refine wpAnyH_take (i := 23) (oi := { dst := some 33, op := Op.pick (Operand.tmp 16) (Operand.const (Value.bool true)) (Operand.tmp 32), type := 4, pos := "l03_entry.go:8", after := #[{ on := 6, ground := Ground.data }, { on := 22, ground := Ground.data }], guard := none }) (v := ?_) rfl (by kernel_rfl) (by kernel_rfl) (by kernel_rfl) (fun _ _ _ h => h) (Or.inl ⟨by rfl, ?_⟩) (by assumption) ?_
          rotate_left
          · intro w hSw; (try dsimp only at hSw); go_simp; (try with_reducible rfl)
          (try simp only [Act.put, List.setIfInBounds_toArray, List.set_cons_zero, List.set_cons_succ])
          refine wpAnyH_done (by kernel_rfl) ?_ _
          go_wp2
          go_ret
          exact ⟨ret_bool HB'.out.symm, by assumption⟩
        · have HT' := Lib.hid (HT.out hv)
          rw [hv] at H51
          have H93 : Hid (∀ (t : ByteArray) W, t.size ≤ maxLen → Below w.heap.size w W → Calls Tryz.prog 102 #[.string t] W fun e w' => e = .returned (.string (normS t)) ∧ Below w.heap.size w w') :=
            Lib.hid (fun t W ht h => (SpecNorm_any t W ht).mono fun _ _ g => ⟨g.1, h.trans (g.2.mono h.size)⟩)
          have SK : Hid (∀ W : World, Below w.heap.size w W → (Below w.heap.size w W ∧ W.cell? ⟨b, off + m, none⟩ = some (.string Y) ∧ W.cell? ⟨b, off + (m + 1), none⟩ = some (.string X))) :=
            Lib.hid (fun W h => ⟨h, (h.cell (p := ⟨b, _, none⟩) hw0).trans hd2, (h.cell (p := ⟨b, _, none⟩) hw0).trans hd1⟩)
          clear hd1 hd2
          have hwr : IntKind.i64.wrap (m : Int) = (m : Int) := IntWalk.i64_in _ (by omega)
          have hwr2 : IntKind.i64.wrap ((m : Int) + 1 - 1) = (m : Int) := by rw [Int.add_sub_cancel]; exact hwr
          cases hn : normLt Y X
          · have HI' := Lib.hid (HInc.out hn)
            have hless : Op.bytesLess (normS Y).toList (normS X).toList = false := (HLt.out Y X).symm.trans hn
            go_wp2_with fail
            go_region_held3 (fun W => Below w.heap.size w W ∧ W.cell? ⟨b, off + m, none⟩ = some (.string Y) ∧ W.cell? ⟨b, off + (m + 1), none⟩ = some (.string X))
              (exact SK.out _ (by assumption))
              (first
                | (go_at_call 84; refine (H51.out _ (by assumption)).mono ?_; rintro e w1 ⟨rfl, hb1⟩)
                | (go_at_call 102; refine (H93.out _ _ (by first | exact hz2 | exact hz) (by assumption)).mono ?_; rintro e w2 ⟨rfl, hb2⟩)
                | (fail "none"))
            all_goals
              go_wp2
              go_ret
              exact ⟨ret_bool HI'.out.symm, by assumption⟩
          · have HN' := Lib.hid (HN.out hn)
            have hless : Op.bytesLess (normS Y).toList (normS X).toList = true := (HLt.out Y X).symm.trans hn
            go_wp2_with fail
            go_region_held3 (fun W => Below w.heap.size w W ∧ W.cell? ⟨b, off + m, none⟩ = some (.string Y) ∧ W.cell? ⟨b, off + (m + 1), none⟩ = some (.string X))
              (exact SK.out _ (by assumption))
              (first
                | (go_at_call 84; refine (H51.out _ (by assumption)).mono ?_; rintro e w1 ⟨rfl, hb1⟩)
                | (go_at_call 102; refine (H93.out _ _ (by first | exact hz2 | exact hz) (by assumption)).mono ?_; rintro e w2 ⟨rfl, hb2⟩)
                | (fail "none"))
            all_goals
              go_wp2
              go_roundw
              case rel => exact ⟨m + 1 + 1, by omega, by go_num, HT'.out, HN'.out, by assumption⟩
              case measure => simp [intOf]; omega
    · have e : l.take k = l := List.take_of_length_le (by omega)
      have HT := Lib.hid (valsB_all (l := l) (by rw [← e]; exact Ha.out) (fun j h => Hj.out j h (by omega)))
      clear e
      by_cases h1 : 1 ≤ l.length
      · have g1 : (1 : Int) ≤ (l.length : Int) := by omega
        by_cases h4 : l.length ≤ 4
        · have g4 : (l.length : Int) ≤ 4 := by omega
          go_wp2
          go_ret
          exact ⟨ret_bool (by rw [HT.out]; simp [h1, h4]), hbel⟩
        · have g4 : ¬ (l.length : Int) ≤ 4 := by omega
          go_wp2
          go_ret
          exact ⟨ret_bool (by rw [HT.out]; simp [h4]), hbel⟩
      · have g1 : ¬ (1 : Int) ≤ (l.length : Int) := by omega
        go_wp2
        go_ret
        exact ⟨ret_bool (by rw [HT.out]; simp [h1]), hbel⟩
end Go.Proofs.YtmanlnlhpgdbpaaGreat
